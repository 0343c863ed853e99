/- PutEntry, by the program: put, and the function itself. Written by wip/gen/src.py. -/
import Derived.Test.YtmkddiconpacnaaPutI
namespace Go.Proofs.Ytmkddiconpacnaa
open Go.ChangeShapes Go.WideShapes Go.ChangeAt Go.RowKit
set_option linter.unusedVariables false
set_option linter.unusedSimpArgs false
set_option maxRecDepth 100000 in
set_option maxHeartbeats 4000000 in
theorem put_found (g cap n base : Nat) (es : List ByteArray) (nm vl : ByteArray) (hn : n ≤ 64) (hu : upE es n) (hf : fdE es n nm = true) (hl : es.length = 2 * n) (w : World) (hbw : base ≤ w.heap.size) (ho : w.ownsRow base 31 2 (.slice (some ⟨g, 0, none⟩) n cap) n (es.map Value.string)) :
    Calls Try.prog 73 #[.slice (some ⟨g, 0, none⟩) n cap, .agg #[.string nm, .string vl]] w fun e w' => ∃ v, e = .returned (.tuple #[v, .int .i64 0]) ∧ w'.ownsRow base 31 2 v (puB es n nm) ((puA es n nm vl).map Value.string) ∧ Below base w w' := by
  have hq : plc es n nm < n ∧ tx es (2 * plc es n nm) = nm := by unfold fdE at hf; exact of_decide_eq_true hf
  obtain ⟨a', cap', e0, hr⟩ := RdE.owned hl ho
  obtain ⟨rfl, _, rfl⟩ := Value.slice.inj e0
  have A0 := heap_alloc_last w (.cells #[.string nm, .string vl] 31)
  have B0' := (Below.refl w.heap.size w).alloc (Nat.le_refl _) (.cells #[.string nm, .string vl] 31)
  have HP := Lib.hid (fun U (hU : Below w.heap.size w U) => place_impl _ n cap es nm (by omega) hu U (hr.below hU))
  rw [hf] at HP
  obtain ⟨W0, hW0⟩ : ∃ W0, w.alloc (.cells #[.string nm, .string vl] 31) = W0 := ⟨_, rfl⟩
  rw [hW0] at A0 B0'
  have B0 := Lib.hid B0'
  have X0 := Lib.hid A0
  have HE := Lib.hid (puA_found vl hu hf)
  have HO := Lib.hid ho
  have hlt := hq.1
  have q0 := cell_of_row _ w.heap.size 0 _ _ _ A0
  have HQ := Lib.hid hq.2
  clear e0 hr hu hf ho hq A0 B0'
  generalize plc es n nm = p at HP hlt HE HQ
  go_enter Try.func73, Try.ntmps73
  go_wp2_with fail
  clear hW0 q0
  refine (HP.out _ B0.out).mono ?_
  rintro e w1 ⟨rfl, hb⟩
  have B1 := Lib.hid (below_call B0.out B0.out.size hb)
  have X1 := Lib.hid (keep_block X0.out hb)
  have O1 := owns_below HO.out B1.out
  rcases O1.2 with ⟨e1, _⟩ | ⟨g', cap', cur, e1, hb1, hg1, hc1, hm1, hs1, ht1⟩
  · cases e1
  obtain ⟨e2, _, e3⟩ := Value.slice.inj e1
  injection e2 with e2
  injection e2 with e2 _ _
  subst e2 e3
  have hcur : ∀ j, j < n * 2 → cur[j]? = some (.string (tx es j)) := fun j hj => by
    have : (cur.toList.take (n * 2))[j]? = (es.map Value.string)[j]? := by rw [ht1]
    rw [List.getElem?_take_of_lt (by omega), List.getElem?_map, tx_lt (by omega)] at this
    simpa using this
  have hrow : w1.rowIs g 31 (cap * 2) (fun j => cur[j]?.getD default) := ⟨cur, hg1, hs1, fun i hi => by show cur[i]? = some (cur[i]?.getD default); rw [Array.getElem?_eq_getElem (by omega)]; rfl⟩
  have hr2 := (hrow.set (p * 2) (.string nm)).set (p * 2 + 1) (.string vl)
  have hb2 := ((B1.out.mono hbw).setCell (p := ⟨g, p * 2, none⟩) hb1 (.string nm)).setCell (p := ⟨g, p * 2 + 1, none⟩) hb1 (.string vl)
  have X := Lib.hid (And.intro hr2 hb2)
  have HX := Lib.hid (And.intro hb1 (And.intro hc1 (And.intro hm1 hcur)))
  have c0 : w1.cell? ⟨g, p * 2, none⟩ = some (.string (tx es (p * 2))) := (cell_of_row w1 g _ _ _ _ hg1).trans (hcur _ (by omega))
  have c1 : w1.cell? ⟨g, p * 2 + 1, none⟩ = some (.string (tx es (p * 2 + 1))) := (cell_of_row w1 g _ _ _ _ hg1).trans (hcur _ (by omega))
  have f0 := hrow.frozen (p * 2)
  have f1 := hrow.frozen (p * 2 + 1)
  have q0 := cell_of_row _ w.heap.size 0 _ _ _ X1.out
  have q1 := cell_of_row _ w.heap.size 1 _ _ _ X1.out
  have b0 : (0 : Int) ≤ (p : Int) := by omega
  have b1 : (p : Int) < (n : Int) := by omega
  clear hb O1 e1 hb1 hg1 hc1 hm1 hs1 ht1 hcur hrow hr2 hb2
  go_wp2_with fail
  go_ret2
  obtain ⟨hb1, hc1, hm1, hcur⟩ := HX.out
  obtain ⟨hA, hB⟩ := HE.out
  rw [hA, hB]
  refine ⟨_, rfl, owns_of_row X.out.1 hb1 hc1 hm1 (by simp) (fun j hj => ?_), X.out.2⟩
  rw [tx_map hj]
  unfold rpE
  by_cases h2 : j = 2 * p + 1
  · rw [if_pos (by omega), if_neg (by omega), if_pos h2]
  · rw [if_neg (by omega)]
    by_cases h1 : j = 2 * p
    · rw [if_pos (by omega), if_pos h1]
    · rw [if_neg (by omega), if_neg h1, if_neg h2]
      simp only [hcur j (by omega)]
      rfl
set_option maxRecDepth 100000 in
set_option maxHeartbeats 4000000 in
theorem put_new (v : Value) (n base : Nat) (es : List ByteArray) (nm vl : ByteArray) (hn : n < 64) (hu : upE es n) (hf : fdE es n nm = false) (hl : es.length = 2 * n) (w : World) (hbw : base ≤ w.heap.size) (ho : w.ownsRow base 31 2 v n (es.map Value.string)) :
    Calls Try.prog 73 #[v, .agg #[.string nm, .string vl]] w fun e w' => ∃ v, e = .returned (.tuple #[v, .int .i64 0]) ∧ w'.ownsRow base 31 2 v (puB es n nm) ((puA es n nm vl).map Value.string) ∧ Below base w w' := by
  obtain ⟨i0, z0, hi0, hz0, hz1, hz2, hzs⟩ := entParts
  have Hi := Lib.hid hi0
  clear hi0
  have HO := Lib.hid ho
  obtain ⟨a, cap, rfl, hr⟩ := RdE.owned hl ho
  have A0 := heap_alloc_last w (.cells #[.string nm, .string vl] 31)
  have B0' := (Below.refl w.heap.size w).alloc (Nat.le_refl _) (.cells #[.string nm, .string vl] 31)
  have HP := Lib.hid (fun U (hU : Below w.heap.size w U) => place_impl a n cap es nm (by omega) hu U (hr.below hU))
  rw [hf] at HP
  obtain ⟨W0, hW0⟩ : ∃ W0, w.alloc (.cells #[.string nm, .string vl] 31) = W0 := ⟨_, rfl⟩
  rw [hW0] at A0 B0'
  have B0 := Lib.hid B0'
  have X0 := Lib.hid A0
  have HE := Lib.hid (puA_new vl hu hf)
  have hle := plc_le es n nm
  have q0 := cell_of_row _ w.heap.size 0 _ _ _ A0
  have HBW := Lib.hid hbw
  clear hr hu hf ho A0 B0' hbw
  generalize plc es n nm = p at HP hle HE
  go_enter Try.func73, Try.ntmps73
  go_wp2_with fail
  clear hW0 q0
  refine (HP.out _ B0.out).mono ?_
  rintro e w1 ⟨rfl, hb⟩
  have B1 := Lib.hid (below_call B0.out B0.out.size hb)
  have X1 := Lib.hid (keep_block X0.out hb)
  have LI := (Below.refl w1.heap.size w1).alloc (Nat.le_refl _) (.cells #[.string nm, .string vl] 31)
  have O2 := Lib.hid (owns_below (owns_below HO.out B1.out) LI)
  have B2 := Lib.hid (below_call B1.out B1.out.size LI)
  have NE := Lib.hid (show (Value.slice a n cap).ownBlock ≠ some w1.heap.size from fun e => by have := (HO.out.lt _ e).2; have := B1.out.size; omega)
  have HI := Lib.hid (ins_any (.slice a n cap) n base p w1.heap.size es nm vl (by omega) hle _ O2.out (Nat.le_trans HBW.out B2.out.size) (heap_alloc_last w1 (.cells #[.string nm, .string vl] 31)) NE.out)
  have q0 := cell_of_row _ w.heap.size 0 _ _ _ X1.out
  have q1 := cell_of_row _ w.heap.size 1 _ _ _ X1.out
  have p2 : ¬ ((n : Int) = 64) := by omega
  clear hb LI
  go_wp2_with (refine buildE rfl 27 31 _ rfl Try.underlying27 Hi.out hz0 #[.string nm, .string vl] rfl (by rw [hz1]; rfl) (by rw [hz1]; decide) (by rw [hz1]; decide) ?_)
  refine HI.out.mono ?_
  rintro e w3 ⟨v3, rfl, ho3, hb⟩
  have O3 := Lib.hid ho3
  have B3 := Lib.hid ((B2.out.mono HBW.out).trans hb)
  clear ho3 hb q0 q1
  go_wp2_with fail
  go_ret2
  obtain ⟨hA, hB⟩ := HE.out
  rw [hA, hB]
  exact ⟨_, rfl, O3.out, B3.out⟩
set_option maxRecDepth 100000 in
set_option maxHeartbeats 4000000 in
theorem put_full (v : Value) (base : Nat) (es : List ByteArray) (nm vl : ByteArray) (hu : upE es 64) (hf : fdE es 64 nm = false) (hl : es.length = 2 * 64) (w : World) (ho : w.ownsRow base 31 2 v 64 (es.map Value.string)) :
    Calls Try.prog 73 #[v, .agg #[.string nm, .string vl]] w fun e w' => e = .returned (.tuple #[.slice none 0 0, .int .i64 3]) ∧ Below w.heap.size w w' := by
  obtain ⟨a, cap, rfl, hr⟩ := RdE.owned hl ho
  have A0 := heap_alloc_last w (.cells #[.string nm, .string vl] 31)
  have B0' := (Below.refl w.heap.size w).alloc (Nat.le_refl _) (.cells #[.string nm, .string vl] 31)
  have HP := Lib.hid (fun U (hU : Below w.heap.size w U) => place_impl a 64 cap es nm (by omega) hu U (hr.below hU))
  rw [hf] at HP
  obtain ⟨W0, hW0⟩ : ∃ W0, w.alloc (.cells #[.string nm, .string vl] 31) = W0 := ⟨_, rfl⟩
  rw [hW0] at A0 B0'
  have B0 := Lib.hid B0'
  have X0 := Lib.hid A0
  have q0 := cell_of_row _ w.heap.size 0 _ _ _ A0
  clear hr hu hf ho A0 B0' hl
  generalize plc es 64 nm = p at HP
  go_enter Try.func73, Try.ntmps73
  go_wp2_with fail
  clear hW0 q0
  refine (HP.out _ B0.out).mono ?_
  rintro e w1 ⟨rfl, hb⟩
  have B1 := Lib.hid (below_call B0.out B0.out.size hb)
  clear hb
  go_wp2_with fail
  go_ret2
  exact ⟨rfl, B1.out⟩
end Go.Proofs.Ytmkddiconpacnaa
