/- A stack: an item pushed. Written by wip/gen/push.py. -/
import Derived.Test.YtjijgckljjcfiaaStack
import Derived.Test.YtjijgckljjcfiaaPeaksI
namespace Go.Proofs.Ytjijgckljjcfiaa
open Go.ChangeShapes Go.WideShapes Go.ChangeAt Go.RowKit
set_option linter.unusedVariables false
set_option linter.unusedSimpArgs false
theorem owns_ne {w : World} {base size k g : Nat} {T ST : TypeId} {v : Value} {xs : List Value} {c : Array Value} {fr : Nat × Nat} (h : w.ownsRow base T size v k xs) (hg : w.heap[g]? = some (.cells c ST fr)) (hT : T ≠ ST) : v.ownBlock ≠ some g := by
  rcases h.2 with ⟨h0, _⟩ | ⟨b, cap, cur, hv, _, hh, _⟩
  · rw [h0]
    intro e
    cases e
  · rw [hv]
    intro e
    obtain rfl : b = g := by simpa [Value.ownBlock] using e
    rw [hg] at hh
    cases hh
    exact hT rfl
theorem owns_setCell1 {w : World} {base size k g : Nat} {T : TypeId} {v u : Value} {xs : List Value} (hne : v.ownBlock ≠ some g) (h : w.ownsRow base T size v k xs) : (w.setCell ⟨g, 0, none⟩ u).ownsRow base T size v k xs := by
  refine ⟨h.1, ?_⟩
  rcases h.2 with h0 | ⟨b, cap, cur, hv, hb, hh, r⟩
  · exact Or.inl h0
  · exact Or.inr ⟨b, cap, cur, hv, hb, (heap_setCell_other _ _ _ _ (fun e => hne (by rw [hv]; simp [Value.ownBlock]; exact e))).trans hh, r⟩
theorem wp_buildSlice_one {P : Program} {o : Oper} {a : Act} {w : World} {K : Act → World → Prop} {Q : Exit → Act → World → Prop} (t e : TypeId) (x : Operand) (ho : o.op = .buildSlice t 1 #[(0, x)])
    {i : TypeInfo} {z : Value} (hu : P.underlying t = some (.slice e)) (hi : P.info? e = some i) (hz : i.zero = some z) (v : Array Value) (hx : a.eval x = .agg v) (hs : v.size = i.size) (hb : i.size ≤ 2 ^ 24) (h0 : 0 < i.size)
    (h : K (a.put o.dst (.slice (some ⟨w.heap.size, 0, none⟩) 1 1)) (w.alloc (.cells v e))) : o.wp P a w K Q := by
  unfold Oper.wp execOp
  simp only [ho, List.map_toArray, List.map_cons, List.map_nil, hx, Sem.run_bind, Sem.run_pure, Result.andThen_ok, run_buildSlice_one hu hi hz v hs hb h0]
  exact h
theorem turnInfo : (Try.prog.info? 141).map (fun i => (i.zero.map (·.cells.size), i.size, i.bytes)) = some (some 3, 3, 24) := by kernel_rfl
theorem turnParts : ∃ (i : TypeInfo) (z : Value), Try.prog.info? 141 = some i ∧ i.zero = some z ∧ i.size = 3 ∧ i.bytes = 24 ∧ z.cells.size = 3 := by
  obtain ⟨i, hi, hzz⟩ := Option.map_eq_some_iff.1 turnInfo
  simp only [Prod.mk.injEq] at hzz
  obtain ⟨hz, hs, hb⟩ := hzz
  obtain ⟨z, hz0, hzc⟩ := Option.map_eq_some_iff.1 hz
  exact ⟨i, z, hi, hz0, hs, hb, hzc⟩
theorem keyParts4 : ∃ (i : TypeInfo) (z : Value), Try.prog.info? 28 = some i ∧ i.zero = some z ∧ i.size = 32 ∧ i.bytes = 32 ∧ z.cells.size = 32 := by
  obtain ⟨i, z, h1, h2, h3, h4, h5, _⟩ := keyParts
  exact ⟨i, z, h1, h2, h3, h4, h5⟩
set_option maxRecDepth 100000 in
set_option maxHeartbeats 4000000 in
theorem push_turn (g base k : Nat) (v : Value) (xs : List Value) (r : Bool) (b0 e0 : Nat) (hk : k ≤ 1048576) (w : World) (hg : w.heap[g]? = some (.cells #[v] 86)) (ho : w.ownsRow base 141 3 v k xs) (hb : base ≤ w.heap.size) :
    Calls Try.prog 111 #[.pointer (some ⟨g, 0, none⟩), .agg ((#[.bool r, .int .i64 (b0 : Int), .int .i64 (e0 : Int)] : Array Value))] w fun e w' => e = .returned (.tuple #[]) ∧ ∃ v', w'.heap[g]? = some (.cells #[v'] 86) ∧ w'.ownsRow base 141 3 v' (k + 1) (xs ++ ((#[.bool r, .int .i64 (b0 : Int), .int .i64 (e0 : Int)] : Array Value)).toList) ∧ Keep w.heap.size (fun b => b = g ∨ some b = v.ownBlock) w w' := by
  obtain ⟨i0, z0, hi, hz0, hz1, hz2, hzs⟩ := turnParts
  have Hi := Lib.hid hi
  clear hi
  have Hb := Lib.hid hb
  have HO := Lib.hid ho
  have HG := Lib.hid hg
  have HNE := Lib.hid (owns_ne ho hg (by decide))
  have HGL := Lib.hid (Array.getElem?_eq_some_iff.1 hg).1
  have HI := Lib.hid (show (#[.bool r, .int .i64 (b0 : Int), .int .i64 (e0 : Int)] : Array Value).size = 3 from rfl)
  clear hg ho hb
  generalize hitem : (#[.bool r, .int .i64 (b0 : Int), .int .i64 (e0 : Int)] : Array Value) = item at HI ⊢
  have BW := Lib.hid ((Below.refl w.heap.size w).alloc (Nat.le_refl _) (.cells item 141))
  have GI := Lib.hid (heap_alloc_last w (.cells item 141))
  have G0 := Lib.hid (keep_block HG.out BW.out)
  have O0 := Lib.hid (HO.out.alloc (.cells item 141))
  obtain ⟨W0, hW0⟩ : ∃ W0, w.alloc (.cells item 141) = W0 := ⟨_, rfl⟩
  rw [hW0] at BW GI G0 O0
  have HSZ : Hid (W0.heap.size = w.heap.size + 1) := Lib.hid (by rw [← hW0]; simp)
  go_enter Try.func111, Try.ntmps111
  go_wp2_with fail
  try rw [hW0]
  clear hW0
  refine wp_region_held_drew (S := fun W => W.heap[w.heap.size]? = some (.cells item 141)) (by kernel_rfl) GI.out (fun hS => ?_)
  have HSD := Lib.hid (show W0.drew.heap.size = w.heap.size + 1 from HSZ.out)
  have GD := Lib.hid (show W0.drew.heap[g]? = some (.cells #[v] 86) from G0.out)
  have ID := Lib.hid (show W0.drew.heap[w.heap.size]? = some (.cells item 141) from GI.out)
  have OD := Lib.hid (owns_below O0.out (Below.drew (Below.refl W0.heap.size W0)))
  have BD := Lib.hid (Below.drew BW.out)
  generalize W0.drew = WD at *
  refine take_at (i := 0) (v := .pointer (some ⟨g, 0, none⟩)) rfl rfl (by kernel_rfl) (by kernel_rfl) (by kernel_rfl) (fun _ _ _ h => h) (Or.inl ⟨by rfl, fun W hW => by go_simp⟩) hS ?_
  refine take_at (i := 1) (v := .pointer (some ⟨g, 0, none⟩)) rfl rfl (by kernel_rfl) (by kernel_rfl) (by kernel_rfl) (fun _ _ _ h => h) (Or.inl ⟨by rfl, fun W hW => by go_simp⟩) hS ?_
  simp only [List.setIfInBounds_toArray, List.set_cons_zero, List.set_cons_succ]
  refine take_at (i := 2) (v := .pointer (some ⟨g, 0, none⟩)) rfl rfl (by kernel_rfl) (by kernel_rfl) (by kernel_rfl) (fun _ _ _ h => h) (Or.inl ⟨by rfl, fun W hW => by go_simp⟩) hS ?_
  simp only [List.setIfInBounds_toArray, List.set_cons_zero, List.set_cons_succ]
  refine take_at (i := 3) (v := .pointer (some ⟨g, 0, none⟩)) rfl rfl (by kernel_rfl) (by kernel_rfl) (by kernel_rfl) (fun _ _ _ h => h) (Or.inl ⟨by rfl, fun W hW => by go_simp⟩) hS ?_
  simp only [List.setIfInBounds_toArray, List.set_cons_zero, List.set_cons_succ]
  refine take_at (i := 5) (v := .agg item) rfl rfl (by kernel_rfl) (by kernel_rfl) (by kernel_rfl) (fun _ _ _ h => h) (yields_row (by rfl) 141 _ rfl w.heap.size rfl item 141 _ (fun W hW => hW) Try.underlying141 rfl (by rw [HI.out]; kernel_rfl)) hS ?_
  simp only [List.setIfInBounds_toArray, List.set_cons_zero, List.set_cons_succ]
  refine wpAnyH_ready (rs := [4, 6]) (by kernel_rfl) (by simp) ?_
  refine AllReadyH.cons rfl (fun K' hK => ?_) (AllReadyH.cons rfl (fun K' hK => ?_) AllReadyH.nil)
  · rw [if_pos (by rfl)]
    have hc := cell_of_one GD.out
    go_simp
    refine hK.out _ _ hS (fun hS => ?_)
    clear hK hc
    refine wpAnyH_ready (rs := [6]) (by kernel_rfl) (by simp) ?_
    refine AllReadyH.cons rfl (fun K' hK => ?_) AllReadyH.nil
    rw [if_pos (by rfl)]
    refine wp_buildSlice_one 84 141 _ rfl Try.underlying84 Hi.out hz0 item rfl (by rw [HI.out, hz1]) (by rw [hz1]; decide) (by rw [hz1]; decide) ?_
    simp only [Act.put]
    refine hK.out _ _ (keep_block hS ((Below.refl _ _).alloc (Nat.le_refl _) _)) (fun hS => ?_)
    clear hK
    refine wpAnyH_ready (rs := [7]) (by kernel_rfl) (by simp) ?_
    refine AllReadyH.cons rfl (fun K' hK => ?_) AllReadyH.nil
    rw [if_pos (by rfl)]
    refine wp_append_own _ _ _ 84 rfl base 141 i0 z0 3 24 Try.underlying84 Hi.out hz0 hz1 hz2 hzs (by decide) v k xs rfl (OD.out.alloc _) ⟨WD.heap.size, 0, none⟩ 1 1 item.toList rfl (by rw [Nat.one_mul]; simpa using HI.out) ?c1 ?c2 ?c3 ?c4 ?c5 ?_
    case c1 =>
      intro p u hu
      rw [addr_add, Nat.zero_add, cell_of_row _ WD.heap.size p _ _ _ (heap_alloc_last WD (.cells item 141)), ← hu]
      simp
    case c2 => rw [← hitem]; exact by intro u hu; simp at hu; rcases hu with rfl | rfl | rfl <;> rfl
    case c3 => unfold maxLen; omega
    case c4 => omega
    case c5 => have := Hb.out; have := HSD.out; simp; omega
    intro v4 w4 hown4 hgrow4 hnil4
    obtain ⟨a4, c4, hv4⟩ := owns_slc hown4
    subst hv4
    have O4 := Lib.hid hown4
    have GA := Lib.hid (keep_block GD.out ((Below.refl _ _).alloc (Nat.le_refl _) (.cells item 141)))
    have K4 := Lib.hid (show Keep w.heap.size (fun b => b = g ∨ some b = v.ownBlock) w w4 from
      (Keep.of _ (BD.out.trans (((Below.refl WD.heap.size WD).alloc (Nat.le_refl _) (.cells item 141)).mono BD.out.size))).trans
        ⟨hgrow4.os, hgrow4.tape, hgrow4.output, hgrow4.size, fun q hq hx => hgrow4.block q (by have := HSD.out; simp; omega) (fun h => hx (Or.inr h))⟩)
    have G4 := Lib.hid ((hgrow4.block g (Array.getElem?_eq_some_iff.1 GA.out).1 (fun h => HNE.out h.symm)).trans GA.out)
    refine hK.out _ _ ((hgrow4.block w.heap.size (Array.getElem?_eq_some_iff.1 hS).1 (fun h => by have := (HO.out.lt _ h.symm).2; omega)).trans hS) (fun hS => ?_)
    clear hK hown4 hgrow4 hnil4
    refine take_at (i := 8) (v := .pointer (some ⟨g, 0, none⟩)) rfl rfl (by kernel_rfl) (by kernel_rfl) (by kernel_rfl) (fun _ _ _ h => h) (Or.inl ⟨by rfl, fun W hW => by go_simp⟩) hS ?_
    try simp only [List.setIfInBounds_toArray, List.set_cons_zero, List.set_cons_succ]
    refine take_at (i := 9) (v := .pointer (some ⟨g, 0, none⟩)) rfl rfl (by kernel_rfl) (by kernel_rfl) (by kernel_rfl) (fun _ _ _ h => h) (Or.inl ⟨by rfl, fun W hW => by go_simp⟩) hS ?_
    try simp only [List.setIfInBounds_toArray, List.set_cons_zero, List.set_cons_succ]
    refine wpAnyH_ready (rs := [10]) (by kernel_rfl) (by simp) ?_
    refine AllReadyH.cons rfl (fun K' hK => ?_) AllReadyH.nil
    rw [if_pos (by rfl)]
    have cg := cell_of_one G4.out
    have cf := free_of_one G4.out
    go_simp
    have G5 := Lib.hid (one_setCell (u := .slice a4 (k + 1) c4) G4.out)
    have O5 := Lib.hid (owns_setCell1 (u := .slice a4 (k + 1) c4) (owns_ne O4.out G4.out (by decide)) O4.out)
    have K5 := Lib.hid (K4.out.trans (Keep.cell (B := w.heap.size) (X := fun b => b = g ∨ some b = v.ownBlock) (w := w4) (p := ⟨g, 0, none⟩) (v := .slice a4 (k + 1) c4) (Or.inl rfl)))
    refine hK.out _ _ ((heap_setCell_other _ ⟨g, 0, none⟩ _ _ (fun e => by have h : w.heap.size = g := e; have := HGL.out; omega)).trans hS) (fun hS => ?_)
    clear hK
    refine wpAnyH_done (by kernel_rfl) ?_ _
    go_wp2_with fail
    refine bodyPost_end (results_none rfl _ _ _) rfl ⟨rfl, _, G5.out, O5.out, K5.out⟩
  · rw [if_pos (by rfl)]
    refine wp_buildSlice_one 84 141 _ rfl Try.underlying84 Hi.out hz0 item rfl (by rw [HI.out, hz1]) (by rw [hz1]; decide) (by rw [hz1]; decide) ?_
    simp only [Act.put]
    refine hK.out _ _ (keep_block hS ((Below.refl _ _).alloc (Nat.le_refl _) _)) (fun hS => ?_)
    clear hK
    refine wpAnyH_ready (rs := [4]) (by kernel_rfl) (by simp) ?_
    refine AllReadyH.cons rfl (fun K' hK => ?_) AllReadyH.nil
    rw [if_pos (by rfl)]
    have hc := cell_of_one (keep_block GD.out ((Below.refl _ _).alloc (Nat.le_refl _) (.cells item 141)))
    go_simp
    refine hK.out _ _ hS (fun hS => ?_)
    clear hK hc
    refine wpAnyH_ready (rs := [7]) (by kernel_rfl) (by simp) ?_
    refine AllReadyH.cons rfl (fun K' hK => ?_) AllReadyH.nil
    rw [if_pos (by rfl)]
    refine wp_append_own _ _ _ 84 rfl base 141 i0 z0 3 24 Try.underlying84 Hi.out hz0 hz1 hz2 hzs (by decide) v k xs rfl (OD.out.alloc _) ⟨WD.heap.size, 0, none⟩ 1 1 item.toList rfl (by rw [Nat.one_mul]; simpa using HI.out) ?c1 ?c2 ?c3 ?c4 ?c5 ?_
    case c1 =>
      intro p u hu
      rw [addr_add, Nat.zero_add, cell_of_row _ WD.heap.size p _ _ _ (heap_alloc_last WD (.cells item 141)), ← hu]
      simp
    case c2 => rw [← hitem]; exact by intro u hu; simp at hu; rcases hu with rfl | rfl | rfl <;> rfl
    case c3 => unfold maxLen; omega
    case c4 => omega
    case c5 => have := Hb.out; have := HSD.out; simp; omega
    intro v4 w4 hown4 hgrow4 hnil4
    obtain ⟨a4, c4, hv4⟩ := owns_slc hown4
    subst hv4
    have O4 := Lib.hid hown4
    have GA := Lib.hid (keep_block GD.out ((Below.refl _ _).alloc (Nat.le_refl _) (.cells item 141)))
    have K4 := Lib.hid (show Keep w.heap.size (fun b => b = g ∨ some b = v.ownBlock) w w4 from
      (Keep.of _ (BD.out.trans (((Below.refl WD.heap.size WD).alloc (Nat.le_refl _) (.cells item 141)).mono BD.out.size))).trans
        ⟨hgrow4.os, hgrow4.tape, hgrow4.output, hgrow4.size, fun q hq hx => hgrow4.block q (by have := HSD.out; simp; omega) (fun h => hx (Or.inr h))⟩)
    have G4 := Lib.hid ((hgrow4.block g (Array.getElem?_eq_some_iff.1 GA.out).1 (fun h => HNE.out h.symm)).trans GA.out)
    refine hK.out _ _ ((hgrow4.block w.heap.size (Array.getElem?_eq_some_iff.1 hS).1 (fun h => by have := (HO.out.lt _ h.symm).2; omega)).trans hS) (fun hS => ?_)
    clear hK hown4 hgrow4 hnil4
    refine take_at (i := 8) (v := .pointer (some ⟨g, 0, none⟩)) rfl rfl (by kernel_rfl) (by kernel_rfl) (by kernel_rfl) (fun _ _ _ h => h) (Or.inl ⟨by rfl, fun W hW => by go_simp⟩) hS ?_
    try simp only [List.setIfInBounds_toArray, List.set_cons_zero, List.set_cons_succ]
    refine take_at (i := 9) (v := .pointer (some ⟨g, 0, none⟩)) rfl rfl (by kernel_rfl) (by kernel_rfl) (by kernel_rfl) (fun _ _ _ h => h) (Or.inl ⟨by rfl, fun W hW => by go_simp⟩) hS ?_
    try simp only [List.setIfInBounds_toArray, List.set_cons_zero, List.set_cons_succ]
    refine wpAnyH_ready (rs := [10]) (by kernel_rfl) (by simp) ?_
    refine AllReadyH.cons rfl (fun K' hK => ?_) AllReadyH.nil
    rw [if_pos (by rfl)]
    have cg := cell_of_one G4.out
    have cf := free_of_one G4.out
    go_simp
    have G5 := Lib.hid (one_setCell (u := .slice a4 (k + 1) c4) G4.out)
    have O5 := Lib.hid (owns_setCell1 (u := .slice a4 (k + 1) c4) (owns_ne O4.out G4.out (by decide)) O4.out)
    have K5 := Lib.hid (K4.out.trans (Keep.cell (B := w.heap.size) (X := fun b => b = g ∨ some b = v.ownBlock) (w := w4) (p := ⟨g, 0, none⟩) (v := .slice a4 (k + 1) c4) (Or.inl rfl)))
    refine hK.out _ _ ((heap_setCell_other _ ⟨g, 0, none⟩ _ _ (fun e => by have h : w.heap.size = g := e; have := HGL.out; omega)).trans hS) (fun hS => ?_)
    clear hK
    refine wpAnyH_done (by kernel_rfl) ?_ _
    go_wp2_with fail
    refine bodyPost_end (results_none rfl _ _ _) rfl ⟨rfl, _, G5.out, O5.out, K5.out⟩
end Go.Proofs.Ytjijgckljjcfiaa
