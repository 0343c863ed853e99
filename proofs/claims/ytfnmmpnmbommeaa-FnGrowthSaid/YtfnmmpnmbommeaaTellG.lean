/- The closure of CheckGrowth. Written by wip/gen/tellg.py. -/
import Derived.Test.YtfnmmpnmbommeaaLeaves
import Derived.Test.YtfnmmpnmbommeaaGenM
namespace Go.Proofs.Ytfnmmpnmbommeaa
open Go.ChangeShapes Go.WideShapes Go.ChangeAt Go.RowKit
set_option linter.unusedVariables false
set_option linter.unusedSimpArgs false
theorem z32_byte : ∀ z ∈ z32, (0 : Int) ≤ z ∧ z ≤ 255 := by decide
theorem wpList_load_row_g1 {P : Program} {ops : Array Oper} {rest : List Oper} {o : Oper} {a : Act} {w : World} {Q : Exit → Act → World → Prop} (hw : Region.wanted o (yielded ops a.tmps) = true) (ty : TypeId) (x : Operand) (ho : o.op = .load ty x)
    (g : Nat) (hx : a.eval x = .pointer (some ⟨g, 0, none⟩)) (t : TypeId) (cs : Array Value) (fr : Nat × Nat) (d : TypeDesc) (hg : w.heap[g]? = some (.cells cs t fr))
    (hu : P.underlying ty = some d) (hd : (match d with | .struct _ | .array _ _ => true | _ => false) = true) (hi : (P.info? ty).map (·.size) = some cs.size)
    (h : wpList P ops Q rest (a.put o.dst (.agg cs)) w) : wpList P ops Q (o :: rest) a w :=
  wpList_step fun _ hK => by rw [if_pos hw]; exact wp_load_row ty x ho g hx t cs fr d hg hu hd hi (hK _ _ h)
/-- What a part is for the first m leaves: a peak or behind them, or another one. -/
def kdG (m b n : Nat) : Nat := if (b + n ≤ m ∧ ones n = 1) ∨ m ≤ b then 0 else 2
def lfG (b : Nat) : List Int := z32
theorem kdG_one (m b : Nat) : kdG m b 1 ≤ 1 := by
  unfold kdG
  rw [if_pos]
  · omega
  · by_cases h : b + 1 ≤ m
    · exact Or.inl ⟨h, by decide⟩
    · exact Or.inr (by omega)
/-- The closure's variables. -/
structure GrowI (g r mb kb m : Nat) (fl : List Int) (s : Nat × Bool) (W : World) : Prop where
  rd : Rdr g r s fl W
  small : s.1 ≤ 1048576
  bm : W.heap[mb]? = some (.cells #[.int .i64 (m : Int)] 2)
  bk : W.heap[kb]? = some (.cells #[.pointer (some ⟨r, 0, none⟩)] 81)
/-- Where they lie. -/
structure GrowP (g r mb kb B0 : Nat) : Prop where
  pg : g < B0
  pr : r < B0
  pm : mb < B0 ∧ mb ≠ g ∧ mb ≠ r
  pk : kb < B0 ∧ kb ≠ g ∧ kb ≠ r
theorem GrowI.keep {g r mb kb m B0 : Nat} {fl : List Int} {s : Nat × Bool} {w w' : World} (P : GrowP g r mb kb B0) (h : GrowI g r mb kb m fl s w) (hb : Below B0 w w') : GrowI g r mb kb m fl s w' :=
  ⟨h.rd.above (hb.mono (by have := P.pr; omega)), h.small, (hb.block _ P.pm.1).trans h.bm, (hb.block _ P.pk.1).trans h.bk⟩
theorem GrowI.turn {g r mb kb m B0 : Nat} {fl : List Int} {s t : Nat × Bool} {w w' : World} (P : GrowP g r mb kb B0) (h : GrowI g r mb kb m fl s w) (hr : Rdr g r t fl w') (ht : t.1 ≤ 1048576) (k : Keep w.heap.size (fun k => k = g ∨ k = r) w w') : GrowI g r mb kb m fl t w' :=
  ⟨hr, ht, k.hold (fun h => by have := P.pm; rcases h with h | h <;> omega) h.bm, k.hold (fun h => by have := P.pk; rcases h with h | h <;> omega) h.bk⟩
set_option maxRecDepth 100000 in
set_option maxHeartbeats 8000000 in
theorem tellG_impl (g r mb kb m B0 N : Nat) (fl : List Int) (P : GrowP g r mb kb B0) (hN : N ≤ 256) (hm : m ≤ N) (b n : Nat) (s : Nat × Bool) (w : World) (h1 : 1 ≤ n) (hb : b + n ≤ N) (hB : B0 ≤ w.heap.size) (hfb : ∀ z ∈ fl, 0 ≤ z ∧ z ≤ 255) (hI : GrowI g r mb kb m fl s w) :
    Calls Try.prog 67 #[.agg (spanA b (b + n)), .pointer (some ⟨mb, 0, none⟩), .pointer (some ⟨kb, 0, none⟩)] w fun x w' => x = .returned (.tuple #[.agg (ints .u8 (tlG (kdG m) lfG fl b n s).1), .bool (tlG (kdG m) lfG fl b n s).2.1]) ∧ GrowI g r mb kb m fl (tlG (kdG m) lfG fl b n s).2.2 w' ∧ Keep w.heap.size (fun k => k = g ∨ k = r) w w' := by
  have Hz := Lib.hid z32_ints
  have HI := Lib.hid hI
  have HB := Lib.hid hB
  have HP := Lib.hid P
  have HFB := Lib.hid hfb
  have BW := Lib.hid (((Below.refl w.heap.size w).alloc (Nat.le_refl _) (.cells (spanA b (b + n)) 85)).alloc (by simp) (.cells (ints .u8 z32) 29))
  have GS := Lib.hid (heap_alloc2_old w (.cells (spanA b (b + n)) 85) (.cells (ints .u8 z32) 29))
  have G0 := Lib.hid (heap_alloc2_new w (.cells (spanA b (b + n)) 85) (.cells (ints .u8 z32) 29))
  obtain ⟨W0, hW0⟩ : ∃ W0, (w.alloc (.cells (spanA b (b + n)) 85)).alloc (.cells (ints .u8 z32) 29) = W0 := ⟨_, rfl⟩
  have HSZ : Hid (W0.heap.size = w.heap.size + 1 + 1) := Lib.hid (by rw [← hW0]; simp)
  rw [hW0] at BW GS G0
  have I0 := Lib.hid (HI.out.keep P (BW.out.mono hB))
  have cm := cell_of_one I0.out.bm
  have cb : W0.cell? ⟨w.heap.size, 0, none⟩ = some (.int .i64 (b : Int)) := (cell_of_row W0 w.heap.size 0 _ _ _ GS.out).trans rfl
  have ce : W0.cell? ⟨w.heap.size, 1, none⟩ = some (.int .i64 ((b + n : Nat) : Int)) := (cell_of_row W0 w.heap.size 1 _ _ _ GS.out).trans rfl
  have Hcnt := Lib.hid (fun U => count_impl b (b + n) (by omega) (by omega) U)
  rw [show b + n - b = n by omega] at Hcnt
  have Hpk := Lib.hid (fun U => count_peaks n (by omega) U)
  clear hI hfb
  rw [Hz.out] at hW0
  by_cases he : b + n ≤ m
  · have k1 : ((b + n : Nat) : Int) ≤ (m : Int) := by omega
    have k3 : ¬ (m : Int) ≤ (b : Int) := by omega
    by_cases ho : ones n = 1
    · have e0 : kdG m b n = 0 := by unfold kdG; rw [if_pos (Or.inl ⟨he, ho⟩)]
      have e1 : tlG (kdG m) lfG fl b n s = (nxK fl s, true, nxS s) := by unfold tlG; rw [if_pos e0]
      rw [e1]
      dsimp only
      clear e0 e1
      have HKL := Lib.hid (HI.out.rd.nx HFB.out).1
      have Hn := Lib.hid (fun U (h : Rdr g r s fl U) => next_impl g r s fl HI.out.small U h)
      have HNS := Lib.hid (show (nxS s).1 ≤ 1048576 by have := HI.out.small; unfold nxS; dsimp only; omega)
      generalize nxK fl s = key at Hn HKL ⊢
      generalize nxS s = t at Hn HNS ⊢
      go_enter Try.func67, Try.ntmps67
      go_wp2_with (refine wpList_load_row_g1 (by rfl) 85 (.tmp 3) rfl w.heap.size rfl 85 (spanA b (b + n)) (0, 0) _ GS.out Try.underlying85 rfl sizeSpan ?_)
      refine (Hcnt.out _).mono ?_
      rintro x w1 ⟨rfl, hb1⟩
      have B1 := Lib.hid (below_call BW.out BW.out.size hb1)
      have S1 := Lib.hid (keep_block GS.out hb1)
      have G1 := Lib.hid (keep_block G0.out hb1)
      have I1 := Lib.hid (HI.out.keep HP.out (B1.out.mono HB.out))
      have Z1 : Hid (w.heap.size + 1 < w1.heap.size) := Lib.hid (by have := hb1.size; have := HSZ.out; omega)
      have cm1 := cell_of_one I1.out.bm
      have cb1 : w1.cell? ⟨w.heap.size, 0, none⟩ = some (.int .i64 (b : Int)) := (cell_of_row w1 w.heap.size 0 _ _ _ S1.out).trans rfl
      clear hb1
      have d1 : (((ones n : Nat) : Int) == 1) = true := by rw [beq_iff_eq]; omega
      generalize ones n = on at Hpk ho d1
      go_wp2_with fail
      refine (Hpk.out _).mono ?_
      rintro x w1' ⟨rfl, rfl⟩
      have ck := cell_of_one I1.out.bk
      go_wp2_with fail
      clear ck
      refine (Hn.out _ I1.out.rd).mono ?_
      rintro x w2 ⟨rfl, hr2, hk2⟩
      have I2 := Lib.hid (I1.out.turn HP.out hr2 HNS.out hk2)
      have G2 := Lib.hid (hk2.hold (g := w.heap.size + 1) (fun h => by have := HP.out.pr; have := HI.out.rd.lt; have := HB.out; rcases h with h | h <;> omega) G1.out)
      have K2 := Lib.hid ((Keep.of (fun k => k = g ∨ k = r) B1.out).trans (hk2.mono B1.out.size))
      clear hr2 hk2
      go_wp2_with (refine wpList_store_row rfl 29 (.tmp 4) _ rfl (w.heap.size + 1) (ints .u8 key) rfl rfl 29 (ints .u8 z32) G2.out (by rw [ints_size, HKL.out]; exact sizeKey) (by rw [ints_size, ints_size, HKL.out]; rfl) (ints_one _ _) ?_)
      have GF := Lib.hid (setRow_heap _ _ (ints .u8 z32) (ints .u8 key) _ _ G2.out)
      have E := Below.setRow (g := w.heap.size + 1) (Below.refl w.heap.size w2) (by omega) (ints .u8 key)
      refine bodyPost_ret (results_cell2_row rfl _ _ (w.heap.size + 1) 29 (ints .u8 key) (0, 0) _ rfl GF.out Try.underlying29 rfl (by rw [ints_size, HKL.out]; exact sizeKey)) rfl ⟨rfl, ?_⟩
      exact ⟨I2.out.keep HP.out (E.mono HB.out), K2.out.trans (Keep.of _ E)⟩
    · have e0 : kdG m b n = 2 := by unfold kdG; rw [if_neg (by omega)]
      have e1 : tlG (kdG m) lfG fl b n s = (z32, false, s) := by unfold tlG; rw [if_neg (by omega), if_neg (by omega)]
      rw [e1]
      dsimp only
      clear e0 e1
      have HKL : Hid (z32.length = 32) := Lib.hid rfl
      go_enter Try.func67, Try.ntmps67
      go_wp2_with (refine wpList_load_row_g1 (by rfl) 85 (.tmp 3) rfl w.heap.size rfl 85 (spanA b (b + n)) (0, 0) _ GS.out Try.underlying85 rfl sizeSpan ?_)
      refine (Hcnt.out _).mono ?_
      rintro x w1 ⟨rfl, hb1⟩
      have B1 := Lib.hid (below_call BW.out BW.out.size hb1)
      have S1 := Lib.hid (keep_block GS.out hb1)
      have G1 := Lib.hid (keep_block G0.out hb1)
      have I1 := Lib.hid (HI.out.keep HP.out (B1.out.mono HB.out))
      have Z1 : Hid (w.heap.size + 1 < w1.heap.size) := Lib.hid (by have := hb1.size; have := HSZ.out; omega)
      have cm1 := cell_of_one I1.out.bm
      have cb1 : w1.cell? ⟨w.heap.size, 0, none⟩ = some (.int .i64 (b : Int)) := (cell_of_row w1 w.heap.size 0 _ _ _ S1.out).trans rfl
      clear hb1
      have d1 : (((ones n : Nat) : Int) == 1) = false := by rw [beq_eq_false_iff_ne]; omega
      generalize ones n = on at Hpk ho d1
      go_wp2_with fail
      refine (Hpk.out _).mono ?_
      rintro x w1' ⟨rfl, rfl⟩
      go_wp2_with (refine wpList_store_row rfl 29 (.tmp 4) _ rfl (w.heap.size + 1) (ints .u8 z32) rfl rfl 29 (ints .u8 z32) G1.out (by kernel_rfl) rfl (ints_one _ _) ?_)
      have GF := Lib.hid (setRow_heap _ _ (ints .u8 z32) (ints .u8 z32) _ _ G1.out)
      have E := Below.setRow (g := w.heap.size + 1) B1.out (by omega) (ints .u8 z32)
      refine bodyPost_ret (results_cell2_row rfl _ _ (w.heap.size + 1) 29 (ints .u8 z32) (0, 0) _ rfl GF.out Try.underlying29 rfl (by rw [ints_size, HKL.out]; exact sizeKey)) rfl ⟨rfl, ?_⟩
      exact ⟨HI.out.keep HP.out (E.mono HB.out), Keep.of _ E⟩
  · have k1 : ¬ ((b + n : Nat) : Int) ≤ (m : Int) := by omega
    by_cases hmb : m ≤ b
    · have k3 : (m : Int) ≤ (b : Int) := by omega
      have e0 : kdG m b n = 0 := by unfold kdG; rw [if_pos (Or.inr hmb)]
      have e1 : tlG (kdG m) lfG fl b n s = (nxK fl s, true, nxS s) := by unfold tlG; rw [if_pos e0]
      rw [e1]
      dsimp only
      clear e0 e1
      have HKL := Lib.hid (HI.out.rd.nx HFB.out).1
      have Hn := Lib.hid (fun U (h : Rdr g r s fl U) => next_impl g r s fl HI.out.small U h)
      have HNS := Lib.hid (show (nxS s).1 ≤ 1048576 by have := HI.out.small; unfold nxS; dsimp only; omega)
      generalize nxK fl s = key at Hn HKL ⊢
      generalize nxS s = t at Hn HNS ⊢
      obtain ⟨w1, hw1⟩ : ∃ w1, W0 = w1 := ⟨_, rfl⟩
      have B1 := Lib.hid (hw1 ▸ BW.out)
      have G1 := Lib.hid (hw1 ▸ G0.out)
      have I1 := Lib.hid (hw1 ▸ I0.out)
      have Z1 : Hid (w.heap.size + 1 < w1.heap.size) := Lib.hid (by rw [← hw1]; have := HSZ.out; omega)
      subst hw1
      go_enter Try.func67, Try.ntmps67
      have ck := cell_of_one I1.out.bk
      go_wp2_with fail
      clear ck
      refine (Hn.out _ I1.out.rd).mono ?_
      rintro x w2 ⟨rfl, hr2, hk2⟩
      have I2 := Lib.hid (I1.out.turn HP.out hr2 HNS.out hk2)
      have G2 := Lib.hid (hk2.hold (g := w.heap.size + 1) (fun h => by have := HP.out.pr; have := HI.out.rd.lt; have := HB.out; rcases h with h | h <;> omega) G1.out)
      have K2 := Lib.hid ((Keep.of (fun k => k = g ∨ k = r) B1.out).trans (hk2.mono B1.out.size))
      clear hr2 hk2
      go_wp2_with (refine wpList_store_row rfl 29 (.tmp 4) _ rfl (w.heap.size + 1) (ints .u8 key) rfl rfl 29 (ints .u8 z32) G2.out (by rw [ints_size, HKL.out]; exact sizeKey) (by rw [ints_size, ints_size, HKL.out]; rfl) (ints_one _ _) ?_)
      have GF := Lib.hid (setRow_heap _ _ (ints .u8 z32) (ints .u8 key) _ _ G2.out)
      have E := Below.setRow (g := w.heap.size + 1) (Below.refl w.heap.size w2) (by omega) (ints .u8 key)
      refine bodyPost_ret (results_cell2_row rfl _ _ (w.heap.size + 1) 29 (ints .u8 key) (0, 0) _ rfl GF.out Try.underlying29 rfl (by rw [ints_size, HKL.out]; exact sizeKey)) rfl ⟨rfl, ?_⟩
      exact ⟨I2.out.keep HP.out (E.mono HB.out), K2.out.trans (Keep.of _ E)⟩
    · have k3 : ¬ (m : Int) ≤ (b : Int) := by omega
      have e0 : kdG m b n = 2 := by unfold kdG; rw [if_neg (by omega)]
      have e1 : tlG (kdG m) lfG fl b n s = (z32, false, s) := by unfold tlG; rw [if_neg (by omega), if_neg (by omega)]
      rw [e1]
      dsimp only
      clear e0 e1
      have HKL : Hid (z32.length = 32) := Lib.hid rfl
      obtain ⟨w1, hw1⟩ : ∃ w1, W0 = w1 := ⟨_, rfl⟩
      have B1 := Lib.hid (hw1 ▸ BW.out)
      have G1 := Lib.hid (hw1 ▸ G0.out)
      have I1 := Lib.hid (hw1 ▸ I0.out)
      have Z1 : Hid (w.heap.size + 1 < w1.heap.size) := Lib.hid (by rw [← hw1]; have := HSZ.out; omega)
      subst hw1
      go_enter Try.func67, Try.ntmps67
      go_wp2_with (refine wpList_store_row rfl 29 (.tmp 4) _ rfl (w.heap.size + 1) (ints .u8 z32) rfl rfl 29 (ints .u8 z32) G1.out (by kernel_rfl) rfl (ints_one _ _) ?_)
      have GF := Lib.hid (setRow_heap _ _ (ints .u8 z32) (ints .u8 z32) _ _ G1.out)
      have E := Below.setRow (g := w.heap.size + 1) B1.out (by omega) (ints .u8 z32)
      refine bodyPost_ret (results_cell2_row rfl _ _ (w.heap.size + 1) 29 (ints .u8 z32) (0, 0) _ rfl GF.out Try.underlying29 rfl (by rw [ints_size, HKL.out]; exact sizeKey)) rfl ⟨rfl, ?_⟩
      exact ⟨HI.out.keep HP.out (E.mono HB.out), Keep.of _ E⟩
theorem growTells (g r mb kb m B0 N : Nat) (fl : List Int) (P : GrowP g r mb kb B0) (hN : N ≤ 256) (hm : m ≤ N) (hfb : ∀ z ∈ fl, 0 ≤ z ∧ z ≤ 255) :
    Tells (tlG (kdG m) lfG fl) (GrowI g r mb kb m fl) B0 (fun k => k = g ∨ k = r) N 67 #[.pointer (some ⟨mb, 0, none⟩), .pointer (some ⟨kb, 0, none⟩)] where
  small := by omega
  enters := fun args w => enters_of Try.func67 (by kernel_rfl) rfl args w
  low := fun k h => by have := P.pr; have := P.pg; rcases h with h | h <;> omega
  keep := fun s w w' h hb => h.keep P hb
  one := fun b s => by
    have h := kdG_one m b
    unfold tlG
    split
    · rfl
    · split
      · rfl
      · omega
  good := fun b n s w h1 hb hI => by
    unfold tlG
    split
    · exact hI.rd.nx hfb
    · split
      · exact ⟨rfl, z32_byte⟩
      · exact ⟨rfl, z32_byte⟩
  call := fun b n s w h1 hb hB hI => tellG_impl g r mb kb m B0 N fl P hN hm b n s w h1 hb hB hfb hI
end Go.Proofs.Ytfnmmpnmbommeaa
