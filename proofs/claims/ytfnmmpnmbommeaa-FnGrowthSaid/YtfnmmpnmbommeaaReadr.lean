/- The reader of a proof. Written by wip/gen/readr.py. -/
import Derived.Test.YtfnmmpnmbommeaaStack
namespace Go.Proofs.Ytfnmmpnmbommeaa
open Go.ChangeShapes Go.WideShapes Go.ChangeAt Go.RowKit
set_option linter.unusedVariables false
set_option linter.unusedSimpArgs false
theorem Keep.weaken {B : Nat} {X Y : Nat → Prop} {a b : World} (h : Keep B X a b) (hx : ∀ k, X k → Y k) : Keep B Y a b := ⟨h.os, h.tape, h.output, h.size, fun k hk hy => h.block k hk (fun hx' => hy (hx k hx'))⟩
/-- A reader lies in block r, its stack in block g: s tells how many keys are left, and whether it has been short. -/
structure Rdr (g r : Nat) (s : Nat × Bool) (fl : List Int) (W : World) : Prop where
  box : W.heap[r]? = some (.cells #[.pointer (some ⟨g, 0, none⟩), .bool s.2] 129)
  stk : Stk g s.1 fl W
  lt : g < r
theorem Rdr.below {g r : Nat} {s : Nat × Bool} {fl : List Int} {w w' : World} (h : Rdr g r s fl w) (hb : Below w.heap.size w w') : Rdr g r s fl w' := ⟨keep_block h.box hb, h.stk.below hb, h.lt⟩
theorem Rdr.above {g r : Nat} {s : Nat × Bool} {fl : List Int} {w w' : World} (h : Rdr g r s fl w) (hb : Below (r + 1) w w') : Rdr g r s fl w' := ⟨(hb.block r (by omega)).trans h.box, h.stk.above (hb.mono (by have := h.lt; omega)), h.lt⟩
set_option maxRecDepth 100000 in
set_option maxHeartbeats 1000000 in
theorem newReader_impl (a : Option Addr) (n cap : Nat) (fl : List Int) (hn : n ≤ 1048576) (w : World) (hr : RdK w a n fl) :
    Calls Try.prog 65 #[.slice a n cap] w fun x w' => ∃ g r, x = .returned (.pointer (some ⟨r, 0, none⟩)) ∧ Rdr g r (n, false) fl w' ∧ w.heap.size ≤ g ∧ r < w'.heap.size ∧ Below w.heap.size w w' := by
  have Hc := Lib.hid (stackof_impl a n cap fl hn w hr)
  clear hr
  go_enter Try.func65, Try.ntmps65
  go_wp2_with fail
  refine Hc.out.mono ?_
  rintro x w1 ⟨g, rfl, hs, h1, h2, hb⟩
  have S1 := Lib.hid hs
  have H1 := Lib.hid h1
  have H2 := Lib.hid h2
  have B1 := Lib.hid hb
  clear hs h1 h2 hb
  go_wp2_with fail
  go_ret
  exact ⟨g, w1.heap.size, rfl, ⟨heap_alloc_last _ _, S1.out.below ((Below.refl _ _).alloc (Nat.le_refl _) _), H2.out⟩, H1.out, by simp, B1.out.alloc B1.out.size _⟩
set_option maxRecDepth 100000 in
set_option maxHeartbeats 2000000 in
theorem next_some (g r n : Nat) (b : Bool) (fl : List Int) (h0 : 0 < n) (hn : n ≤ 1048576) (w : World) (hr : Rdr g r (n, b) fl w) :
    Calls Try.prog 69 #[.pointer (some ⟨r, 0, none⟩)] w fun x w' => x = .returned (.agg (ints .u8 (keyAt fl (n - 1)))) ∧ Rdr g r (n - 1, b) fl w' ∧ Keep w.heap.size (fun k => k = g ∨ k = r) w w' := by
  have Hz := Lib.hid z32_ints
  obtain ⟨hbx, hs, hlt⟩ := hr
  have HLT := Lib.hid hlt
  have HRL := Lib.hid (Array.getElem?_eq_some_iff.1 hbx).1
  have Hkl : Hid ((keyAt fl (n - 1)).length = 32) := Lib.hid (by
    obtain ⟨a, cap, _, h2, _⟩ := hs
    have := keyAt_len h2.1 (show n - 1 < n by omega)
    rwa [keyAt_take (fl := fl) (show n - 1 < n by omega)] at this)
  have BW := Lib.hid ((Below.refl w.heap.size w).alloc (Nat.le_refl _) (.cells (ints .u8 z32) 29))
  have G0 := Lib.hid (heap_alloc_last w (.cells (ints .u8 z32) 29))
  have R0 := Lib.hid (keep_block hbx BW.out)
  have S0 := Lib.hid (hs.below BW.out)
  obtain ⟨W0, hW0⟩ : ∃ W0, w.alloc (.cells (ints .u8 z32) 29) = W0 := ⟨_, rfl⟩
  rw [hW0] at BW G0 R0 S0
  have HSZ : Hid (W0.heap.size = w.heap.size + 1) := Lib.hid (by rw [← hW0]; simp)
  have Hp := Lib.hid (pop_some g n fl h0 hn W0 S0.out)
  have c0 : W0.cell? ⟨r, 0, none⟩ = some (.pointer (some ⟨g, 0, none⟩)) := (cell_of_row W0 r 0 _ _ _ R0.out).trans rfl
  clear hbx hs hlt
  generalize keyAt fl (n - 1) = key at Hkl Hp ⊢
  rw [Hz.out] at hW0
  go_enter Try.func69, Try.ntmps69
  go_wp2_with fail
  clear hW0 c0
  refine Hp.out.mono ?_
  rintro x w1 ⟨rfl, hs1, hk1⟩
  have S1 := Lib.hid hs1
  have K1 := Lib.hid hk1
  have G1 := Lib.hid (hk1.hold (g := w.heap.size) (fun e => by have h : w.heap.size = g := e; have := HLT.out; have := HRL.out; omega) G0.out)
  have R1 := Lib.hid (hk1.hold (g := r) (fun e => by have h : r = g := e; have := HLT.out; omega) R0.out)
  clear hs1 hk1
  have L2 := Lib.hid (laid_below w1 (ints .u8 z32) (ints .u8 key) 29)
  have K2 := Lib.hid (laid_new w1 (ints .u8 z32) (ints .u8 key) 29)
  have G2 := Lib.hid (laid_old (ints .u8 z32) (ints .u8 key) 29 G1.out)
  have R2 := Lib.hid (laid_old (ints .u8 z32) (ints .u8 key) 29 R1.out)
  have S2 := Lib.hid (S1.out.below L2.out)
  go_wp2_with (first | (refine wpList_store_row rfl 29 (.tmp 3) _ rfl w1.heap.size (ints .u8 key) rfl rfl 29 (ints .u8 z32) (by rw [Hz.out]; exact heap_alloc_last _ _) (by rw [ints_size, Hkl.out]; exact sizeKey) (by rw [ints_size, ints_size, Hkl.out]; rfl) (ints_one _ _) ?_) | (refine wpList_load_row rfl 29 (.tmp 3) rfl w1.heap.size rfl 29 (ints .u8 key) (0, 0) _ (by rw [← Hz.out]; exact K2.out) Try.underlying29 rfl (by rw [ints_size, Hkl.out]; exact sizeKey) ?_) | (refine wpList_store_row rfl 29 (.tmp 2) _ rfl w.heap.size (ints .u8 key) rfl rfl 29 (ints .u8 z32) (by rw [← Hz.out]; exact G2.out) (by rw [ints_size, Hkl.out]; exact sizeKey) (by rw [ints_size, ints_size, Hkl.out]; rfl) (ints_one _ _) ?_))
  refine bodyPost_ret (results_cell_row rfl _ _ w.heap.size 29 (ints .u8 key) (0, 0) _ rfl (setRow_heap _ _ (ints .u8 z32) _ _ _ (by rw [← Hz.out]; exact G2.out)) Try.underlying29 rfl (by rw [ints_size, Hkl.out]; exact sizeKey)) rfl ⟨rfl, ?_⟩
  rw [← Hz.out]
  have E := Lib.hid (Below.setRow (g := w.heap.size) (Below.refl w.heap.size ((w1.alloc (.cells (ints .u8 z32) 29)).setRow w1.heap.size (ints .u8 key))) (Nat.le_refl _) (ints .u8 key))
  refine ⟨⟨(setRow_other _ _ _ _ (by have := HRL.out; omega)).trans R2.out, S2.out.above (E.out.mono (by have := HLT.out; have := HRL.out; omega)), HLT.out⟩, ?_⟩
  exact (((Keep.of _ BW.out).trans ((K1.out.weaken (fun k h => Or.inl h)).mono BW.out.size)).trans ((Keep.of _ L2.out).mono (Nat.le_trans BW.out.size K1.out.size))).trans (Keep.of _ E.out)
set_option maxRecDepth 100000 in
set_option maxHeartbeats 2000000 in
theorem next_none (g r : Nat) (b : Bool) (fl : List Int) (w : World) (hr : Rdr g r (0, b) fl w) :
    Calls Try.prog 69 #[.pointer (some ⟨r, 0, none⟩)] w fun x w' => x = .returned (.agg (ints .u8 z32)) ∧ Rdr g r (0, true) fl w' ∧ Keep w.heap.size (fun k => k = g ∨ k = r) w w' := by
  have Hz := Lib.hid z32_ints
  obtain ⟨hbx, hs, hlt⟩ := hr
  have HLT := Lib.hid hlt
  have HRL := Lib.hid (Array.getElem?_eq_some_iff.1 hbx).1
  have BW := Lib.hid ((Below.refl w.heap.size w).alloc (Nat.le_refl _) (.cells (ints .u8 z32) 29))
  have G0 := Lib.hid (heap_alloc_last w (.cells (ints .u8 z32) 29))
  have R0 := Lib.hid (keep_block hbx BW.out)
  have S0 := Lib.hid (hs.below BW.out)
  obtain ⟨W0, hW0⟩ : ∃ W0, w.alloc (.cells (ints .u8 z32) 29) = W0 := ⟨_, rfl⟩
  rw [hW0] at BW G0 R0 S0
  have HSZ : Hid (W0.heap.size = w.heap.size + 1) := Lib.hid (by rw [← hW0]; simp)
  have Hp := Lib.hid (pop_none g fl W0 S0.out)
  have c0 : W0.cell? ⟨r, 0, none⟩ = some (.pointer (some ⟨g, 0, none⟩)) := (cell_of_row W0 r 0 _ _ _ R0.out).trans rfl
  clear hbx hs hlt
  rw [Hz.out] at hW0
  go_enter Try.func69, Try.ntmps69
  go_wp2_with fail
  clear hW0 c0
  refine Hp.out.mono ?_
  rintro x w1 ⟨rfl, hb1⟩
  have B1 := Lib.hid hb1
  have S1 := Lib.hid (S0.out.below hb1)
  have G1 := Lib.hid (keep_block G0.out hb1)
  have R1 := Lib.hid (keep_block R0.out hb1)
  have HS1 : Hid (w.heap.size < w1.heap.size) := Lib.hid (by have := hb1.size; have := HSZ.out; omega)
  clear hb1
  have L2 := Lib.hid (laid_below w1 (ints .u8 z32) (ints .u8 z32) 29)
  have K2 := Lib.hid (laid_new w1 (ints .u8 z32) (ints .u8 z32) 29)
  have G2 := Lib.hid (laid_old (ints .u8 z32) (ints .u8 z32) 29 G1.out)
  have R2 := Lib.hid (laid_old (ints .u8 z32) (ints .u8 z32) 29 R1.out)
  have S2 := Lib.hid (S1.out.below L2.out)
  obtain ⟨W2, hW2⟩ : ∃ W2, (w1.alloc (.cells (ints .u8 z32) 29)).setRow w1.heap.size (ints .u8 z32) = W2 := ⟨_, rfl⟩
  rw [hW2] at L2 K2 G2 R2 S2
  have c1 : W2.cell? ⟨r, 1, none⟩ = some (.bool b) := (cell_of_row W2 r 1 _ _ _ R2.out).trans rfl
  have f1 : W2.frozen? ⟨r, 1, none⟩ = false := frozen_of_row W2 r 1 _ _ R2.out
  have R3 := Lib.hid (heap_setCell_same W2 r 1 _ _ (.bool true) R2.out)
  have K3 := Lib.hid ((heap_setCell_other W2 ⟨r, 1, none⟩ w1.heap.size (.bool true) (by have := HRL.out; have := HS1.out; show w1.heap.size ≠ r; omega)).trans K2.out)
  have G3 := Lib.hid ((heap_setCell_other W2 ⟨r, 1, none⟩ w.heap.size (.bool true) (by have := HRL.out; show w.heap.size ≠ r; omega)).trans G2.out)
  rw [Hz.out] at hW2
  go_wp2_with (first | (refine wpList_store_row rfl 29 (.tmp 3) _ rfl w1.heap.size (ints .u8 z32) rfl rfl 29 (ints .u8 z32) (by rw [Hz.out]; exact heap_alloc_last _ _) (by kernel_rfl) rfl (ints_one _ _) ?_; rw [Hz.out, hW2]) | (refine wpList_load_row rfl 29 (.tmp 3) rfl w1.heap.size rfl 29 (ints .u8 z32) (0, 0) _ K3.out Try.underlying29 rfl (by kernel_rfl) ?_) | (refine wpList_store_row rfl 29 (.tmp 2) _ rfl w.heap.size (ints .u8 z32) rfl rfl 29 (ints .u8 z32) G3.out (by kernel_rfl) rfl (ints_one _ _) ?_))
  refine bodyPost_ret (results_cell_row rfl _ _ w.heap.size 29 (ints .u8 z32) (0, 0) _ rfl (setRow_heap _ _ (ints .u8 z32) _ _ _ G3.out) Try.underlying29 rfl (by kernel_rfl)) rfl ⟨rfl, ?_⟩
  have E := Lib.hid (Below.setRow (g := w.heap.size) (Below.refl w.heap.size (W2.setCell ⟨r, 1, none⟩ (.bool true))) (Nat.le_refl _) (ints .u8 z32))
  have C := Lib.hid (Keep.cell (B := w.heap.size) (X := fun k => k = g ∨ k = r) (w := W2) (p := ⟨r, 1, none⟩) (v := .bool true) (Or.inr rfl))
  have C2 : Hid (Below (g + 1) W2 (W2.setCell ⟨r, 1, none⟩ (.bool true))) := Lib.hid (Below.setCell (Below.refl _ _) (show g + 1 ≤ r by have := HLT.out; omega) _)
  refine ⟨⟨(setRow_other _ _ _ _ (by have := HRL.out; omega)).trans R3.out, (S2.out.above C2.out).above (E.out.mono (by have := HLT.out; have := HRL.out; omega)), HLT.out⟩, ?_⟩
  exact ((((Keep.of _ BW.out).trans ((Keep.of _ B1.out).mono BW.out.size)).trans ((Keep.of _ L2.out).mono (Nat.le_trans BW.out.size B1.out.size))).trans C.out).trans (Keep.of _ E.out)
set_option maxRecDepth 100000 in
set_option maxHeartbeats 1000000 in
theorem used_impl (g r n : Nat) (b : Bool) (fl : List Int) (w : World) (hr : Rdr g r (n, b) fl w) :
    Calls Try.prog 70 #[.pointer (some ⟨r, 0, none⟩)] w fun x w' => x = .returned (.bool (!b && decide (n = 0))) ∧ w = w' := by
  obtain ⟨hbx, hs, hlt⟩ := hr
  obtain ⟨a, cap, h1, _⟩ := hs
  have c0 : w.cell? ⟨r, 0, none⟩ = some (.pointer (some ⟨g, 0, none⟩)) := (cell_of_row w r 0 _ _ _ hbx).trans rfl
  have c1 : w.cell? ⟨r, 1, none⟩ = some (.bool b) := (cell_of_row w r 1 _ _ _ hbx).trans rfl
  have c2 := cell_of_one h1
  clear hbx h1
  cases b with
  | true =>
    go_enter Try.func70, Try.ntmps70
    go_wp2
    go_ret
    exact ⟨rfl, rfl⟩
  | false =>
    by_cases h : n = 0
    · subst h
      go_enter Try.func70, Try.ntmps70
      go_wp2
      go_ret
      exact ⟨rfl, rfl⟩
    · have hd : decide (n = 0) = false := decide_eq_false h
      have hi : ((n : Int) == 0) = false := by rw [beq_eq_false_iff_ne]; omega
      rw [hd]
      go_enter Try.func70, Try.ntmps70
      go_wp2
      go_ret
      exact ⟨rfl, rfl⟩
end Go.Proofs.Ytfnmmpnmbommeaa
