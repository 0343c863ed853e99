/- An item popped from a stack that owns its items. Written by wip/gen/popo.py. -/
import Derived.Test.YtjijgckljjcfiaaPush
namespace Go.Proofs.Ytjijgckljjcfiaa
open Go.ChangeShapes Go.WideShapes Go.ChangeAt Go.RowKit
set_option linter.unusedVariables false
set_option linter.unusedSimpArgs false
theorem sizeTurn : (Try.prog.info? 141).map (·.size) = some 3 := by kernel_rfl
theorem range3 {w : World} {b o : Nat} {x y z : Value} (h0 : w.cell? ⟨b, o + 0, none⟩ = some x) (h1 : w.cell? ⟨b, o + 1, none⟩ = some y) (h2 : w.cell? ⟨b, o + 2, none⟩ = some z) : w.rangeAt b o (#[x, y, z] : Array Value).toList := by
  intro j u hu
  match j, hu with
  | 0, hu => cases hu; exact h0
  | 1, hu => cases hu; exact h1
  | 2, hu => cases hu; exact h2
set_option maxRecDepth 100000 in
set_option maxHeartbeats 4000000 in
theorem popT (g base k : Nat) (v : Value) (xs : List Value) (r : Bool) (b0 e0 : Nat) (hk : k ≤ 1048576) (w : World) (hg : w.heap[g]? = some (.cells #[v] 86)) (ho : w.ownsRow base 141 3 v (k + 1) (xs ++ ((#[.bool r, .int .i64 (b0 : Int), .int .i64 (e0 : Int)] : Array Value)).toList)) :
    Calls Try.prog 109 #[.pointer (some ⟨g, 0, none⟩)] w fun e w' => e = .returned (.tuple #[.agg ((#[.bool r, .int .i64 (b0 : Int), .int .i64 (e0 : Int)] : Array Value)), .bool true]) ∧ ∃ v', w'.heap[g]? = some (.cells #[v'] 86) ∧ w'.ownsRow base 141 3 v' k xs ∧ v'.ownBlock = v.ownBlock ∧ Keep w.heap.size (· = g) w w' := by
  have HI := Lib.hid (show (#[.bool r, .int .i64 (b0 : Int), .int .i64 (e0 : Int)] : Array Value).size = 3 from rfl)
  have HI1 := Lib.hid (show (#[.bool r, .int .i64 (b0 : Int), .int .i64 (e0 : Int)] : Array Value).all (·.oneCell') = true by simp [Value.oneCell'])
  have hxl : xs.length = k * 3 := by
    have h := ho.1
    have h2 : ((#[.bool r, .int .i64 (b0 : Int), .int .i64 (e0 : Int)] : Array Value)).toList.length = 3 := by rw [Array.length_toList]; exact HI.out
    rw [List.length_append, h2] at h
    omega
  have HNE := Lib.hid (owns_ne ho hg (by decide))
  have HGL := Lib.hid (Array.getElem?_eq_some_iff.1 hg).1
  obtain ⟨_, h0 | ⟨blk, cap, cur, rfl, hbb, hh, hc, hm, hs, ht⟩⟩ := ho
  · omega
  have hne : blk ≠ g := fun e => HNE.out (by simp [Value.ownBlock, e])
  have Hbl := Lib.hid (Array.getElem?_eq_some_iff.1 hh).1
  have HCUR : Hid (∀ (j : Nat) (u : Value), ((#[.bool r, .int .i64 (b0 : Int), .int .i64 (e0 : Int)] : Array Value))[j]? = some u → cur[k * 3 + j]? = some u) := Lib.hid (fun j u hu => by
    have h1 : j < ((#[.bool r, .int .i64 (b0 : Int), .int .i64 (e0 : Int)] : Array Value)).size := (Array.getElem?_eq_some_iff.1 hu).1
    have h2 := HI.out
    rw [← Array.getElem?_toList, ← List.getElem?_take_of_lt (show k * 3 + j < (k + 1) * 3 by omega), ht, List.getElem?_append_right (by omega), hxl, Nat.add_sub_cancel_left, Array.getElem?_toList]
    exact hu)
  have HTK : Hid (cur.toList.take (k * 3) = xs) := Lib.hid (by
    have h := congrArg (List.take (k * 3)) ht
    rw [List.take_take, Nat.min_eq_left (by omega)] at h
    rw [h, List.take_append_of_le_length (by omega), List.take_of_length_le (by omega)])
  have BW := Lib.hid ((Below.refl w.heap.size w).alloc (Nat.le_refl _) (.cells #[.bool false, .int .i64 0, .int .i64 0] 141))
  have G0 := Lib.hid (heap_alloc_last w (.cells #[.bool false, .int .i64 0, .int .i64 0] 141))
  have S0 := Lib.hid (keep_block hg BW.out)
  have C0 := Lib.hid (keep_block hh BW.out)
  obtain ⟨W0, hW0⟩ : ∃ W0, w.alloc (.cells #[.bool false, .int .i64 0, .int .i64 0] 141) = W0 := ⟨_, rfl⟩
  rw [hW0] at BW G0 S0 C0
  have HSZ : Hid (W0.heap.size = w.heap.size + 1) := Lib.hid (by rw [← hW0]; simp)
  have H3 := Lib.hid hc
  have H4 := Lib.hid hm
  have H5 := Lib.hid hs
  have HB := Lib.hid hbb
  have HXL := Lib.hid hxl
  have cs := cell_of_one S0.out
  have hc0 := (cell_of_row W0 blk (k * 3) _ _ _ C0.out).trans (HCUR.out 0 _ rfl)
  have hc1 := (cell_of_row W0 blk (k * 3 + 1) _ _ _ C0.out).trans (HCUR.out 1 _ rfl)
  have hc2 := (cell_of_row W0 blk (k * 3 + 2) _ _ _ C0.out).trans (HCUR.out 2 _ rfl)
  have hr : W0.rangeAt blk (k * 3) ((#[.bool r, .int .i64 (b0 : Int), .int .i64 (e0 : Int)] : Array Value)).toList := range3 hc0 hc1 hc2
  clear hc0 hc1 hc2
  generalize (#[.bool r, .int .i64 (b0 : Int), .int .i64 (e0 : Int)] : Array Value) = item at HI HI1 hr ⊢
  have L1 := Lib.hid (laid_below W0 #[.bool false, .int .i64 0, .int .i64 0] item 141)
  have K1 := Lib.hid (laid_new W0 #[.bool false, .int .i64 0, .int .i64 0] item 141)
  have G1 := Lib.hid (laid_old #[.bool false, .int .i64 0, .int .i64 0] item 141 G0.out)
  have S1 := Lib.hid (laid_old #[.bool false, .int .i64 0, .int .i64 0] item 141 S0.out)
  have C1 := Lib.hid (laid_old #[.bool false, .int .i64 0, .int .i64 0] item 141 C0.out)
  have cs1 := cell_of_one S1.out
  have cf1 := free_of_one S1.out
  have hg0 : ¬ g = W0.heap.size := by have := HSZ.out; have := HGL.out; omega
  have hg1 : ¬ g = w.heap.size := by have := HGL.out; omega
  have K2 := Lib.hid ((heap_setCell_other _ ⟨g, 0, none⟩ W0.heap.size (.slice (some ⟨blk, 0, none⟩) k cap) (fun e => hg0 e.symm)).trans K1.out)
  have G2 := Lib.hid ((heap_setCell_other _ ⟨g, 0, none⟩ w.heap.size (.slice (some ⟨blk, 0, none⟩) k cap) (fun e => hg1 e.symm)).trans G1.out)
  have S2 := Lib.hid (one_setCell (u := .slice (some ⟨blk, 0, none⟩) k cap) S1.out)
  have C2 := Lib.hid ((heap_setCell_other _ ⟨g, 0, none⟩ blk (.slice (some ⟨blk, 0, none⟩) k cap) (fun e => hne e)).trans C1.out)
  have HG0 := Lib.hid hg0
  have HG1 := Lib.hid hg1
  have HNB := Lib.hid hne
  have c1 : (0 : Int) ≤ (k : Int) := by omega
  have c2 : (k : Int) ≤ 1048576 := by omega
  have c3 : (k : Int) ≤ (cap : Int) := by omega
  have c4 : k ≤ cap := by omega
  clear hg0 hg1 hh hg hs ht hm hc hbb hne hxl
  go_enter Try.func109, Try.ntmps109
  go_wp2_with (first | (refine wpList_load_mid rfl 141 (.tmp 25) rfl blk (k * 3) rfl item.toList _ hr Try.underlying141 rfl (by rw [Array.length_toList, HI.out]; exact sizeTurn) ?_) | (refine wpList_store_row rfl 141 (.tmp 6) _ rfl W0.heap.size item rfl rfl 141 #[.bool false, .int .i64 0, .int .i64 0] ( heap_alloc_last _ _) (by rw [HI.out]; exact sizeTurn) (by rw [HI.out]; rfl) HI1.out ?_) | (refine wpList_load_row rfl 141 (.tmp 6) rfl W0.heap.size rfl 141 item (0, 0) _ ( K2.out) Try.underlying141 rfl (by rw [HI.out]; exact sizeTurn) ?_) | (refine wpList_store_row rfl 141 (.tmp 2) _ rfl w.heap.size item rfl rfl 141 #[.bool false, .int .i64 0, .int .i64 0] ( G2.out) (by rw [HI.out]; exact sizeTurn) (by rw [HI.out]; rfl) HI1.out ?_))
  refine bodyPost_ret (results_cell2_row rfl _ _ w.heap.size 141 item (0, 0) _ rfl (setRow_heap _ _ #[.bool false, .int .i64 0, .int .i64 0] _ _ _ ( G2.out)) Try.underlying141 rfl (by rw [HI.out]; exact sizeTurn)) rfl ⟨rfl, ?_⟩
  have E := Lib.hid (Below.setRow (g := w.heap.size) (Below.refl w.heap.size (((W0.alloc (.cells #[.bool false, .int .i64 0, .int .i64 0] 141)).setRow W0.heap.size item).setCell ⟨g, 0, none⟩ (.slice (some ⟨blk, 0, none⟩) k cap))) (Nat.le_refl _) item)
  have C := Lib.hid (Keep.cell (B := w.heap.size) (X := (· = g)) (w := (W0.alloc (.cells #[.bool false, .int .i64 0, .int .i64 0] 141)).setRow W0.heap.size item) (p := ⟨g, 0, none⟩) (v := .slice (some ⟨blk, 0, none⟩) k cap) rfl)
  have KB := Lib.hid (((Keep.of (· = g) BW.out).trans ((Keep.of (· = g) L1.out).mono BW.out.size)).trans C.out)
  refine ⟨.slice (some ⟨blk, 0, none⟩) k cap, (setRow_other _ _ _ _ HG1.out).trans S2.out, ⟨HXL.out, Or.inr ⟨blk, cap, cur, rfl, HB.out, (setRow_other _ _ _ _ (by have := Hbl.out; omega)).trans C2.out, by have := H3.out; omega, H4.out, H5.out, HTK.out⟩⟩, rfl, KB.out.trans (Keep.of _ E.out)⟩
set_option maxRecDepth 100000 in
set_option maxHeartbeats 2000000 in
theorem popT0 (g base : Nat) (v : Value) (w : World) (hg : w.heap[g]? = some (.cells #[v] 86)) (ho : w.ownsRow base 141 3 v 0 []) :
    Calls Try.prog 109 #[.pointer (some ⟨g, 0, none⟩)] w fun e w' => e = .returned (.tuple #[.agg #[.bool false, .int .i64 0, .int .i64 0], .bool false]) ∧ Below w.heap.size w w' := by
  obtain ⟨a, cap, rfl⟩ := owns_slc ho
  have BW := Lib.hid ((Below.refl w.heap.size w).alloc (Nat.le_refl _) (.cells #[.bool false, .int .i64 0, .int .i64 0] 141))
  have G0 := Lib.hid (heap_alloc_last w (.cells #[.bool false, .int .i64 0, .int .i64 0] 141))
  have S0 := Lib.hid (keep_block hg BW.out)
  obtain ⟨W0, hW0⟩ : ∃ W0, w.alloc (.cells #[.bool false, .int .i64 0, .int .i64 0] 141) = W0 := ⟨_, rfl⟩
  rw [hW0] at BW G0 S0
  have cs := cell_of_one S0.out
  clear hg ho
  have B2 := Lib.hid (BW.out.alloc BW.out.size (.cells #[.bool false, .int .i64 0, .int .i64 0] 141))
  have G2 := Lib.hid (keep_block G0.out ((Below.refl _ _).alloc (Nat.le_refl _) (.cells #[.bool false, .int .i64 0, .int .i64 0] 141)))
  have K2 := Lib.hid (heap_alloc_last W0 (.cells #[.bool false, .int .i64 0, .int .i64 0] 141))
  go_enter Try.func109, Try.ntmps109
  go_wp2_with (first | (refine wpList_load_row rfl 141 (.tmp 4) rfl W0.heap.size rfl 141 #[.bool false, .int .i64 0, .int .i64 0] (0, 0) _ ( K2.out) Try.underlying141 rfl (by kernel_rfl) ?_) | (refine wpList_store_row rfl 141 (.tmp 2) _ rfl w.heap.size #[.bool false, .int .i64 0, .int .i64 0] rfl rfl 141 #[.bool false, .int .i64 0, .int .i64 0] ( G2.out) (by kernel_rfl) rfl (by simp [Value.oneCell']) ?_))
  refine bodyPost_ret (results_cell2_row rfl _ _ w.heap.size 141 #[.bool false, .int .i64 0, .int .i64 0] (0, 0) _ rfl (setRow_heap _ _ #[.bool false, .int .i64 0, .int .i64 0] _ _ _ ( G2.out)) Try.underlying141 rfl (by kernel_rfl)) rfl ⟨rfl, ?_⟩
  exact Below.setRow B2.out (Nat.le_refl _) _
set_option maxRecDepth 100000 in
set_option maxHeartbeats 4000000 in
theorem popK (g base k : Nat) (v : Value) (xs : List Value) (l : List Int) (hl : l.length = 32) (hk : k ≤ 1048576) (w : World) (hg : w.heap[g]? = some (.cells #[v] 157)) (ho : w.ownsRow base 28 32 v (k + 1) (xs ++ (ints .u8 l).toList)) :
    Calls Try.prog 118 #[.pointer (some ⟨g, 0, none⟩)] w fun e w' => e = .returned (.tuple #[.agg (ints .u8 l), .bool true]) ∧ ∃ v', w'.heap[g]? = some (.cells #[v'] 157) ∧ w'.ownsRow base 28 32 v' k xs ∧ v'.ownBlock = v.ownBlock ∧ Keep w.heap.size (· = g) w w' := by
  have Hz := Lib.hid z32_ints
  have HI := Lib.hid (show (ints .u8 l).size = 32 by rw [ints_size, hl])
  have HI1 := Lib.hid (ints_one .u8 l)
  have hxl : xs.length = k * 32 := by
    have h := ho.1
    have h2 : (ints .u8 l).toList.length = 32 := by rw [Array.length_toList]; exact HI.out
    rw [List.length_append, h2] at h
    omega
  have HNE := Lib.hid (owns_ne ho hg (by decide))
  have HGL := Lib.hid (Array.getElem?_eq_some_iff.1 hg).1
  obtain ⟨_, h0 | ⟨blk, cap, cur, rfl, hbb, hh, hc, hm, hs, ht⟩⟩ := ho
  · omega
  have hne : blk ≠ g := fun e => HNE.out (by simp [Value.ownBlock, e])
  have Hbl := Lib.hid (Array.getElem?_eq_some_iff.1 hh).1
  have HCUR : Hid (∀ (j : Nat) (u : Value), (ints .u8 l)[j]? = some u → cur[k * 32 + j]? = some u) := Lib.hid (fun j u hu => by
    have h1 : j < (ints .u8 l).size := (Array.getElem?_eq_some_iff.1 hu).1
    have h2 := HI.out
    rw [← Array.getElem?_toList, ← List.getElem?_take_of_lt (show k * 32 + j < (k + 1) * 32 by omega), ht, List.getElem?_append_right (by omega), hxl, Nat.add_sub_cancel_left, Array.getElem?_toList]
    exact hu)
  have HTK : Hid (cur.toList.take (k * 32) = xs) := Lib.hid (by
    have h := congrArg (List.take (k * 32)) ht
    rw [List.take_take, Nat.min_eq_left (by omega)] at h
    rw [h, List.take_append_of_le_length (by omega), List.take_of_length_le (by omega)])
  have BW := Lib.hid ((Below.refl w.heap.size w).alloc (Nat.le_refl _) (.cells (ints .u8 z32) 28))
  have G0 := Lib.hid (heap_alloc_last w (.cells (ints .u8 z32) 28))
  have S0 := Lib.hid (keep_block hg BW.out)
  have C0 := Lib.hid (keep_block hh BW.out)
  obtain ⟨W0, hW0⟩ : ∃ W0, w.alloc (.cells (ints .u8 z32) 28) = W0 := ⟨_, rfl⟩
  rw [hW0] at BW G0 S0 C0
  have HSZ : Hid (W0.heap.size = w.heap.size + 1) := Lib.hid (by rw [← hW0]; simp)
  have H3 := Lib.hid hc
  have H4 := Lib.hid hm
  have H5 := Lib.hid hs
  have HB := Lib.hid hbb
  have HXL := Lib.hid hxl
  have cs := cell_of_one S0.out
  have hr : W0.rangeAt blk (k * 32) (l.map (Value.int .u8)) := fun j u hu => (cell_of_row W0 blk (k * 32 + j) _ _ _ C0.out).trans (HCUR.out j u (by simpa [ints] using hu))
  have HLL := Lib.hid hl
  clear hl
  have L1 := Lib.hid (laid_below W0 (ints .u8 z32) (ints .u8 l) 28)
  have K1 := Lib.hid (laid_new W0 (ints .u8 z32) (ints .u8 l) 28)
  have G1 := Lib.hid (laid_old (ints .u8 z32) (ints .u8 l) 28 G0.out)
  have S1 := Lib.hid (laid_old (ints .u8 z32) (ints .u8 l) 28 S0.out)
  have C1 := Lib.hid (laid_old (ints .u8 z32) (ints .u8 l) 28 C0.out)
  have cs1 := cell_of_one S1.out
  have cf1 := free_of_one S1.out
  rw [Hz.out] at cs1 cf1
  have hg0 : ¬ g = W0.heap.size := by have := HSZ.out; have := HGL.out; omega
  have hg1 : ¬ g = w.heap.size := by have := HGL.out; omega
  have K2 := Lib.hid ((heap_setCell_other _ ⟨g, 0, none⟩ W0.heap.size (.slice (some ⟨blk, 0, none⟩) k cap) (fun e => hg0 e.symm)).trans K1.out)
  have G2 := Lib.hid ((heap_setCell_other _ ⟨g, 0, none⟩ w.heap.size (.slice (some ⟨blk, 0, none⟩) k cap) (fun e => hg1 e.symm)).trans G1.out)
  have S2 := Lib.hid (one_setCell (u := .slice (some ⟨blk, 0, none⟩) k cap) S1.out)
  have C2 := Lib.hid ((heap_setCell_other _ ⟨g, 0, none⟩ blk (.slice (some ⟨blk, 0, none⟩) k cap) (fun e => hne e)).trans C1.out)
  have HG0 := Lib.hid hg0
  have HG1 := Lib.hid hg1
  have HNB := Lib.hid hne
  have c1 : (0 : Int) ≤ (k : Int) := by omega
  have c2 : (k : Int) ≤ 1048576 := by omega
  have c3 : (k : Int) ≤ (cap : Int) := by omega
  have c4 : k ≤ cap := by omega
  clear hg0 hg1 hh hg hs ht hm hc hbb hne hxl
  rw [Hz.out] at hW0
  go_enter Try.func118, Try.ntmps118
  go_wp2_with (first | (refine wpList_load_ints rfl 28 (.tmp 25) rfl blk (k * 32) rfl .u8 l _ hr Try.underlying28 rfl (by rw [HLL.out]; exact sizeKey) ?_) | (refine wpList_store_row rfl 28 (.tmp 6) _ rfl W0.heap.size (ints .u8 l) rfl rfl 28 (ints .u8 z32) (by rw [Hz.out]; exact heap_alloc_last _ _) (by rw [HI.out]; exact sizeKey) (by rw [HI.out]; rfl) HI1.out ?_) | (refine wpList_load_row rfl 28 (.tmp 6) rfl W0.heap.size rfl 28 (ints .u8 l) (0, 0) _ (by rw [← Hz.out]; exact K2.out) Try.underlying28 rfl (by rw [HI.out]; exact sizeKey) ?_) | (refine wpList_store_row rfl 28 (.tmp 2) _ rfl w.heap.size (ints .u8 l) rfl rfl 28 (ints .u8 z32) (by rw [← Hz.out]; exact G2.out) (by rw [HI.out]; exact sizeKey) (by rw [HI.out]; rfl) HI1.out ?_))
  refine bodyPost_ret (results_cell2_row rfl _ _ w.heap.size 28 (ints .u8 l) (0, 0) _ rfl (setRow_heap _ _ (ints .u8 z32) _ _ _ (by rw [← Hz.out]; exact G2.out)) Try.underlying28 rfl (by rw [HI.out]; exact sizeKey)) rfl ⟨rfl, ?_⟩
  rw [← Hz.out]
  have E := Lib.hid (Below.setRow (g := w.heap.size) (Below.refl w.heap.size (((W0.alloc (.cells (ints .u8 z32) 28)).setRow W0.heap.size (ints .u8 l)).setCell ⟨g, 0, none⟩ (.slice (some ⟨blk, 0, none⟩) k cap))) (Nat.le_refl _) (ints .u8 l))
  have C := Lib.hid (Keep.cell (B := w.heap.size) (X := (· = g)) (w := (W0.alloc (.cells (ints .u8 z32) 28)).setRow W0.heap.size (ints .u8 l)) (p := ⟨g, 0, none⟩) (v := .slice (some ⟨blk, 0, none⟩) k cap) rfl)
  have KB := Lib.hid (((Keep.of (· = g) BW.out).trans ((Keep.of (· = g) L1.out).mono BW.out.size)).trans C.out)
  refine ⟨.slice (some ⟨blk, 0, none⟩) k cap, (setRow_other _ _ _ _ HG1.out).trans S2.out, ⟨HXL.out, Or.inr ⟨blk, cap, cur, rfl, HB.out, (setRow_other _ _ _ _ (by have := Hbl.out; omega)).trans C2.out, by have := H3.out; omega, H4.out, H5.out, HTK.out⟩⟩, rfl, KB.out.trans (Keep.of _ E.out)⟩
set_option maxRecDepth 100000 in
set_option maxHeartbeats 2000000 in
theorem popK0 (g base : Nat) (v : Value) (w : World) (hg : w.heap[g]? = some (.cells #[v] 157)) (ho : w.ownsRow base 28 32 v 0 []) :
    Calls Try.prog 118 #[.pointer (some ⟨g, 0, none⟩)] w fun e w' => e = .returned (.tuple #[.agg (ints .u8 z32), .bool false]) ∧ Below w.heap.size w w' := by
  have Hz := Lib.hid z32_ints
  obtain ⟨a, cap, rfl⟩ := owns_slc ho
  have BW := Lib.hid ((Below.refl w.heap.size w).alloc (Nat.le_refl _) (.cells (ints .u8 z32) 28))
  have G0 := Lib.hid (heap_alloc_last w (.cells (ints .u8 z32) 28))
  have S0 := Lib.hid (keep_block hg BW.out)
  obtain ⟨W0, hW0⟩ : ∃ W0, w.alloc (.cells (ints .u8 z32) 28) = W0 := ⟨_, rfl⟩
  rw [hW0] at BW G0 S0
  have cs := cell_of_one S0.out
  clear hg ho
  have B2 := Lib.hid (BW.out.alloc BW.out.size (.cells (ints .u8 z32) 28))
  have G2 := Lib.hid (keep_block G0.out ((Below.refl _ _).alloc (Nat.le_refl _) (.cells (ints .u8 z32) 28)))
  have K2 := Lib.hid (heap_alloc_last W0 (.cells (ints .u8 z32) 28))
  rw [Hz.out] at hW0
  go_enter Try.func118, Try.ntmps118
  go_wp2_with (first | (refine wpList_load_row rfl 28 (.tmp 4) rfl W0.heap.size rfl 28 (ints .u8 z32) (0, 0) _ (by rw [← Hz.out]; exact K2.out) Try.underlying28 rfl (by kernel_rfl) ?_) | (refine wpList_store_row rfl 28 (.tmp 2) _ rfl w.heap.size (ints .u8 z32) rfl rfl 28 (ints .u8 z32) (by rw [← Hz.out]; exact G2.out) (by kernel_rfl) rfl (ints_one _ _) ?_))
  refine bodyPost_ret (results_cell2_row rfl _ _ w.heap.size 28 (ints .u8 z32) (0, 0) _ rfl (setRow_heap _ _ (ints .u8 z32) _ _ _ (by rw [← Hz.out]; exact G2.out)) Try.underlying28 rfl (by kernel_rfl)) rfl ⟨rfl, ?_⟩
  rw [← Hz.out]
  exact Below.setRow B2.out (Nat.le_refl _) _
end Go.Proofs.Ytjijgckljjcfiaa
