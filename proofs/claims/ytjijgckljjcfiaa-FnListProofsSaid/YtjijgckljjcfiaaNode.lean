/- The key of a node: the specification and the program. Written by wip/gen/node.py. -/
import Derived.Test.YtjijgckljjcfiaaPairS
namespace Go.Proofs.Ytjijgckljjcfiaa
open Go.ChangeShapes Go.WideShapes Go.ChangeAt Go.RowKit
set_option linter.unusedVariables false
def nodeK (a b : List Int) : List Int := pairK 2 a b
theorem pairK_node (a b : List Int) : pairK 2 a b = nodeK a b := rfl
theorem nodeK_len (a b : List Int) : (nodeK a b).length = 32 := pairK_len _ _ _
set_option maxRecDepth 100000 in
set_option maxHeartbeats 1000000 in
theorem l03node_spec (a b : List Int) (ha : a.length = 32) (fa : ∀ z ∈ a, 0 ≤ z ∧ z ≤ 255) (hb : b.length = 32) (fb : ∀ z ∈ b, 0 ≤ z ∧ z ≤ 255) (w : World) :
    Calls Try.prog 68 #[.agg (ints .u8 a), .agg (ints .u8 b)] w fun e w' => e = .returned (.agg (ints .u8 (nodeK a b))) ∧ Below w.heap.size w w' := by
  have Hp := Lib.hid (fun W => pair_spec 2 a b (by omega) (by omega) ha fa hb fb W)
  have Hvl := Lib.hid (nodeK_len a b)
  have Hz := Lib.hid z32_ints
  have Ha := Lib.hid ha
  have Hb := Lib.hid hb
  clear ha hb fa fb
  try simp only [pairK_node] at Hp
  generalize nodeK a b = V at Hp Hvl
  go_enter Try.func68, Try.ntmps68
  have BW := Lib.hid ((((Below.refl w.heap.size w).alloc (by simp) (.cells (ints .u8 a) 28)).alloc (by simp) (.cells (ints .u8 b) 28)).alloc (by simp; omega) (.cells (ints .u8 z32) 28))
  have GA := Lib.hid (heap3_0 w (.cells (ints .u8 a) 28) (.cells (ints .u8 b) 28) (.cells (ints .u8 z32) 28))
  have GB := Lib.hid (heap3_1 w (.cells (ints .u8 a) 28) (.cells (ints .u8 b) 28) (.cells (ints .u8 z32) 28))
  have G6 := Lib.hid (heap3_2 w (.cells (ints .u8 a) 28) (.cells (ints .u8 b) 28) (.cells (ints .u8 z32) 28))
  go_wp2_with (first | (refine wpList_load_row rfl 28 _ rfl w.heap.size rfl 28 (ints .u8 a) (0, 0) _ (by rw [← Hz.out]; exact GA.out) Try.underlying28 rfl (by rw [ints_size, Ha.out]; exact sizeKey) ?_) | (refine wpList_load_row rfl 28 _ rfl (w.heap.size + 1) rfl 28 (ints .u8 b) (0, 0) _ (by rw [← Hz.out]; exact GB.out) Try.underlying28 rfl (by rw [ints_size, Hb.out]; exact sizeKey) ?_))
  refine (Hp.out _).mono ?_
  rintro e w8 ⟨rfl, hb8⟩
  rw [← Hz.out] at hb8
  have C8 := Lib.hid (below_call BW.out BW.out.size hb8)
  have G8 := Lib.hid (keep_block G6.out hb8)
  clear hb8
  go_wp2_with (refine wpList_store_row rfl 28 _ _ rfl (w.heap.size + 1 + 1) (ints .u8 V) rfl rfl 28 (ints .u8 z32) G8.out (by rw [ints_size, Hvl.out]; exact sizeKey) (by rw [ints_size, ints_size, Hvl.out]; rfl) (ints_one _ _) ?_)
  refine bodyPost_ret (results_cell_row rfl _ _ (w.heap.size + 1 + 1) 28 (ints .u8 V) (0, 0) _ rfl (setRow_heap _ _ (ints .u8 z32) _ _ _ G8.out) Try.underlying28 rfl (by rw [ints_size, Hvl.out]; exact sizeKey)) rfl ⟨rfl, ?_⟩
  exact Below.setRow C8.out (by omega) _
set_option maxRecDepth 100000 in
set_option maxHeartbeats 1000000 in
theorem nodekey_spec (a b : List Int) (ha : a.length = 32) (fa : ∀ z ∈ a, 0 ≤ z ∧ z ≤ 255) (hb : b.length = 32) (fb : ∀ z ∈ b, 0 ≤ z ∧ z ≤ 255) (w : World) :
    Calls Try.prog 45 #[.agg (ints .u8 a), .agg (ints .u8 b)] w fun e w' => e = .returned (.agg (ints .u8 (nodeK a b))) ∧ Below w.heap.size w w' := by
  have Hp := Lib.hid (fun W => l03node_spec a b ha fa hb fb W)
  have Hvl := Lib.hid (nodeK_len a b)
  have Hz := Lib.hid z32_ints
  have Ha := Lib.hid ha
  have Hb := Lib.hid hb
  clear ha hb fa fb
  try simp only [pairK_node] at Hp
  generalize nodeK a b = V at Hp Hvl
  go_enter Try.func45, Try.ntmps45
  have BW := Lib.hid ((((Below.refl w.heap.size w).alloc (by simp) (.cells (ints .u8 a) 28)).alloc (by simp) (.cells (ints .u8 b) 28)).alloc (by simp; omega) (.cells (ints .u8 z32) 28))
  have GA := Lib.hid (heap3_0 w (.cells (ints .u8 a) 28) (.cells (ints .u8 b) 28) (.cells (ints .u8 z32) 28))
  have GB := Lib.hid (heap3_1 w (.cells (ints .u8 a) 28) (.cells (ints .u8 b) 28) (.cells (ints .u8 z32) 28))
  have G6 := Lib.hid (heap3_2 w (.cells (ints .u8 a) 28) (.cells (ints .u8 b) 28) (.cells (ints .u8 z32) 28))
  go_wp2_with (first | (refine wpList_load_row rfl 28 _ rfl w.heap.size rfl 28 (ints .u8 a) (0, 0) _ (by rw [← Hz.out]; exact GA.out) Try.underlying28 rfl (by rw [ints_size, Ha.out]; exact sizeKey) ?_) | (refine wpList_load_row rfl 28 _ rfl (w.heap.size + 1) rfl 28 (ints .u8 b) (0, 0) _ (by rw [← Hz.out]; exact GB.out) Try.underlying28 rfl (by rw [ints_size, Hb.out]; exact sizeKey) ?_))
  refine (Hp.out _).mono ?_
  rintro e w8 ⟨rfl, hb8⟩
  rw [← Hz.out] at hb8
  have C8 := Lib.hid (below_call BW.out BW.out.size hb8)
  have G8 := Lib.hid (keep_block G6.out hb8)
  clear hb8
  go_wp2_with (refine wpList_store_row rfl 28 _ _ rfl (w.heap.size + 1 + 1) (ints .u8 V) rfl rfl 28 (ints .u8 z32) G8.out (by rw [ints_size, Hvl.out]; exact sizeKey) (by rw [ints_size, ints_size, Hvl.out]; rfl) (ints_one _ _) ?_)
  refine bodyPost_ret (results_cell_row rfl _ _ (w.heap.size + 1 + 1) 28 (ints .u8 V) (0, 0) _ rfl (setRow_heap _ _ (ints .u8 z32) _ _ _ G8.out) Try.underlying28 rfl (by rw [ints_size, Hvl.out]; exact sizeKey)) rfl ⟨rfl, ?_⟩
  exact Below.setRow C8.out (by omega) _
set_option maxRecDepth 100000 in
set_option maxHeartbeats 1000000 in
theorem node_impl (a b : List Int) (ha : a.length = 32) (fa : ∀ z ∈ a, 0 ≤ z ∧ z ≤ 255) (hb : b.length = 32) (fb : ∀ z ∈ b, 0 ≤ z ∧ z ≤ 255) (w : World) :
    Calls Try.prog 46 #[.agg (ints .u8 a), .agg (ints .u8 b)] w fun e w' => e = .returned (.agg (ints .u8 (nodeK a b))) ∧ Below w.heap.size w w' := by
  have Hp := Lib.hid (fun W => pair_impl 2 a b (by omega) (by omega) ha fa hb fb W)
  have Hvl := Lib.hid (nodeK_len a b)
  have Hz := Lib.hid z32_ints
  have Ha := Lib.hid ha
  have Hb := Lib.hid hb
  clear ha hb fa fb
  try simp only [pairK_node] at Hp
  generalize nodeK a b = V at Hp Hvl
  go_enter Try.func46, Try.ntmps46
  have BW := Lib.hid ((((Below.refl w.heap.size w).alloc (by simp) (.cells (ints .u8 a) 28)).alloc (by simp) (.cells (ints .u8 b) 28)).alloc (by simp; omega) (.cells (ints .u8 z32) 28))
  have GA := Lib.hid (heap3_0 w (.cells (ints .u8 a) 28) (.cells (ints .u8 b) 28) (.cells (ints .u8 z32) 28))
  have GB := Lib.hid (heap3_1 w (.cells (ints .u8 a) 28) (.cells (ints .u8 b) 28) (.cells (ints .u8 z32) 28))
  have G6 := Lib.hid (heap3_2 w (.cells (ints .u8 a) 28) (.cells (ints .u8 b) 28) (.cells (ints .u8 z32) 28))
  go_wp2_with (first | (refine wpList_load_row rfl 28 _ rfl w.heap.size rfl 28 (ints .u8 a) (0, 0) _ (by rw [← Hz.out]; exact GA.out) Try.underlying28 rfl (by rw [ints_size, Ha.out]; exact sizeKey) ?_) | (refine wpList_load_row rfl 28 _ rfl (w.heap.size + 1) rfl 28 (ints .u8 b) (0, 0) _ (by rw [← Hz.out]; exact GB.out) Try.underlying28 rfl (by rw [ints_size, Hb.out]; exact sizeKey) ?_))
  refine (Hp.out _).mono ?_
  rintro e w8 ⟨rfl, hb8⟩
  rw [← Hz.out] at hb8
  have C8 := Lib.hid (below_call BW.out BW.out.size hb8)
  have G8 := Lib.hid (keep_block G6.out hb8)
  clear hb8
  go_wp2_with (refine wpList_store_row rfl 28 _ _ rfl (w.heap.size + 1 + 1) (ints .u8 V) rfl rfl 28 (ints .u8 z32) G8.out (by rw [ints_size, Hvl.out]; exact sizeKey) (by rw [ints_size, ints_size, Hvl.out]; rfl) (ints_one _ _) ?_)
  refine bodyPost_ret (results_cell_row rfl _ _ (w.heap.size + 1 + 1) 28 (ints .u8 V) (0, 0) _ rfl (setRow_heap _ _ (ints .u8 z32) _ _ _ G8.out) Try.underlying28 rfl (by rw [ints_size, Hvl.out]; exact sizeKey)) rfl ⟨rfl, ?_⟩
  exact Below.setRow C8.out (by omega) _
end Go.Proofs.Ytjijgckljjcfiaa
