/- The statement on ReadKey: its walk. -/
import Derived.Test.YthfokngbjkljdabReadI
namespace Go.Proofs.Ythfokngbjkljdab
open Go.ChangeShapes Go.WideShapes Go.ChangeAt Go.RowKit
set_option linter.unusedVariables false
set_option maxHeartbeats 2000000 in
theorem readkey_body (s : ByteArray) (V : List Int) (c : Int) (hV : V.length = 32) (hm : s.size ≤ 1048576) (h1 : ∀ w, Calls Try.prog 15 #[.string s] w fun e w' => e = .returned (.tuple #[.agg (ints .u8 V), .int .i64 c]) ∧ Below w.heap.size w w')
    (h2 : ∀ w, Calls Try.prog 16 #[.string s] w fun e w' => e = .returned (.tuple #[.agg (ints .u8 V), .int .i64 c]) ∧ Below w.heap.size w w') (w : World) :
    Calls Try.prog 4 #[.string s] w fun e w' => e = .returned (.bool true) ∧ Below w.heap.size w w' := by
  have Hz := Lib.hid z32_ints
  have HV := Lib.hid hV
  have H1 := Lib.hid h1
  have H2 := Lib.hid h2
  clear hV h1 h2
  go_enter Try.func4, Try.ntmps4
  go_wp2_with fail
  refine (H1.out _).mono ?_
  rintro e w1 ⟨rfl, hb1⟩
  have Hb1 := Lib.hid hb1
  clear hb1
  go_wp2_with (refine wpList_store_row rfl 24 _ _ rfl w1.heap.size (ints .u8 V) rfl rfl 24 (ints .u8 z32) (by rw [Hz.out]; exact heap_alloc_last _ _) (by rw [ints_size, HV.out]; exact sizeKey) (by rw [ints_size, ints_size, HV.out]; rfl) (ints_one _ _) ?_; rw [World.setRow_alloc_new])
  refine (H2.out _).mono ?_
  rintro e w2 ⟨rfl, hb2⟩
  have Hb2 := Lib.hid hb2
  clear hb2
  go_wp2_with (first | (refine wpList_store_row rfl 24 _ _ rfl w2.heap.size (ints .u8 V) rfl rfl 24 (ints .u8 z32) (by rw [Hz.out]; exact heap_alloc_last _ _) (by rw [ints_size, HV.out]; exact sizeKey) (by rw [ints_size, ints_size, HV.out]; rfl) (ints_one _ _) ?_; rw [World.setRow_alloc_new]) | (refine wpList_load_row rfl 24 (.tmp 5) rfl w2.heap.size rfl 24 (ints .u8 V) (0, 0) _ (heap_alloc_last _ _) Try.underlying24 rfl (by rw [ints_size, HV.out]; exact sizeKey) ?_) | (refine wpList_load_row rfl 24 (.tmp 3) rfl w1.heap.size rfl 24 (ints .u8 V) (0, 0) _ (old_block _ Hb2.out) Try.underlying24 rfl (by rw [ints_size, HV.out]; exact sizeKey) ?_))
  refine (eqKey_ V HV.out _).mono ?_
  rintro e w3 ⟨rfl, hb3⟩
  have Hb3 := Lib.hid hb3
  clear hb3
  go_wp2
  go_ret
  exact ⟨rfl, below_step (below_step Hb1.out Hb1.out.size Hb2.out) (Nat.le_trans Hb1.out.size (Nat.le_trans (by simp) Hb2.out.size)) Hb3.out⟩
theorem FnExactReadKey_walk (s : ByteArray) (w : World) (hs : s.size ≤ maxLen) :
    Calls Try.prog 4 #[.string s] w fun e w' => e = .returned (.bool true) ∧ Below w.heap.size w w' := by
  by_cases hm : s.size ≤ 1048576
  · by_cases hv : s.size = 64 ∧ ∀ j, j < 64 → isHx (charI s j) = true
    · exact readkey_body s (stT s 64) 0 (stT_len s 64) hm (fun w => read_spec_yes s hv.1 hv.2 w) (fun w => read_impl_yes s hv.1 hv.2 w) w
    · exact readkey_body s z32 5 z32_len hm (fun w => read_spec_no s hs hv w) (fun w => read_impl_no s hs hv w) w
  · unfold maxLen at hs
    go_enter Try.func4, Try.ntmps4
    go_wp2
    go_ret
    exact ⟨rfl, Below.refl _ _⟩
end Go.Proofs.Ythfokngbjkljdab
