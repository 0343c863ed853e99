/- The statement on KeyText: its walk. -/
import Derived.Test.YthfokngbjkljdabText
namespace Go.Proofs.Ythfokngbjkljdab
open Go.ChangeShapes Go.WideShapes Go.ChangeAt Go.RowKit
set_option linter.unusedVariables false
set_option maxHeartbeats 1000000 in
theorem FnExactKeyText_walk (a : List Int) (w : World) (ha : a.length = 32) (fa : ∀ z ∈ a, (Lit.int .u8 z).wf = true) :
    Calls Try.prog 3 #[.agg (ints .u8 a)] w fun e w' => e = .returned (.bool true) ∧ Below w.heap.size w w' := by
  have Ha := Lib.hid ha
  have Fa := Lib.hid (fun x hx => bounds_u8 (fa x hx))
  clear ha fa
  generalize hS : strOfNums (hexL a 64) = S
  have HS := Lib.hid hS
  clear hS
  go_enter Try.func3, Try.ntmps3
  go_wp2_with (refine wpList_load_row rfl 22 (.tmp 1) rfl w.heap.size rfl 22 (ints .u8 a) (0, 0) _ (heap_alloc_last _ _) Try.underlying22 rfl (by rw [ints_size, Ha.out]; exact sizeA32) ?_)
  refine (toKey_ a Ha.out _).mono ?_
  rintro e w1 ⟨rfl, hb1⟩
  have Hb1 := Lib.hid hb1
  clear hb1
  go_wp2_with fail
  refine (text_spec1 a Ha.out Fa.out _).mono ?_
  rw [HS.out]
  rintro e w2 ⟨rfl, hb2⟩
  have Hw2 := Lib.hid (below_call Hb1.out Hb1.out.size hb2)
  have Hg := Lib.hid ((Hw2.out.block w.heap.size (by simp)).trans (heap_alloc_last w (.cells (ints .u8 a) 22)))
  clear hb2
  go_wp2_with (refine wpList_load_row rfl 22 (.tmp 1) rfl w.heap.size rfl 22 (ints .u8 a) (0, 0) _ Hg.out Try.underlying22 rfl (by rw [ints_size, Ha.out]; exact sizeA32) ?_)
  refine (toKey_ a Ha.out _).mono ?_
  rintro e w3 ⟨rfl, hb3⟩
  have Hw3 := Lib.hid (below_call Hw2.out Hw2.out.size hb3)
  clear hb3
  go_wp2_with fail
  refine (text_impl a Ha.out Fa.out _).mono ?_
  rw [HS.out]
  rintro e w4 ⟨rfl, hb4⟩
  have Hw4 := Lib.hid (below_call Hw3.out Hw3.out.size hb4)
  clear hb4
  go_wp2
  go_ret
  exact ⟨rfl, ((Below.refl w.heap.size w).alloc (by simp) _).trans (Hw4.out.mono (by simp))⟩
end Go.Proofs.Ythfokngbjkljdab
