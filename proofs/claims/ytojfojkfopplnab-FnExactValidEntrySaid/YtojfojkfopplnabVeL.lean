/- The statement on ValidEntry: its walk. Written by wip/gen/vel.py. -/
import Derived.Test.YtojfojkfopplnabVal
namespace Go.Proofs.Ytojfojkfopplnab
open Go.ChangeShapes Go.WideShapes Go.ChangeAt Go.RowKit
set_option linter.unusedVariables false
set_option linter.unusedSimpArgs false
set_option maxRecDepth 100000 in
set_option maxHeartbeats 2000000 in
theorem ve_in (s t : ByteArray) (hs : s.size ≤ maxLen) (ht : t.size ≤ maxLen) (h : s.size + t.size ≤ 1048576) (w : World) :
    Calls Try.prog 3 #[.agg #[.string s, .string t]] w fun e w' => e = .returned (.bool true) ∧ Below w.heap.size w w' := by
  have A0 := Lib.hid (heap_alloc_last w (.cells #[.string s, .string t] 23))
  have B0 := Lib.hid ((Below.refl w.heap.size w).alloc (Nat.le_refl _) (.cells #[.string s, .string t] 23))
  have q0 : ¬ (1048576 : Int) - (s.size : Int) - (t.size : Int) < 0 := by omega
  go_enter Try.func3, Try.ntmps3
  go_wp2_with fail
  refine (szE_in s t 1048576 (by omega) (by omega) hs ht (by omega) _).mono ?_
  rintro e w1 ⟨rfl, hb⟩
  have hb := (show Below (w.alloc (.cells #[.string s, .string t] 23)).heap.size (w.alloc (.cells #[.string s, .string t] 23)) w1 from hb)
  have B1 := Lib.hid (below_call B0.out B0.out.size hb)
  have A1 := Lib.hid (keep_block A0.out hb)
  clear hb
  have c0 := cell_of_row w1 w.heap.size 0 _ _ _ A1.out
  have c1 := cell_of_row w1 w.heap.size 1 _ _ _ A1.out
  go_wp2_with fail
  refine (toEnt s t _).mono ?_
  rintro e w2 ⟨rfl, hb⟩
  have B2 := Lib.hid (below_call B1.out B1.out.size hb)
  have A2 := Lib.hid (keep_block A1.out hb)
  clear c0 c1
  have c0 := cell_of_row w2 w.heap.size 0 _ _ _ A2.out
  have c1 := cell_of_row w2 w.heap.size 1 _ _ _ A2.out
  clear hb
  go_wp2_with fail
  refine (entry_spec0 s t hs ht _).mono ?_
  rintro e w3 ⟨rfl, hb⟩
  have B3 := Lib.hid (below_call B2.out B2.out.size hb)
  have A3 := Lib.hid (keep_block A2.out hb)
  clear c0 c1
  have c0 := cell_of_row w3 w.heap.size 0 _ _ _ A3.out
  have c1 := cell_of_row w3 w.heap.size 1 _ _ _ A3.out
  clear hb
  go_wp2_with fail
  refine (toEnt s t _).mono ?_
  rintro e w4 ⟨rfl, hb⟩
  have B4 := Lib.hid (below_call B3.out B3.out.size hb)
  have A4 := Lib.hid (keep_block A3.out hb)
  clear c0 c1
  have c0 := cell_of_row w4 w.heap.size 0 _ _ _ A4.out
  have c1 := cell_of_row w4 w.heap.size 1 _ _ _ A4.out
  clear hb
  go_wp2_with fail
  refine (entry_impl s t hs ht _).mono ?_
  rintro e w5 ⟨rfl, hb⟩
  have B5 := Lib.hid (below_call B4.out B4.out.size hb)
  have A5 := Lib.hid (keep_block A4.out hb)
  clear c0 c1
  have c0 := cell_of_row w5 w.heap.size 0 _ _ _ A5.out
  have c1 := cell_of_row w5 w.heap.size 1 _ _ _ A5.out
  clear hb
  go_wp2
  go_ret
  exact ⟨rfl, B5.out⟩
set_option maxRecDepth 100000 in
set_option maxHeartbeats 2000000 in
theorem ve_out (s t : ByteArray) (hs : s.size ≤ maxLen) (ht : t.size ≤ maxLen) (h : ¬ s.size + t.size ≤ 1048576) (w : World) :
    Calls Try.prog 3 #[.agg #[.string s, .string t]] w fun e w' => e = .returned (.bool true) ∧ Below w.heap.size w w' := by
  have B0 := Lib.hid ((Below.refl w.heap.size w).alloc (Nat.le_refl _) (.cells #[.string s, .string t] 23))
  go_enter Try.func3, Try.ntmps3
  go_wp2_with fail
  refine (szE_out s t 1048576 (by omega) (by omega) hs ht (by omega) _).mono ?_
  rintro e w1 ⟨rfl, hb⟩
  have B1 := Lib.hid (below_call B0.out B0.out.size hb)
  clear hb
  go_wp2
  go_ret
  exact ⟨rfl, B1.out⟩
theorem FnExactValidEntry_walk (s t : ByteArray) (w : World) (hs : s.size ≤ maxLen) (ht : t.size ≤ maxLen) :
    Calls Try.prog 3 #[.agg #[.string s, .string t]] w fun e w' => e = .returned (.bool true) ∧ Below w.heap.size w w' := by
  by_cases h : s.size + t.size ≤ 1048576
  · exact ve_in s t hs ht h w
  · exact ve_out s t hs ht h w
end Go.Proofs.Ytojfojkfopplnab
