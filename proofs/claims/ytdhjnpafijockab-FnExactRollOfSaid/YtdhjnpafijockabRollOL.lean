/- The statement on RollOf: its walk. -/
import Derived.Test.YtdhjnpafijockabRollOf
namespace Go.Proofs.Ytdhjnpafijockab
open Go.ChangeShapes Go.WideShapes Go.ChangeAt Go.RowKit
set_option linter.unusedVariables false
set_option maxRecDepth 100000 in
set_option maxHeartbeats 1000000 in
theorem rollol_in (a : Option Addr) (n cap : Nat) (l : List Int) (hn : n ≤ 1048576) (w : World) (hr : Rd .u8 w a n l) (fl : ∀ z ∈ l, 0 ≤ z ∧ z ≤ 255) :
    Calls Try.prog 5 #[.slice a n cap] w fun e w' => e = .returned (.bool true) ∧ Below w.heap.size w w' := by
  have Hr := Lib.hid hr
  have Hs := Lib.hid (fun (b : Option Addr) (W : World) h => rollof_spec b n n l hn fl W h)
  have Hi := Lib.hid (fun (b : Option Addr) (W : World) h => rollof_impl b n n l hn fl W h)
  have Hl := Lib.hid hr.1
  clear hr fl
  generalize accR rollW l 0 n = A at Hs Hi
  go_enter Try.func5, Try.ntmps5
  go_wp2_with fail
  refine (toBS a n cap l hn _ Hr.out).mono ?_
  rintro e v1 ⟨rfl, rfl⟩
  have R1 := Rd.row (heap_alloc_last w (.cells (ints .u8 l) 5))
  rw [Hl.out] at R1
  have HR1 := Lib.hid R1
  clear R1
  go_wp2_with fail
  refine (Hs.out _ _ HR1.out).mono ?_
  rintro e w1 ⟨rfl, hb⟩
  have L1 := Lib.hid (((Below.refl w.heap.size w).alloc (by simp) (.cells (ints .u8 l) 5)).trans (hb.mono (by simp)))
  clear hb
  go_wp2_with fail
  refine (toBS a n cap l hn _ (Hr.out.below L1.out)).mono ?_
  rintro e v2 ⟨rfl, rfl⟩
  have L2 := Lib.hid (L1.out.alloc L1.out.size (.cells (ints .u8 l) 5))
  have X2 := Lib.hid (heap_alloc_last w1 (.cells (ints .u8 l) 5))
  have R2 := Rd.row (heap_alloc_last w1 (.cells (ints .u8 l) 5))
  rw [Hl.out] at R2
  have HR2 := Lib.hid R2
  clear R2
  go_wp2_with fail
  refine (Hi.out _ _ HR2.out).mono ?_
  rintro e w3 ⟨rfl, hb⟩
  have L3 := Lib.hid (below_call L2.out L2.out.size hb)
  have R3 := Lib.hid (HR2.out.below hb)
  clear hb
  go_wp2_with fail
  refine (toBS a n cap l hn _ (Hr.out.below L3.out)).mono ?_
  rintro e v4 ⟨rfl, rfl⟩
  have L4 := Lib.hid (L3.out.alloc L3.out.size (.cells (ints .u8 l) 5))
  have R4 := Rd.row (heap_alloc_last w3 (.cells (ints .u8 l) 5))
  rw [Hl.out] at R4
  have HR4 := Lib.hid R4
  clear R4
  go_wp2_with fail
  refine (eqBS _ _ n n n l hn _ (R3.out.below ((Below.refl _ _).alloc (by simp) _)) HR4.out).mono ?_
  rintro e w5 ⟨rfl, hb⟩
  have L5 := Lib.hid (below_call L4.out L4.out.size hb)
  clear hb
  go_wp2
  go_ret
  exact ⟨rfl, L5.out⟩
set_option maxHeartbeats 1000000 in
theorem rollol_out (a : Option Addr) (n cap : Nat) (hm : n ≤ maxLen) (hn : ¬ n ≤ 1048576) (w : World) :
    Calls Try.prog 5 #[.slice a n cap] w fun e w' => e = .returned (.bool true) ∧ Below w.heap.size w w' := by
  unfold maxLen at hm
  have h1 : (1048576 : Int) < (n : Int) := by omega
  go_enter Try.func5, Try.ntmps5
  go_wp2
  go_ret
  exact ⟨rfl, Below.refl _ _⟩
theorem FnExactRollOf_walk (a : Option Addr) (n cap : Nat) (zs : List Int) (w : World) (f : IsRow .u8 w a n cap zs) :
    Calls Try.prog 5 #[.slice a n cap] w fun e w' => e = .returned (.bool true) ∧ Below w.heap.size w w' := by
  by_cases hn : n ≤ 1048576
  · exact rollol_in a n cap (zs.take n) hn w (rd_of_row f) (fun z hz => bounds_u8 (rd_wf f z hz))
  · exact rollol_out a n cap (row_len f) hn w
end Go.Proofs.Ytdhjnpafijockab
