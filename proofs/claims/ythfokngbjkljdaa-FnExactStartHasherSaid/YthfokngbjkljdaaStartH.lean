/- The statement on StartHasher: its walk. -/
import Derived.Test.YthfokngbjkljdaaStart
import Derived.Test.YthfokngbjkljdaaValid
namespace Go.Proofs.Ythfokngbjkljdaa
open Go.ChangeShapes Go.WideShapes Go.ChangeAt Go.RowKit
set_option linter.unusedVariables false
theorem startH_spec_lit (tag : Int) (h0 : 0 ≤ tag) (h1 : tag ≤ 255) (y0 y1 y2 y3 y4 y5 y6 y7 : Int) (hy : startW tag = [y0, y1, y2, y3, y4, y5, y6, y7]) (w : World) :
    Calls Try.prog 59 #[.int .u8 tag] w fun e w' => e = .returned (.agg #[.int .u32 y0, .int .u32 y1, .int .u32 y2, .int .u32 y3, .int .u32 y4, .int .u32 y5, .int .u32 y6, .int .u32 y7]) ∧ Below w.heap.size w w' := by
  have h := start_spec0 tag h0 h1 w
  rw [hy] at h
  exact h
set_option maxRecDepth 100000 in
set_option maxHeartbeats 2000000 in
theorem startH_spec (tag : Int) (h0 : 0 ≤ tag) (h1 : tag ≤ 255) (y0 y1 y2 y3 y4 y5 y6 y7 : Int) (hy : startW tag = [y0, y1, y2, y3, y4, y5, y6, y7]) (w : World) :
    Calls Try.prog 35 #[.int .u8 tag] w fun e w' => e = .returned (.agg #[.int .u32 y0, .int .u32 y1, .int .u32 y2, .int .u32 y3, .int .u32 y4, .int .u32 y5, .int .u32 y6, .int .u32 y7, .slice none 0 0, .int .i64 0]) ∧ Below w.heap.size w w' := by
  have Hc := Lib.hid (fun W => startH_spec_lit tag h0 h1 y0 y1 y2 y3 y4 y5 y6 y7 hy W)
  clear hy
  go_enter Try.func35, Try.ntmps35
  go_wp2_with fail
  refine (Hc.out _).mono ?_
  rintro e w1 ⟨rfl, hb⟩
  have L1 := Lib.hid (((Below.refl w.heap.size w).alloc (by simp) _).trans (hb.mono (by simp)))
  have G1 := Lib.hid (keep_block (heap_alloc_last w (.cells #[.int .u32 0, .int .u32 0, .int .u32 0, .int .u32 0, .int .u32 0, .int .u32 0, .int .u32 0, .int .u32 0, .slice none 0 0, .int .i64 0] 50)) hb)
  clear hb
  go_wp2_with (refine wpList_store_row rfl 50 _ _ rfl w.heap.size #[.int .u32 y0, .int .u32 y1, .int .u32 y2, .int .u32 y3, .int .u32 y4, .int .u32 y5, .int .u32 y6, .int .u32 y7, .slice none 0 0, .int .i64 0] rfl rfl 50 #[.int .u32 0, .int .u32 0, .int .u32 0, .int .u32 0, .int .u32 0, .int .u32 0, .int .u32 0, .int .u32 0, .slice none 0 0, .int .i64 0] G1.out sizeHi rfl (by simp [Value.oneCell']) ?_)
  refine bodyPost_ret (results_cell_row rfl _ _ w.heap.size 50 #[.int .u32 y0, .int .u32 y1, .int .u32 y2, .int .u32 y3, .int .u32 y4, .int .u32 y5, .int .u32 y6, .int .u32 y7, .slice none 0 0, .int .i64 0] (0, 0) _ rfl (setRow_heap _ _ _ _ _ _ G1.out) Try.underlying50 rfl sizeHi) rfl ⟨rfl, ?_⟩
  exact Below.setRow L1.out (by omega) _
theorem startH_impl_lit (tag : Int) (h0 : 0 ≤ tag) (h1 : tag ≤ 255) (y0 y1 y2 y3 y4 y5 y6 y7 : Int) (hy : startW tag = [y0, y1, y2, y3, y4, y5, y6, y7]) (w : World) :
    Calls Try.prog 23 #[.int .u8 tag] w fun e w' => e = .returned (.agg #[.int .u32 y0, .int .u32 y1, .int .u32 y2, .int .u32 y3, .int .u32 y4, .int .u32 y5, .int .u32 y6, .int .u32 y7]) ∧ Below w.heap.size w w' := by
  have h := start_impl tag h0 h1 w
  rw [hy] at h
  exact h
set_option maxRecDepth 100000 in
set_option maxHeartbeats 2000000 in
theorem startH_impl (tag : Int) (h0 : 0 ≤ tag) (h1 : tag ≤ 255) (y0 y1 y2 y3 y4 y5 y6 y7 : Int) (hy : startW tag = [y0, y1, y2, y3, y4, y5, y6, y7]) (w : World) :
    Calls Try.prog 36 #[.int .u8 tag] w fun e w' => e = .returned (.agg #[.int .u32 y0, .int .u32 y1, .int .u32 y2, .int .u32 y3, .int .u32 y4, .int .u32 y5, .int .u32 y6, .int .u32 y7, .slice none 0 0, .int .i64 0]) ∧ Below w.heap.size w w' := by
  have Hc := Lib.hid (fun W => startH_impl_lit tag h0 h1 y0 y1 y2 y3 y4 y5 y6 y7 hy W)
  clear hy
  go_enter Try.func36, Try.ntmps36
  go_wp2_with fail
  refine (Hc.out _).mono ?_
  rintro e w1 ⟨rfl, hb⟩
  have L1 := Lib.hid (((Below.refl w.heap.size w).alloc (by simp) _).trans (hb.mono (by simp)))
  have G1 := Lib.hid (keep_block (heap_alloc_last w (.cells #[.int .u32 0, .int .u32 0, .int .u32 0, .int .u32 0, .int .u32 0, .int .u32 0, .int .u32 0, .int .u32 0, .slice none 0 0, .int .i64 0] 50)) hb)
  clear hb
  go_wp2_with (refine wpList_store_row rfl 50 _ _ rfl w.heap.size #[.int .u32 y0, .int .u32 y1, .int .u32 y2, .int .u32 y3, .int .u32 y4, .int .u32 y5, .int .u32 y6, .int .u32 y7, .slice none 0 0, .int .i64 0] rfl rfl 50 #[.int .u32 0, .int .u32 0, .int .u32 0, .int .u32 0, .int .u32 0, .int .u32 0, .int .u32 0, .int .u32 0, .slice none 0 0, .int .i64 0] G1.out sizeHi rfl (by simp [Value.oneCell']) ?_)
  refine bodyPost_ret (results_cell_row rfl _ _ w.heap.size 50 #[.int .u32 y0, .int .u32 y1, .int .u32 y2, .int .u32 y3, .int .u32 y4, .int .u32 y5, .int .u32 y6, .int .u32 y7, .slice none 0 0, .int .i64 0] (0, 0) _ rfl (setRow_heap _ _ _ _ _ _ G1.out) Try.underlying50 rfl sizeHi) rfl ⟨rfl, ?_⟩
  exact Below.setRow L1.out (by omega) _
set_option maxRecDepth 100000 in
set_option maxHeartbeats 1000000 in
theorem markH0 (y0 y1 y2 y3 y4 y5 y6 y7 : Int) (a : Option Addr) (cap : Nat) (c k : Int) (h0 : 0 ≤ k) (h1 : k ≤ 1099511627776) (w : World) :
    Calls Try.prog 38 #[.agg #[.int .u32 y0, .int .u32 y1, .int .u32 y2, .int .u32 y3, .int .u32 y4, .int .u32 y5, .int .u32 y6, .int .u32 y7, .slice a 0 cap, .int .i64 c], .int .i64 k] w fun e w' => e = .returned (.int .i64 k) ∧ Below w.heap.size w w' := by
  go_enter Try.func38, Try.ntmps38
  go_wp2_with fail
  refine (markBS0 a cap k _).mono ?_
  rintro e w' ⟨rfl, rfl⟩
  go_wp2
  go_ret
  exact ⟨rfl, (Below.refl _ _).alloc (by simp) _⟩
set_option maxRecDepth 100000 in
set_option maxHeartbeats 1000000 in
theorem heldH (y0 y1 y2 y3 y4 y5 y6 y7 : Int) (a : Option Addr) (n cap : Nat) (c k : Int) (h0 : 0 ≤ k) (h1 : k ≤ 1099511627776) (hn : n ≤ 1048576) (w : World) (hr : Rd .u8 w a n (markL k n)) :
    Calls Try.prog 39 #[.agg #[.int .u32 y0, .int .u32 y1, .int .u32 y2, .int .u32 y3, .int .u32 y4, .int .u32 y5, .int .u32 y6, .int .u32 y7, .slice a n cap, .int .i64 c], .int .i64 k] w fun e w' => e = .returned (.int .i64 (k + n)) ∧ Below w.heap.size w w' := by
  have Hr := Lib.hid hr
  clear hr
  go_enter Try.func39, Try.ntmps39
  go_wp2_with fail
  refine (heldBS a n cap k h0 h1 (by omega) _ (Hr.out.below ((Below.refl _ _).alloc (by simp) _))).mono ?_
  rintro e w' ⟨rfl, rfl⟩
  go_wp2
  go_ret
  exact ⟨rfl, (Below.refl _ _).alloc (by simp) _⟩
end Go.Proofs.Ythfokngbjkljdaa
