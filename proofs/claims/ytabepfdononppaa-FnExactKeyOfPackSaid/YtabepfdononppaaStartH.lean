/- The statement on StartHasher: its walk. -/
import Derived.Test.YtabepfdononppaaStart
import Derived.Test.YtabepfdononppaaValid
namespace Go.Proofs.Ytabepfdononppaa
open Go.ChangeShapes Go.WideShapes Go.ChangeAt Go.RowKit
set_option linter.unusedVariables false
theorem startH_spec_lit (tag : Int) (h0 : 0 ≤ tag) (h1 : tag ≤ 255) (y0 y1 y2 y3 y4 y5 y6 y7 : Int) (hy : startW tag = [y0, y1, y2, y3, y4, y5, y6, y7]) (w : World) :
    Calls Try.prog 107 #[.int .u8 tag] w fun e w' => e = .returned (.agg #[.int .u32 y0, .int .u32 y1, .int .u32 y2, .int .u32 y3, .int .u32 y4, .int .u32 y5, .int .u32 y6, .int .u32 y7]) ∧ Below w.heap.size w w' := by
  have h := start_spec0 tag h0 h1 w
  rw [hy] at h
  exact h
theorem startH_impl_lit (tag : Int) (h0 : 0 ≤ tag) (h1 : tag ≤ 255) (y0 y1 y2 y3 y4 y5 y6 y7 : Int) (hy : startW tag = [y0, y1, y2, y3, y4, y5, y6, y7]) (w : World) :
    Calls Try.prog 105 #[.int .u8 tag] w fun e w' => e = .returned (.agg #[.int .u32 y0, .int .u32 y1, .int .u32 y2, .int .u32 y3, .int .u32 y4, .int .u32 y5, .int .u32 y6, .int .u32 y7]) ∧ Below w.heap.size w w' := by
  have h := start_impl tag h0 h1 w
  rw [hy] at h
  exact h
set_option maxRecDepth 100000 in
set_option maxHeartbeats 2000000 in
theorem startH_impl (tag : Int) (h0 : 0 ≤ tag) (h1 : tag ≤ 255) (y0 y1 y2 y3 y4 y5 y6 y7 : Int) (hy : startW tag = [y0, y1, y2, y3, y4, y5, y6, y7]) (w : World) :
    Calls Try.prog 108 #[.int .u8 tag] w fun e w' => e = .returned (.agg #[.int .u32 y0, .int .u32 y1, .int .u32 y2, .int .u32 y3, .int .u32 y4, .int .u32 y5, .int .u32 y6, .int .u32 y7, .slice none 0 0, .int .i64 0]) ∧ Below w.heap.size w w' := by
  have Hc := Lib.hid (fun W => startH_impl_lit tag h0 h1 y0 y1 y2 y3 y4 y5 y6 y7 hy W)
  clear hy
  go_enter Try.func108, Try.ntmps108
  go_wp2_with fail
  refine (Hc.out _).mono ?_
  rintro e w1 ⟨rfl, hb⟩
  have L1 := Lib.hid (((Below.refl w.heap.size w).alloc (by simp) _).trans (hb.mono (by simp)))
  have G1 := Lib.hid (keep_block (heap_alloc_last w (.cells #[.int .u32 0, .int .u32 0, .int .u32 0, .int .u32 0, .int .u32 0, .int .u32 0, .int .u32 0, .int .u32 0, .slice none 0 0, .int .i64 0] 134)) hb)
  clear hb
  go_wp2_with (refine wpList_store_row rfl 134 _ _ rfl w.heap.size #[.int .u32 y0, .int .u32 y1, .int .u32 y2, .int .u32 y3, .int .u32 y4, .int .u32 y5, .int .u32 y6, .int .u32 y7, .slice none 0 0, .int .i64 0] rfl rfl 134 #[.int .u32 0, .int .u32 0, .int .u32 0, .int .u32 0, .int .u32 0, .int .u32 0, .int .u32 0, .int .u32 0, .slice none 0 0, .int .i64 0] G1.out sizeHi rfl (by simp [Value.oneCell']) ?_)
  refine bodyPost_ret (results_cell_row rfl _ _ w.heap.size 134 #[.int .u32 y0, .int .u32 y1, .int .u32 y2, .int .u32 y3, .int .u32 y4, .int .u32 y5, .int .u32 y6, .int .u32 y7, .slice none 0 0, .int .i64 0] (0, 0) _ rfl (setRow_heap _ _ _ _ _ _ G1.out) Try.underlying134 rfl sizeHi) rfl ⟨rfl, ?_⟩
  exact Below.setRow L1.out (by omega) _
end Go.Proofs.Ytabepfdononppaa
