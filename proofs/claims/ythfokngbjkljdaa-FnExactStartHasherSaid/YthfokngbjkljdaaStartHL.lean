/- The statement on StartHasher: its walk, the whole of it. -/
import Derived.Test.YthfokngbjkljdaaStartH
import Derived.Test.YthfokngbjkljdaaOpenH
namespace Go.Proofs.Ythfokngbjkljdaa
open Go.ChangeShapes Go.WideShapes Go.ChangeAt Go.RowKit
set_option linter.unusedVariables false
set_option maxRecDepth 100000 in
set_option maxHeartbeats 4000000 in
theorem starth_law (tag : Int) (h0 : 0 ≤ tag) (h1 : tag ≤ 255) (y0 y1 y2 y3 y4 y5 y6 y7 : Int) (hy : startW tag = [y0, y1, y2, y3, y4, y5, y6, y7]) (w : World) :
    Calls Try.prog 8 #[.int .u8 tag] w fun e w' => e = .returned (.bool true) ∧ Below w.heap.size w w' := by
  have Hc := Lib.hid (fun W => startH_spec tag h0 h1 y0 y1 y2 y3 y4 y5 y6 y7 hy W)
  have Hi := Lib.hid (fun W => startH_impl tag h0 h1 y0 y1 y2 y3 y4 y5 y6 y7 hy W)
  have R0 := Lib.hid (fun W : World => (show Rd .u8 W none 0 [] from ⟨rfl, Or.inl rfl⟩))
  clear hy
  go_enter Try.func8, Try.ntmps8
  go_wp2_with fail
  refine (Hc.out _).mono ?_
  rintro e w1 ⟨rfl, hb⟩
  have L1 := Lib.hid (hb.alloc hb.size (.cells #[.int .u32 y0, .int .u32 y1, .int .u32 y2, .int .u32 y3, .int .u32 y4, .int .u32 y5, .int .u32 y6, .int .u32 y7, .slice none 0 0, .int .i64 0] 50))
  have S3_1 := Lib.hid (heap_alloc_last w1 (.cells #[.int .u32 y0, .int .u32 y1, .int .u32 y2, .int .u32 y3, .int .u32 y4, .int .u32 y5, .int .u32 y6, .int .u32 y7, .slice none 0 0, .int .i64 0] 50))
  clear hb
  go_wp2_with (refine wpList_store_row rfl 50 _ _ rfl w1.heap.size #[.int .u32 y0, .int .u32 y1, .int .u32 y2, .int .u32 y3, .int .u32 y4, .int .u32 y5, .int .u32 y6, .int .u32 y7, .slice none 0 0, .int .i64 0] rfl rfl 50 #[.int .u32 0, .int .u32 0, .int .u32 0, .int .u32 0, .int .u32 0, .int .u32 0, .int .u32 0, .int .u32 0, .slice none 0 0, .int .i64 0] (heap_alloc_last _ _) sizeHi rfl (by simp [Value.oneCell']) ?_; rw [World.setRow_alloc_new])
  refine (Hi.out _).mono ?_
  rintro e w2 ⟨rfl, hb⟩
  have L2 := Lib.hid ((below_call L1.out L1.out.size hb).alloc (Nat.le_trans L1.out.size hb.size) (.cells #[.int .u32 y0, .int .u32 y1, .int .u32 y2, .int .u32 y3, .int .u32 y4, .int .u32 y5, .int .u32 y6, .int .u32 y7, .slice none 0 0, .int .i64 0] 50))
  have S3_2 := Lib.hid ((Below.heap_alloc w2 (.cells #[.int .u32 y0, .int .u32 y1, .int .u32 y2, .int .u32 y3, .int .u32 y4, .int .u32 y5, .int .u32 y6, .int .u32 y7, .slice none 0 0, .int .i64 0] 50) _ (Array.getElem?_eq_some_iff.1 (keep_block S3_1.out hb)).1).trans (keep_block S3_1.out hb))
  have S4_2 := Lib.hid (heap_alloc_last w2 (.cells #[.int .u32 y0, .int .u32 y1, .int .u32 y2, .int .u32 y3, .int .u32 y4, .int .u32 y5, .int .u32 y6, .int .u32 y7, .slice none 0 0, .int .i64 0] 50))
  clear hb
  go_wp2_with (first | (refine wpList_store_row rfl 50 _ _ rfl w2.heap.size #[.int .u32 y0, .int .u32 y1, .int .u32 y2, .int .u32 y3, .int .u32 y4, .int .u32 y5, .int .u32 y6, .int .u32 y7, .slice none 0 0, .int .i64 0] rfl rfl 50 #[.int .u32 0, .int .u32 0, .int .u32 0, .int .u32 0, .int .u32 0, .int .u32 0, .int .u32 0, .int .u32 0, .slice none 0 0, .int .i64 0] (heap_alloc_last _ _) sizeHi rfl (by simp [Value.oneCell']) ?_; rw [World.setRow_alloc_new]) | (refine wpList_load_row rfl 50 (.tmp 4) rfl w2.heap.size rfl 50 #[.int .u32 y0, .int .u32 y1, .int .u32 y2, .int .u32 y3, .int .u32 y4, .int .u32 y5, .int .u32 y6, .int .u32 y7, .slice none 0 0, .int .i64 0] (0, 0) _ (heap_alloc_last _ _) Try.underlying50 rfl sizeHi ?_) | (refine wpList_load_row rfl 50 (.tmp 3) rfl w1.heap.size rfl 50 #[.int .u32 y0, .int .u32 y1, .int .u32 y2, .int .u32 y3, .int .u32 y4, .int .u32 y5, .int .u32 y6, .int .u32 y7, .slice none 0 0, .int .i64 0] (0, 0) _ S3_2.out Try.underlying50 rfl sizeHi ?_))
  refine (eqH _ _ _ _ _ _ _ _ none none 0 0 0 [] 0 (by omega) _ (R0.out _) (R0.out _)).mono ?_
  rintro e w3 ⟨rfl, hb⟩
  have L3 := Lib.hid (below_call L2.out L2.out.size hb)
  have S3_3 := Lib.hid (keep_block S3_2.out hb)
  have S4_3 := Lib.hid (keep_block S4_2.out hb)
  clear hb
  go_wp2_with (refine wpList_load_row rfl 50 (.tmp 4) rfl w2.heap.size rfl 50 #[.int .u32 y0, .int .u32 y1, .int .u32 y2, .int .u32 y3, .int .u32 y4, .int .u32 y5, .int .u32 y6, .int .u32 y7, .slice none 0 0, .int .i64 0] (0, 0) _ S4_3.out Try.underlying50 rfl sizeHi ?_)
  refine (markH0 _ _ _ _ _ _ _ _ none 0 0 1 (by omega) (by omega) _).mono ?_
  rintro e w4 ⟨rfl, hb⟩
  have L4 := Lib.hid (below_call L3.out L3.out.size hb)
  have S3_4 := Lib.hid (keep_block S3_3.out hb)
  have S4_4 := Lib.hid (keep_block S4_3.out hb)
  clear hb
  go_wp2_with (refine wpList_load_row rfl 50 (.tmp 4) rfl w2.heap.size rfl 50 #[.int .u32 y0, .int .u32 y1, .int .u32 y2, .int .u32 y3, .int .u32 y4, .int .u32 y5, .int .u32 y6, .int .u32 y7, .slice none 0 0, .int .i64 0] (0, 0) _ S4_4.out Try.underlying50 rfl sizeHi ?_)
  refine (heldH _ _ _ _ _ _ _ _ none 0 0 0 1 (by omega) (by omega) (by omega) _ (R0.out _)).mono ?_
  rintro e w5 ⟨rfl, hb⟩
  have L5 := Lib.hid (below_call L4.out L4.out.size hb)
  have S3_5 := Lib.hid (keep_block S3_4.out hb)
  have S4_5 := Lib.hid (keep_block S4_4.out hb)
  clear hb
  go_wp2_with fail
  refine (Hi.out _).mono ?_
  rintro e w6 ⟨rfl, hb⟩
  have L6 := Lib.hid ((below_call L5.out L5.out.size hb).alloc (Nat.le_trans L5.out.size hb.size) (.cells #[.int .u32 y0, .int .u32 y1, .int .u32 y2, .int .u32 y3, .int .u32 y4, .int .u32 y5, .int .u32 y6, .int .u32 y7, .slice none 0 0, .int .i64 0] 50))
  have S3_6 := Lib.hid ((Below.heap_alloc w6 (.cells #[.int .u32 y0, .int .u32 y1, .int .u32 y2, .int .u32 y3, .int .u32 y4, .int .u32 y5, .int .u32 y6, .int .u32 y7, .slice none 0 0, .int .i64 0] 50) _ (Array.getElem?_eq_some_iff.1 (keep_block S3_5.out hb)).1).trans (keep_block S3_5.out hb))
  have S4_6 := Lib.hid ((Below.heap_alloc w6 (.cells #[.int .u32 y0, .int .u32 y1, .int .u32 y2, .int .u32 y3, .int .u32 y4, .int .u32 y5, .int .u32 y6, .int .u32 y7, .slice none 0 0, .int .i64 0] 50) _ (Array.getElem?_eq_some_iff.1 (keep_block S4_5.out hb)).1).trans (keep_block S4_5.out hb))
  clear hb
  go_wp2_with (first | (refine wpList_store_row rfl 50 _ _ rfl w6.heap.size #[.int .u32 y0, .int .u32 y1, .int .u32 y2, .int .u32 y3, .int .u32 y4, .int .u32 y5, .int .u32 y6, .int .u32 y7, .slice none 0 0, .int .i64 0] rfl rfl 50 #[.int .u32 0, .int .u32 0, .int .u32 0, .int .u32 0, .int .u32 0, .int .u32 0, .int .u32 0, .int .u32 0, .slice none 0 0, .int .i64 0] (heap_alloc_last _ _) sizeHi rfl (by simp [Value.oneCell']) ?_; rw [World.setRow_alloc_new]) | (refine wpList_load_row rfl 50 (.tmp 7) rfl w6.heap.size rfl 50 #[.int .u32 y0, .int .u32 y1, .int .u32 y2, .int .u32 y3, .int .u32 y4, .int .u32 y5, .int .u32 y6, .int .u32 y7, .slice none 0 0, .int .i64 0] (0, 0) _ (heap_alloc_last _ _) Try.underlying50 rfl sizeHi ?_) | (refine wpList_load_row rfl 50 (.tmp 3) rfl w1.heap.size rfl 50 #[.int .u32 y0, .int .u32 y1, .int .u32 y2, .int .u32 y3, .int .u32 y4, .int .u32 y5, .int .u32 y6, .int .u32 y7, .slice none 0 0, .int .i64 0] (0, 0) _ S3_6.out Try.underlying50 rfl sizeHi ?_))
  refine (eqH _ _ _ _ _ _ _ _ none none 0 0 0 [] 0 (by omega) _ (R0.out _) (R0.out _)).mono ?_
  rintro e w7 ⟨rfl, hb⟩
  have L7 := Lib.hid (below_call L6.out L6.out.size hb)
  have S3_7 := Lib.hid (keep_block S3_6.out hb)
  have S4_7 := Lib.hid (keep_block S4_6.out hb)
  clear hb
  go_wp2_with (refine wpList_load_row rfl 50 (.tmp 4) rfl w2.heap.size rfl 50 #[.int .u32 y0, .int .u32 y1, .int .u32 y2, .int .u32 y3, .int .u32 y4, .int .u32 y5, .int .u32 y6, .int .u32 y7, .slice none 0 0, .int .i64 0] (0, 0) _ S4_7.out Try.underlying50 rfl sizeHi ?_)
  refine (heldH _ _ _ _ _ _ _ _ none 0 0 0 1 (by omega) (by omega) (by omega) _ (R0.out _)).mono ?_
  rintro e w8 ⟨rfl, hb⟩
  have L8 := Lib.hid (below_call L7.out L7.out.size hb)
  clear hb
  go_wp2
  go_ret
  exact ⟨rfl, L8.out⟩
theorem starth_law0 (a : Int) (w : World) (f : (Lit.int .u8 a).wf = true) :
    Calls Try.prog 8 #[.int .u8 a] w fun e w' => e = .returned (.bool true) ∧ Below w.heap.size w w' := by
  have hr := bounds_u8 f
  obtain ⟨y0, y1, y2, y3, y4, y5, y6, y7, hy⟩ := list8 (startW_len a)
  exact starth_law a (by omega) (by omega) y0 y1 y2 y3 y4 y5 y6 y7 hy w
end Go.Proofs.Ythfokngbjkljdaa
