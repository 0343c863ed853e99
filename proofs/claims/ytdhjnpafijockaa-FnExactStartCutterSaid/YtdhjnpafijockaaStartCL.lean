/- The statement on StartCutter: its walk. -/
import Derived.Test.YtdhjnpafijockaaCutter
namespace Go.Proofs.Ytdhjnpafijockaa
open Go.ChangeShapes Go.WideShapes Go.ChangeAt Go.RowKit
set_option linter.unusedVariables false
theorem cutC_lit (l m b : Int) : ∃ y0 y1 y2 : Int, cutC l m b = #[.int .i64 y0, .int .i64 y1, .int .i64 y2, .int .u32 0, .slice none 0 0] := by
  unfold cutC
  split
  · exact ⟨l, m, b, rfl⟩
  · exact ⟨0, 0, 0, rfl⟩
theorem alloc3 {w : World} {g : Nat} {o : Obj} (A B C : Obj) (h : w.heap[g]? = some o) : (((w.alloc A).alloc B).alloc C).heap[g]? = some o := by
  have := (Array.getElem?_eq_some_iff.1 h).1
  rw [Below.heap_alloc _ _ _ (by simp; omega), Below.heap_alloc _ _ _ (by simp; omega), Below.heap_alloc _ _ _ (by omega)]
  exact h
set_option maxRecDepth 100000 in
set_option maxHeartbeats 8000000 in
theorem startcl (l m b y0 y1 y2 c : Int) (hy : cutC l m b = #[.int .i64 y0, .int .i64 y1, .int .i64 y2, .int .u32 0, .slice none 0 0]) (hc : cutE l m b = c) (w : World) :
    Calls Try.prog 4 #[.agg #[.int .i64 l, .int .i64 m, .int .i64 b]] w fun e w' => e = .returned (.bool true) ∧ Below w.heap.size w w' := by
  have Hs := Lib.hid (fun W => startC_spec l m b W)
  have Hi := Lib.hid (fun W => startC_impl l m b W)
  rw [hy, hc] at Hs Hi
  have R0 := Lib.hid (fun W : World => (show Rd .u8 W none 0 [] from ⟨rfl, Or.inl rfl⟩))
  clear hy hc
  go_enter Try.func4, Try.ntmps4
  go_wp2_with fail
  refine (toR _ _ _ _).mono ?_
  rintro e v1 ⟨rfl, rfl⟩
  go_wp2_with fail
  refine (Hs.out _).mono ?_
  rintro e w1 ⟨rfl, hb⟩
  have L1 := Lib.hid (((show Below w.heap.size w ((((w.alloc (.cells #[.int .i64 l, .int .i64 m, .int .i64 b] 23)).alloc (.cells #[.int .i64 l, .int .i64 m, .int .i64 b] 23)).alloc (.cells #[.int .i64 l, .int .i64 m, .int .i64 b] 25)).alloc (.cells #[.int .i64 l, .int .i64 m, .int .i64 b] 25)) by go_grown).trans (hb.mono (by simp; omega))).alloc (by have := hb.size; simp at this; omega) (.cells #[.int .i64 y0, .int .i64 y1, .int .i64 y2, .int .u32 0, .slice none 0 0] 31))
  have A0 := keep_block (show ((((w.alloc (.cells #[.int .i64 l, .int .i64 m, .int .i64 b] 23)).alloc (.cells #[.int .i64 l, .int .i64 m, .int .i64 b] 23)).alloc (.cells #[.int .i64 l, .int .i64 m, .int .i64 b] 25)).alloc (.cells #[.int .i64 l, .int .i64 m, .int .i64 b] 25)).heap[w.heap.size]? = some (.cells #[.int .i64 l, .int .i64 m, .int .i64 b] 23) by rw [Below.heap_alloc _ _ _ (by simp; omega)]; exact heap3_0 _ _ _ _) hb
  have A1 := Lib.hid ((Below.heap_alloc w1 (.cells #[.int .i64 y0, .int .i64 y1, .int .i64 y2, .int .u32 0, .slice none 0 0] 31) _ (Array.getElem?_eq_some_iff.1 A0).1).trans A0)
  have S1 := Lib.hid (heap_alloc_last w1 (.cells #[.int .i64 y0, .int .i64 y1, .int .i64 y2, .int .u32 0, .slice none 0 0] 31))
  clear hb A0
  have ca0 := cell_of_row (w1.alloc (.cells #[.int .i64 y0, .int .i64 y1, .int .i64 y2, .int .u32 0, .slice none 0 0] 31)) (w.heap.size) 0 _ _ _ A1.out
  have ca1 := cell_of_row (w1.alloc (.cells #[.int .i64 y0, .int .i64 y1, .int .i64 y2, .int .u32 0, .slice none 0 0] 31)) (w.heap.size) 1 _ _ _ A1.out
  have ca2 := cell_of_row (w1.alloc (.cells #[.int .i64 y0, .int .i64 y1, .int .i64 y2, .int .u32 0, .slice none 0 0] 31)) (w.heap.size) 2 _ _ _ A1.out
  simp only [List.getElem?_toArray, List.getElem?_cons_succ, List.getElem?_cons_zero] at ca0 ca1 ca2
  go_wp2_with fail
  refine (toR _ _ _ _).mono ?_
  rintro e v2 ⟨rfl, rfl⟩
  clear ca0 ca1 ca2
  go_wp2_with fail
  refine (Hi.out _).mono ?_
  rintro e w2 ⟨rfl, hb⟩
  have M2 := Lib.hid (((L1.out.alloc L1.out.size (.cells #[.int .i64 l, .int .i64 m, .int .i64 b] 23)).alloc (by have := L1.out.size; simp at this ⊢; omega) (.cells #[.int .i64 l, .int .i64 m, .int .i64 b] 25)).alloc (by have := L1.out.size; simp at this ⊢; omega) (.cells #[.int .i64 l, .int .i64 m, .int .i64 b] 25))
  have L2 := Lib.hid ((below_call M2.out M2.out.size hb).alloc (Nat.le_trans M2.out.size hb.size) (.cells #[.int .i64 y0, .int .i64 y1, .int .i64 y2, .int .u32 0, .slice none 0 0] 31))
  have A2 := Lib.hid ((Below.heap_alloc w2 (.cells #[.int .i64 y0, .int .i64 y1, .int .i64 y2, .int .u32 0, .slice none 0 0] 31) _ (Array.getElem?_eq_some_iff.1 (keep_block (alloc3 (.cells #[.int .i64 l, .int .i64 m, .int .i64 b] 23) (.cells #[.int .i64 l, .int .i64 m, .int .i64 b] 25) (.cells #[.int .i64 l, .int .i64 m, .int .i64 b] 25) A1.out) hb)).1).trans (keep_block (alloc3 (.cells #[.int .i64 l, .int .i64 m, .int .i64 b] 23) (.cells #[.int .i64 l, .int .i64 m, .int .i64 b] 25) (.cells #[.int .i64 l, .int .i64 m, .int .i64 b] 25) A1.out) hb))
  have S2 := Lib.hid ((Below.heap_alloc w2 (.cells #[.int .i64 y0, .int .i64 y1, .int .i64 y2, .int .u32 0, .slice none 0 0] 31) _ (Array.getElem?_eq_some_iff.1 (keep_block (alloc3 (.cells #[.int .i64 l, .int .i64 m, .int .i64 b] 23) (.cells #[.int .i64 l, .int .i64 m, .int .i64 b] 25) (.cells #[.int .i64 l, .int .i64 m, .int .i64 b] 25) S1.out) hb)).1).trans (keep_block (alloc3 (.cells #[.int .i64 l, .int .i64 m, .int .i64 b] 23) (.cells #[.int .i64 l, .int .i64 m, .int .i64 b] 25) (.cells #[.int .i64 l, .int .i64 m, .int .i64 b] 25) S1.out) hb))
  have G2 := Lib.hid (heap_alloc_last w2 (.cells #[.int .i64 y0, .int .i64 y1, .int .i64 y2, .int .u32 0, .slice none 0 0] 31))
  clear hb
  have cs0 := cell_of_row (w2.alloc (.cells #[.int .i64 y0, .int .i64 y1, .int .i64 y2, .int .u32 0, .slice none 0 0] 31)) (w1.heap.size) 0 _ _ _ S2.out
  have cs1 := cell_of_row (w2.alloc (.cells #[.int .i64 y0, .int .i64 y1, .int .i64 y2, .int .u32 0, .slice none 0 0] 31)) (w1.heap.size) 1 _ _ _ S2.out
  have cs2 := cell_of_row (w2.alloc (.cells #[.int .i64 y0, .int .i64 y1, .int .i64 y2, .int .u32 0, .slice none 0 0] 31)) (w1.heap.size) 2 _ _ _ S2.out
  have cs3 := cell_of_row (w2.alloc (.cells #[.int .i64 y0, .int .i64 y1, .int .i64 y2, .int .u32 0, .slice none 0 0] 31)) (w1.heap.size) 3 _ _ _ S2.out
  have cs4 := cell_of_row (w2.alloc (.cells #[.int .i64 y0, .int .i64 y1, .int .i64 y2, .int .u32 0, .slice none 0 0] 31)) (w1.heap.size) 4 _ _ _ S2.out
  have cg0 := cell_of_row (w2.alloc (.cells #[.int .i64 y0, .int .i64 y1, .int .i64 y2, .int .u32 0, .slice none 0 0] 31)) (w2.heap.size) 0 _ _ _ G2.out
  have cg1 := cell_of_row (w2.alloc (.cells #[.int .i64 y0, .int .i64 y1, .int .i64 y2, .int .u32 0, .slice none 0 0] 31)) (w2.heap.size) 1 _ _ _ G2.out
  have cg2 := cell_of_row (w2.alloc (.cells #[.int .i64 y0, .int .i64 y1, .int .i64 y2, .int .u32 0, .slice none 0 0] 31)) (w2.heap.size) 2 _ _ _ G2.out
  have cg3 := cell_of_row (w2.alloc (.cells #[.int .i64 y0, .int .i64 y1, .int .i64 y2, .int .u32 0, .slice none 0 0] 31)) (w2.heap.size) 3 _ _ _ G2.out
  have cg4 := cell_of_row (w2.alloc (.cells #[.int .i64 y0, .int .i64 y1, .int .i64 y2, .int .u32 0, .slice none 0 0] 31)) (w2.heap.size) 4 _ _ _ G2.out
  simp only [List.getElem?_toArray, List.getElem?_cons_succ, List.getElem?_cons_zero] at cs0 cs1 cs2 cs3 cs4 cg0 cg1 cg2 cg3 cg4
  go_wp2_with fail
  refine (eqC _ _ _ _ none none 0 0 0 [] (by omega) _ (R0.out _) (R0.out _)).mono ?_
  rintro e w3 ⟨rfl, hb⟩
  clear cs0 cs1 cs2 cs3 cs4 cg0 cg1 cg2 cg3 cg4
  have L3 := Lib.hid (below_call L2.out L2.out.size hb)
  have A3 := Lib.hid (keep_block A2.out hb)
  have S3 := Lib.hid (keep_block S2.out hb)
  have G3 := Lib.hid (keep_block G2.out hb)
  clear hb
  have cg0 := cell_of_row w3 (w2.heap.size) 0 _ _ _ G3.out
  have cg1 := cell_of_row w3 (w2.heap.size) 1 _ _ _ G3.out
  have cg2 := cell_of_row w3 (w2.heap.size) 2 _ _ _ G3.out
  have cg3 := cell_of_row w3 (w2.heap.size) 3 _ _ _ G3.out
  have cg4 := cell_of_row w3 (w2.heap.size) 4 _ _ _ G3.out
  simp only [List.getElem?_toArray, List.getElem?_cons_succ, List.getElem?_cons_zero] at cg0 cg1 cg2 cg3 cg4
  go_wp2_with fail
  refine (markC0 _ _ _ _ none 0 1 (by omega) (by omega) _).mono ?_
  rintro e w4 ⟨rfl, hb⟩
  clear cg0 cg1 cg2 cg3 cg4
  have L4 := Lib.hid (below_call L3.out L3.out.size hb)
  have A4 := Lib.hid (keep_block A3.out hb)
  have S4 := Lib.hid (keep_block S3.out hb)
  have G4 := Lib.hid (keep_block G3.out hb)
  clear hb
  have cg0 := cell_of_row w4 (w2.heap.size) 0 _ _ _ G4.out
  have cg1 := cell_of_row w4 (w2.heap.size) 1 _ _ _ G4.out
  have cg2 := cell_of_row w4 (w2.heap.size) 2 _ _ _ G4.out
  have cg3 := cell_of_row w4 (w2.heap.size) 3 _ _ _ G4.out
  have cg4 := cell_of_row w4 (w2.heap.size) 4 _ _ _ G4.out
  simp only [List.getElem?_toArray, List.getElem?_cons_succ, List.getElem?_cons_zero] at cg0 cg1 cg2 cg3 cg4
  go_wp2_with fail
  refine (heldC _ _ _ _ none 0 0 1 (by omega) (by omega) (by omega) _ (R0.out _)).mono ?_
  rintro e w5 ⟨rfl, hb⟩
  clear cg0 cg1 cg2 cg3 cg4
  have L5 := Lib.hid (below_call L4.out L4.out.size hb)
  have A5 := Lib.hid (keep_block A4.out hb)
  have S5 := Lib.hid (keep_block S4.out hb)
  have G5 := Lib.hid (keep_block G4.out hb)
  clear hb
  have ca0 := cell_of_row w5 (w.heap.size) 0 _ _ _ A5.out
  have ca1 := cell_of_row w5 (w.heap.size) 1 _ _ _ A5.out
  have ca2 := cell_of_row w5 (w.heap.size) 2 _ _ _ A5.out
  simp only [List.getElem?_toArray, List.getElem?_cons_succ, List.getElem?_cons_zero] at ca0 ca1 ca2
  go_wp2_with fail
  refine (toR _ _ _ _).mono ?_
  rintro e v6 ⟨rfl, rfl⟩
  clear ca0 ca1 ca2
  go_wp2_with fail
  refine (Hi.out _).mono ?_
  rintro e w6 ⟨rfl, hb⟩
  have M6 := Lib.hid (((L5.out.alloc L5.out.size (.cells #[.int .i64 l, .int .i64 m, .int .i64 b] 23)).alloc (by have := L5.out.size; simp at this ⊢; omega) (.cells #[.int .i64 l, .int .i64 m, .int .i64 b] 25)).alloc (by have := L5.out.size; simp at this ⊢; omega) (.cells #[.int .i64 l, .int .i64 m, .int .i64 b] 25))
  have L6 := Lib.hid ((below_call M6.out M6.out.size hb).alloc (Nat.le_trans M6.out.size hb.size) (.cells #[.int .i64 y0, .int .i64 y1, .int .i64 y2, .int .u32 0, .slice none 0 0] 31))
  have S6 := Lib.hid ((Below.heap_alloc w6 (.cells #[.int .i64 y0, .int .i64 y1, .int .i64 y2, .int .u32 0, .slice none 0 0] 31) _ (Array.getElem?_eq_some_iff.1 (keep_block (alloc3 (.cells #[.int .i64 l, .int .i64 m, .int .i64 b] 23) (.cells #[.int .i64 l, .int .i64 m, .int .i64 b] 25) (.cells #[.int .i64 l, .int .i64 m, .int .i64 b] 25) S5.out) hb)).1).trans (keep_block (alloc3 (.cells #[.int .i64 l, .int .i64 m, .int .i64 b] 23) (.cells #[.int .i64 l, .int .i64 m, .int .i64 b] 25) (.cells #[.int .i64 l, .int .i64 m, .int .i64 b] 25) S5.out) hb))
  have G6 := Lib.hid ((Below.heap_alloc w6 (.cells #[.int .i64 y0, .int .i64 y1, .int .i64 y2, .int .u32 0, .slice none 0 0] 31) _ (Array.getElem?_eq_some_iff.1 (keep_block (alloc3 (.cells #[.int .i64 l, .int .i64 m, .int .i64 b] 23) (.cells #[.int .i64 l, .int .i64 m, .int .i64 b] 25) (.cells #[.int .i64 l, .int .i64 m, .int .i64 b] 25) G5.out) hb)).1).trans (keep_block (alloc3 (.cells #[.int .i64 l, .int .i64 m, .int .i64 b] 23) (.cells #[.int .i64 l, .int .i64 m, .int .i64 b] 25) (.cells #[.int .i64 l, .int .i64 m, .int .i64 b] 25) G5.out) hb))
  have H6 := Lib.hid (heap_alloc_last w6 (.cells #[.int .i64 y0, .int .i64 y1, .int .i64 y2, .int .u32 0, .slice none 0 0] 31))
  clear hb
  have cs0 := cell_of_row (w6.alloc (.cells #[.int .i64 y0, .int .i64 y1, .int .i64 y2, .int .u32 0, .slice none 0 0] 31)) (w1.heap.size) 0 _ _ _ S6.out
  have cs1 := cell_of_row (w6.alloc (.cells #[.int .i64 y0, .int .i64 y1, .int .i64 y2, .int .u32 0, .slice none 0 0] 31)) (w1.heap.size) 1 _ _ _ S6.out
  have cs2 := cell_of_row (w6.alloc (.cells #[.int .i64 y0, .int .i64 y1, .int .i64 y2, .int .u32 0, .slice none 0 0] 31)) (w1.heap.size) 2 _ _ _ S6.out
  have cs3 := cell_of_row (w6.alloc (.cells #[.int .i64 y0, .int .i64 y1, .int .i64 y2, .int .u32 0, .slice none 0 0] 31)) (w1.heap.size) 3 _ _ _ S6.out
  have cs4 := cell_of_row (w6.alloc (.cells #[.int .i64 y0, .int .i64 y1, .int .i64 y2, .int .u32 0, .slice none 0 0] 31)) (w1.heap.size) 4 _ _ _ S6.out
  have ch0 := cell_of_row (w6.alloc (.cells #[.int .i64 y0, .int .i64 y1, .int .i64 y2, .int .u32 0, .slice none 0 0] 31)) (w6.heap.size) 0 _ _ _ H6.out
  have ch1 := cell_of_row (w6.alloc (.cells #[.int .i64 y0, .int .i64 y1, .int .i64 y2, .int .u32 0, .slice none 0 0] 31)) (w6.heap.size) 1 _ _ _ H6.out
  have ch2 := cell_of_row (w6.alloc (.cells #[.int .i64 y0, .int .i64 y1, .int .i64 y2, .int .u32 0, .slice none 0 0] 31)) (w6.heap.size) 2 _ _ _ H6.out
  have ch3 := cell_of_row (w6.alloc (.cells #[.int .i64 y0, .int .i64 y1, .int .i64 y2, .int .u32 0, .slice none 0 0] 31)) (w6.heap.size) 3 _ _ _ H6.out
  have ch4 := cell_of_row (w6.alloc (.cells #[.int .i64 y0, .int .i64 y1, .int .i64 y2, .int .u32 0, .slice none 0 0] 31)) (w6.heap.size) 4 _ _ _ H6.out
  simp only [List.getElem?_toArray, List.getElem?_cons_succ, List.getElem?_cons_zero] at cs0 cs1 cs2 cs3 cs4 ch0 ch1 ch2 ch3 ch4
  go_wp2_with fail
  refine (eqC _ _ _ _ none none 0 0 0 [] (by omega) _ (R0.out _) (R0.out _)).mono ?_
  rintro e w7 ⟨rfl, hb⟩
  clear cs0 cs1 cs2 cs3 cs4 ch0 ch1 ch2 ch3 ch4
  have L7 := Lib.hid (below_call L6.out L6.out.size hb)
  have G7 := Lib.hid (keep_block G6.out hb)
  clear hb
  have cg0 := cell_of_row w7 (w2.heap.size) 0 _ _ _ G7.out
  have cg1 := cell_of_row w7 (w2.heap.size) 1 _ _ _ G7.out
  have cg2 := cell_of_row w7 (w2.heap.size) 2 _ _ _ G7.out
  have cg3 := cell_of_row w7 (w2.heap.size) 3 _ _ _ G7.out
  have cg4 := cell_of_row w7 (w2.heap.size) 4 _ _ _ G7.out
  simp only [List.getElem?_toArray, List.getElem?_cons_succ, List.getElem?_cons_zero] at cg0 cg1 cg2 cg3 cg4
  go_wp2_with fail
  refine (heldC _ _ _ _ none 0 0 1 (by omega) (by omega) (by omega) _ (R0.out _)).mono ?_
  rintro e w8 ⟨rfl, hb⟩
  clear cg0 cg1 cg2 cg3 cg4
  have L8 := Lib.hid (below_call L7.out L7.out.size hb)
  clear hb
  go_wp2
  go_ret
  exact ⟨rfl, L8.out⟩
theorem FnExactStartCutter_walk (l m b : Int) (w : World) (f : (Lit.int .i64 l).wf = true) (g : (Lit.int .i64 m).wf = true) (h : (Lit.int .i64 b).wf = true) :
    Calls Try.prog 4 #[.agg #[.int .i64 l, .int .i64 m, .int .i64 b]] w fun e w' => e = .returned (.bool true) ∧ Below w.heap.size w w' := by
  obtain ⟨y0, y1, y2, hy⟩ := cutC_lit l m b
  exact startcl l m b y0 y1 y2 _ hy rfl w
end Go.Proofs.Ytdhjnpafijockaa
