/- The statement on ValidRule: its walk. -/
import Derived.Test.YtdhjnpafijockaaRule
namespace Go.Proofs.Ytdhjnpafijockaa
open Go.ChangeShapes Go.WideShapes Go.ChangeAt Go.RowKit
set_option linter.unusedVariables false
set_option maxRecDepth 100000 in
set_option maxHeartbeats 2000000 in
theorem validR_spec (l m b : Int) (w : World) : Calls Try.prog 13 #[.agg #[.int .i64 l, .int .i64 m, .int .i64 b]] w fun e w' => e = .returned (.bool (vR l m b)) ∧ Below w.heap.size w w' := by
  go_enter Try.func13, Try.ntmps13
  go_wp2_with fail
  refine (okR_spec _ l m b _ (cell_of_row _ _ 0 _ _ _ (heap_alloc_last _ _)) (cell_of_row _ _ 1 _ _ _ (heap_alloc_last _ _)) (cell_of_row _ _ 2 _ _ _ (heap_alloc_last _ _))).mono ?_
  rintro e w1 ⟨rfl, n1, rfl⟩
  go_wp2
  go_ret
  exact ⟨rfl, below_drewN ((Below.refl _ _).alloc (by simp) _) _⟩
set_option maxRecDepth 100000 in
set_option maxHeartbeats 4000000 in
theorem FnExactValidRule_walk (l m b : Int) (w : World) (f : (Lit.int .i64 l).wf = true) (g : (Lit.int .i64 m).wf = true) (h : (Lit.int .i64 b).wf = true) :
    Calls Try.prog 3 #[.agg #[.int .i64 l, .int .i64 m, .int .i64 b]] w fun e w' => e = .returned (.bool true) ∧ Below w.heap.size w w' := by
  clear f g h
  have Hs := Lib.hid (fun W => validR_spec l m b W)
  have Hi := Lib.hid (fun W => validR_impl l m b W)
  generalize vR l m b = V at Hs Hi
  go_enter Try.func3, Try.ntmps3
  go_wp2_with fail
  refine (toR _ _ _ _).mono ?_
  rintro e w1 ⟨rfl, rfl⟩
  go_wp2_with fail
  refine (Hs.out _).mono ?_
  rintro e w1 ⟨rfl, hb⟩
  have L1 := Lib.hid ((show Below w.heap.size w ((((w.alloc (.cells #[.int .i64 l, .int .i64 m, .int .i64 b] 23)).alloc (.cells #[.int .i64 l, .int .i64 m, .int .i64 b] 23)).alloc (.cells #[.int .i64 l, .int .i64 m, .int .i64 b] 25)).alloc (.cells #[.int .i64 l, .int .i64 m, .int .i64 b] 25)) by go_grown).trans (hb.mono (by simp; omega)))
  have A1 := Lib.hid (keep_block (show ((((w.alloc (.cells #[.int .i64 l, .int .i64 m, .int .i64 b] 23)).alloc (.cells #[.int .i64 l, .int .i64 m, .int .i64 b] 23)).alloc (.cells #[.int .i64 l, .int .i64 m, .int .i64 b] 25)).alloc (.cells #[.int .i64 l, .int .i64 m, .int .i64 b] 25)).heap[w.heap.size]? = some (.cells #[.int .i64 l, .int .i64 m, .int .i64 b] 23) by rw [Below.heap_alloc _ _ _ (by simp; omega)]; exact heap3_0 _ _ _ _) hb)
  clear hb
  have c0 := cell_of_row w1 w.heap.size 0 _ _ _ A1.out
  have c1 := cell_of_row w1 w.heap.size 1 _ _ _ A1.out
  have c2 := cell_of_row w1 w.heap.size 2 _ _ _ A1.out
  simp only [List.getElem?_toArray, List.getElem?_cons_succ, List.getElem?_cons_zero] at c0 c1 c2
  go_wp2_with fail
  refine (toR _ _ _ _).mono ?_
  rintro e w2 ⟨rfl, rfl⟩
  go_wp2_with fail
  refine (Hi.out _).mono ?_
  rintro e w2 ⟨rfl, hb⟩
  have L2 := Lib.hid ((((L1.out.alloc L1.out.size (.cells #[.int .i64 l, .int .i64 m, .int .i64 b] 23)).alloc (by have := L1.out.size; simp; omega) (.cells #[.int .i64 l, .int .i64 m, .int .i64 b] 25)).alloc (by have := L1.out.size; simp; omega) (.cells #[.int .i64 l, .int .i64 m, .int .i64 b] 25)).trans (hb.mono (by have := L1.out.size; simp; omega)))
  clear hb c0 c1 c2
  cases V <;> go_wp2
  all_goals go_ret
  all_goals exact ⟨rfl, L2.out⟩
end Go.Proofs.Ytdhjnpafijockaa
