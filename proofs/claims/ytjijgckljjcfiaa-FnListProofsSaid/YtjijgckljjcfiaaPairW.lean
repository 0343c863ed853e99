/- The pair of a node above a leaf. Written by wip/gen/pairw.py. -/
import Derived.Test.YtjijgckljjcfiaaLeadM
namespace Go.Proofs.Ytjijgckljjcfiaa
open Go.ChangeShapes Go.WideShapes Go.ChangeAt Go.RowKit
set_option linter.unusedVariables false
set_option linter.unusedSimpArgs false
def z64 : List Int := List.replicate 64 0
theorem z64_ints : ints .u8 z64 = #[.int .u8 0, .int .u8 0, .int .u8 0, .int .u8 0, .int .u8 0, .int .u8 0, .int .u8 0, .int .u8 0, .int .u8 0, .int .u8 0, .int .u8 0, .int .u8 0, .int .u8 0, .int .u8 0, .int .u8 0, .int .u8 0, .int .u8 0, .int .u8 0, .int .u8 0, .int .u8 0, .int .u8 0, .int .u8 0, .int .u8 0, .int .u8 0, .int .u8 0, .int .u8 0, .int .u8 0, .int .u8 0, .int .u8 0, .int .u8 0, .int .u8 0, .int .u8 0, .int .u8 0, .int .u8 0, .int .u8 0, .int .u8 0, .int .u8 0, .int .u8 0, .int .u8 0, .int .u8 0, .int .u8 0, .int .u8 0, .int .u8 0, .int .u8 0, .int .u8 0, .int .u8 0, .int .u8 0, .int .u8 0, .int .u8 0, .int .u8 0, .int .u8 0, .int .u8 0, .int .u8 0, .int .u8 0, .int .u8 0, .int .u8 0, .int .u8 0, .int .u8 0, .int .u8 0, .int .u8 0, .int .u8 0, .int .u8 0, .int .u8 0, .int .u8 0] := rfl
theorem ints_app (κ : IntKind) (x y : List Int) : ints κ (x ++ y) = ints κ x ++ ints κ y := by simp [ints]
theorem sizePair : (Try.prog.info? 147).map (·.size) = some 64 := by kernel_rfl
theorem pairInfo : (Try.prog.info? 147).map (fun i => (i.zero.map (·.cells.size), i.size, i.bytes)) = some (some 64, 64, 64) := by kernel_rfl
theorem pairParts : ∃ (i : TypeInfo) (z : Value), Try.prog.info? 147 = some i ∧ i.zero = some z ∧ i.size = 64 ∧ i.bytes = 64 ∧ z.cells.size = 64 := by
  obtain ⟨i, hi, hzz⟩ := Option.map_eq_some_iff.1 pairInfo
  simp only [Prod.mk.injEq] at hzz
  obtain ⟨hz, hs, hb⟩ := hzz
  obtain ⟨z, hz0, hzc⟩ := Option.map_eq_some_iff.1 hz
  exact ⟨i, z, hi, hz0, hs, hb, hzc⟩
theorem built2 {P : Program} {t : TypeId} {fs : Array Field} {n m : Nat} (hu : P.underlying t = some (.struct fs)) (hi : ((P.info? t).bind (·.zero)).map (fun z => z.cells.size) = some (n + m))
    (hp : fs.toList.mapM (fun f => (P.info? f.type).map fun i => (f.offset, i.size)) = some [(0, n), (n, m)]) (u v : Array Value) (su : u.size = n) (sv : v.size = m) :
    P.built t [(0, .agg u), (1, .agg v)] = some (u ++ v) := by
  cases hq : P.info? t with
  | none => simp [hq] at hi
  | some it =>
    cases hz : it.zero with
    | none => simp [hq, hz] at hi
    | some z =>
      have hs : z.cells.size = n + m := by simpa [hq, hz] using hi
      unfold Program.built
      simp only [hq, hu, hz, hp]
      rw [fill_step _ _ u 0 0 _ (by simp [su]) (by omega), fill_step _ _ v 1 n _ (by simp [sv]) (by rw [fill_size]; omega)]
      rw [Instr.fill]
      congr 1
      apply Array.ext_getElem?
      intro i
      rw [fill_fold n v _ (by rw [fill_size]; omega), fill_fold 0 u _ (by omega), Array.getElem?_append]
      by_cases h1 : i < n
      · rw [if_neg (by omega), if_pos (by omega), if_pos (by omega), Nat.sub_zero]
      · rw [if_neg (c := i < u.size) (by omega), su]
        by_cases h2 : i < n + m
        · rw [if_pos (by omega)]
        · rw [if_neg (by omega), if_neg (by omega), Array.getElem?_eq_none (by omega), Array.getElem?_eq_none (by omega)]
theorem built_pair (x y : List Int) (hx : x.length = 32) (hy : y.length = 32) : Try.prog.built 147 [(0, .agg (ints .u8 x)), (1, .agg (ints .u8 y))] = some (ints .u8 (x ++ y)) := by
  rw [ints_app]
  exact built2 (n := 32) (m := 32) Try.underlying147 (by kernel_rfl) (by kernel_rfl) _ _ (by rw [ints_size, hx]) (by rw [ints_size, hy])
theorem wpList_built {P : Program} {ops : Array Oper} {rest : List Oper} {o : Oper} {a : Act} {w : World} {Q : Exit → Act → World → Prop} (hg : o.guard = none) (t : TypeId) (parts : Array (Nat × Operand)) (cells : Array Value) (ho : o.op = .build t parts)
    (hb : P.built t (parts.map fun (i, x) => (i, a.eval x)).toList = some cells) (h : wpList P ops Q rest (a.put o.dst (.agg cells)) w) : wpList P ops Q (o :: rest) a w :=
  wpList_build hg t parts ho (by rw [hb]; rfl) (by rw [hb]; exact h)
theorem heap4_0 (w : World) (A B C D : Obj) : ((((w.alloc A).alloc B).alloc C).alloc D).heap[w.heap.size]? = some A := by
  rw [Below.heap_alloc _ _ _ (by first | (simp; omega) | simp)]; exact heap3_0 _ _ _ _
theorem heap4_1 (w : World) (A B C D : Obj) : ((((w.alloc A).alloc B).alloc C).alloc D).heap[w.heap.size + 1]? = some B := by
  rw [Below.heap_alloc _ _ _ (by first | (simp; omega) | simp)]; exact heap3_1 _ _ _ _
theorem heap4_2 (w : World) (A B C D : Obj) : ((((w.alloc A).alloc B).alloc C).alloc D).heap[w.heap.size + 1 + 1]? = some C := by
  rw [Below.heap_alloc _ _ _ (by first | (simp; omega) | simp)]; exact heap3_2 _ _ _ _
theorem heap4_3 (w : World) (A B C D : Obj) : ((((w.alloc A).alloc B).alloc C).alloc D).heap[w.heap.size + 1 + 1 + 1]? = some D := by
  have h := heap_alloc_last (((w.alloc A).alloc B).alloc C) D
  rwa [show (((w.alloc A).alloc B).alloc C).heap.size = w.heap.size + 1 + 1 + 1 by simp] at h
/-- The pair that a turn makes of the key found and the other one. -/
def prW (r : Bool) (x y : List Int) : List Int := if r then y ++ x else x ++ y
theorem prW_len {r : Bool} {x y : List Int} (hx : x.length = 32) (hy : y.length = 32) : (prW r x y).length = 64 := by
  unfold prW; split <;> (rw [List.length_append, hx, hy])
set_option maxRecDepth 100000 in
set_option maxHeartbeats 2000000 in
theorem pairWith_impl (r : Bool) (b e : Int) (x y : List Int) (hx : x.length = 32) (hy : y.length = 32) (w : World) :
    Calls Try.prog 112 #[.agg #[.bool r, .int .i64 b, .int .i64 e], .agg (ints .u8 x), .agg (ints .u8 y)] w fun z w' => z = .returned (.agg (ints .u8 (prW r x y))) ∧ Below w.heap.size w w' := by
  have Hz := Lib.hid z64_ints
  have HX := Lib.hid hx
  have HY := Lib.hid hy
  have A0 := heap4_0 w (.cells #[.bool r, .int .i64 b, .int .i64 e] 141) (.cells (ints .u8 x) 28) (.cells (ints .u8 y) 28) (.cells (ints .u8 z64) 147)
  have A1 := Lib.hid (heap4_1 w (.cells #[.bool r, .int .i64 b, .int .i64 e] 141) (.cells (ints .u8 x) 28) (.cells (ints .u8 y) 28) (.cells (ints .u8 z64) 147))
  have A2 := Lib.hid (heap4_2 w (.cells #[.bool r, .int .i64 b, .int .i64 e] 141) (.cells (ints .u8 x) 28) (.cells (ints .u8 y) 28) (.cells (ints .u8 z64) 147))
  have A3 := Lib.hid (heap4_3 w (.cells #[.bool r, .int .i64 b, .int .i64 e] 141) (.cells (ints .u8 x) 28) (.cells (ints .u8 y) 28) (.cells (ints .u8 z64) 147))
  have BW := Lib.hid ((((((Below.refl w.heap.size w).alloc (Nat.le_refl _) (.cells #[.bool r, .int .i64 b, .int .i64 e] 141)).alloc (by simp) (.cells (ints .u8 x) 28)).alloc (by simp; omega) (.cells (ints .u8 y) 28)).alloc (by simp; omega) (.cells (ints .u8 z64) 147)))
  obtain ⟨W0, hW0⟩ : ∃ W0, (((w.alloc (.cells #[.bool r, .int .i64 b, .int .i64 e] 141)).alloc (.cells (ints .u8 x) 28)).alloc (.cells (ints .u8 y) 28)).alloc (.cells (ints .u8 z64) 147) = W0 := ⟨_, rfl⟩
  rw [hW0] at A0 A1 A2 A3 BW
  have cr : W0.cell? ⟨w.heap.size, 0, none⟩ = some (.bool r) := (cell_of_row W0 w.heap.size 0 _ _ _ A0).trans rfl
  have HA := Lib.hid (built_pair x y hx hy)
  have HB := Lib.hid (built_pair y x hy hx)
  clear A0 hx hy
  rw [Hz.out] at hW0
  have HRL := Lib.hid (show ∀ r, (prW r x y).length = 64 from fun r => prW_len HX.out HY.out)
  cases r with
  | true =>
    go_enter Try.func112, Try.ntmps112
    go_wp2_with (first | (refine wpList_load_row rfl 28 _ rfl (w.heap.size + 1) rfl 28 (ints .u8 x) (0, 0) _ A1.out Try.underlying28 rfl (by rw [ints_size, HX.out]; exact sizeKey) ?_) | (refine wpList_load_row rfl 28 _ rfl (w.heap.size + 1 + 1) rfl 28 (ints .u8 y) (0, 0) _ A2.out Try.underlying28 rfl (by rw [ints_size, HY.out]; exact sizeKey) ?_) | (refine wpList_built rfl 147 _ (ints .u8 (y ++ x)) rfl (by simp only [List.map_toArray, List.map_cons, List.map_nil]; exact HB.out) ?_) | (refine wpList_store_row rfl 147 _ _ rfl (w.heap.size + 1 + 1 + 1) (ints .u8 (y ++ x)) rfl rfl 147 (ints .u8 z64) A3.out (by rw [ints_size, List.length_append, HX.out, HY.out]; exact sizePair) (by rw [ints_size, ints_size, List.length_append, HX.out, HY.out]; rfl) (ints_one _ _) ?_))
    refine bodyPost_ret (results_cell_row rfl _ _ (w.heap.size + 1 + 1 + 1) 147 (ints .u8 (y ++ x)) (0, 0) _ rfl (setRow_heap _ _ (ints .u8 z64) _ _ _ A3.out) Try.underlying147 rfl (by rw [ints_size, List.length_append, HX.out, HY.out]; exact sizePair)) rfl ⟨rfl, ?_⟩
    exact Below.setRow BW.out (by omega) _
  | false =>
    go_enter Try.func112, Try.ntmps112
    go_wp2_with (first | (refine wpList_load_row rfl 28 _ rfl (w.heap.size + 1) rfl 28 (ints .u8 x) (0, 0) _ A1.out Try.underlying28 rfl (by rw [ints_size, HX.out]; exact sizeKey) ?_) | (refine wpList_load_row rfl 28 _ rfl (w.heap.size + 1 + 1) rfl 28 (ints .u8 y) (0, 0) _ A2.out Try.underlying28 rfl (by rw [ints_size, HY.out]; exact sizeKey) ?_) | (refine wpList_built rfl 147 _ (ints .u8 (x ++ y)) rfl (by simp only [List.map_toArray, List.map_cons, List.map_nil]; exact HA.out) ?_) | (refine wpList_store_row rfl 147 _ _ rfl (w.heap.size + 1 + 1 + 1) (ints .u8 (x ++ y)) rfl rfl 147 (ints .u8 z64) A3.out (by rw [ints_size, List.length_append, HX.out, HY.out]; exact sizePair) (by rw [ints_size, ints_size, List.length_append, HX.out, HY.out]; rfl) (ints_one _ _) ?_))
    refine bodyPost_ret (results_cell_row rfl _ _ (w.heap.size + 1 + 1 + 1) 147 (ints .u8 (x ++ y)) (0, 0) _ rfl (setRow_heap _ _ (ints .u8 z64) _ _ _ A3.out) Try.underlying147 rfl (by rw [ints_size, List.length_append, HX.out, HY.out]; exact sizePair)) rfl ⟨rfl, ?_⟩
    exact Below.setRow BW.out (by omega) _
end Go.Proofs.Ytjijgckljjcfiaa
