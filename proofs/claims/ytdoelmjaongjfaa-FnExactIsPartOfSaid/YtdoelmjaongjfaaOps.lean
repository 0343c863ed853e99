/- A store as the specification opens it: blobs and keys in slices of its own. Written by hand. -/
import Derived.Test.YtdoelmjaongjfaaSof
import Derived.Test.YtdoelmjaongjfaaTk
import Derived.Laws.AppendOwn
namespace Go.Proofs.Ytdoelmjaongjfaa
open Go.ChangeShapes Go.WideShapes Go.ChangeAt Go.RowKit
set_option linter.unusedVariables false
set_option linter.unusedSimpArgs false
theorem grown_setCell (w : World) (g o : Nat) (v : Value) : w.grownBy (w.setCell ⟨g, o, none⟩ v) (some g) :=
  ⟨rfl, rfl, rfl, by simp [World.setCell], fun k _ hk => heap_setCell_other _ _ _ _ (fun e => hk (by rw [e]))⟩
theorem row_ne {w : World} {base size k g : Nat} {T ST : TypeId} {v : Value} {xs : List Value} {c : Array Value} {fr : Nat × Nat} (h : w.ownsRow base T size v k xs) (hg : w.heap[g]? = some (.cells c ST fr)) (hT : T ≠ ST) : v.ownBlock ≠ some g := by
  rcases h.2 with ⟨h0, _⟩ | ⟨b, cap, cur, hv, _, hh, _⟩
  · rw [h0]
    intro e
    cases e
  · rw [hv]
    intro e
    obtain rfl : b = g := by simpa [Value.ownBlock] using e
    rw [hg] at hh
    injection hh with e1
    injection e1 with _ e2
    exact hT e2.symm
theorem rows_apart {w : World} {base base2 size size2 k k2 : Nat} {T U : TypeId} {v u : Value} {xs ys : List Value} (h : w.ownsRow base T size v k xs) (h2 : w.ownsRow base2 U size2 u k2 ys) (hT : U ≠ T) : v.ownBlock = none ∨ v.ownBlock ≠ u.ownBlock := by
  rcases h.2 with ⟨h0, _⟩ | ⟨b, cap, cur, hv, _, hh, _⟩
  · exact Or.inl (by rw [h0]; rfl)
  · refine Or.inr (fun e => row_ne h2 hh hT ?_)
    rw [← e, hv]
    rfl
theorem row_below {w w1 : World} {base : Nat} {e : TypeId} {size : Nat} {v : Value} {n : Nat} {xs : List Value} (h : w.ownsRow base e size v n xs) (hb : Below w.heap.size w w1) : w1.ownsRow base e size v n xs := owns_below h hb
/-- The cells of blobs whose data lie in the blocks ys. -/
def blC : List BlV → List Nat → List Value
  | x :: xs, y :: ys => [.int .u8 x.t, .slice (some ⟨y, 0, none⟩) x.n x.n] ++ blC xs ys
  | _, _ => []
theorem blC_snoc : ∀ (xs : List BlV) (ys : List Nat) (x : BlV) (y : Nat), ys.length = xs.length → blC (xs ++ [x]) (ys ++ [y]) = blC xs ys ++ [.int .u8 x.t, .slice (some ⟨y, 0, none⟩) x.n x.n]
  | [], [], x, y, _ => by simp [blC]
  | _ :: _, [], _, _, h => by simp at h
  | [], _ :: _, _, _, h => by simp at h
  | a :: xs, b :: ys, x, y, h => by
    simp only [List.cons_append, blC]
    rw [blC_snoc xs ys x y (by simpa using h)]
    simp
theorem blC_at : ∀ (xs : List BlV) (ys : List Nat) (i : Nat) (x : BlV) (y : Nat), xs[i]? = some x → ys[i]? = some y → (blC xs ys)[i * 2]? = some (.int .u8 x.t) ∧ (blC xs ys)[i * 2 + 1]? = some (.slice (some ⟨y, 0, none⟩) x.n x.n)
  | [], _, i, _, _, h, _ => by simp at h
  | _ :: _, [], i, _, _, _, h => by simp at h
  | a :: xs, b :: ys, 0, x, y, h, h2 => by
    simp at h h2
    subst h
    subst h2
    exact ⟨rfl, rfl⟩
  | a :: xs, b :: ys, i + 1, x, y, h, h2 => by
    have h3 := blC_at xs ys i x y (by simpa using h) (by simpa using h2)
    rw [show (i + 1) * 2 = i * 2 + 2 by omega]
    exact ⟨by simpa [blC] using h3.1, by simpa [blC] using h3.2⟩
/-- What an open store is. -/
structure OpenP (w : World) (base X : Nat) (v1 v2 : Value) (xs : List BlV) (ys : List Nat) (kn : Nat) (fl : List Int) : Prop where
  box : w.heap[X]? = some (.cells #[v1, v2] 87)
  le : base ≤ X
  len : ys.length = xs.length
  row1 : w.ownsRow base 43 2 v1 xs.length (blC xs ys)
  data : ∀ (i : Nat) (x : BlV) (y : Nat), xs[i]? = some x → ys[i]? = some y → w.heap[y]? = some (.cells (ints .u8 x.l) 5)
  row2 : w.ownsRow base 46 32 v2 kn (fl.map (Value.int .u8))
theorem OpenP.below {w w1 : World} {base X : Nat} {v1 v2 : Value} {xs : List BlV} {ys : List Nat} {kn : Nat} {fl : List Int} (h : OpenP w base X v1 v2 xs ys kn fl) (hb : Below w.heap.size w w1) : OpenP w1 base X v1 v2 xs ys kn fl :=
  ⟨keep_block h.box hb, h.le, h.len, owns_below h.row1 hb, fun i x y hx hy => keep_block (h.data i x y hx hy) hb, owns_below h.row2 hb⟩
theorem OpenP.made (w : World) (base : Nat) (hb : base ≤ w.heap.size) : OpenP (w.alloc (.cells #[.slice none 0 0, .slice none 0 0] 87)) base w.heap.size (.slice none 0 0) (.slice none 0 0) [] [] 0 [] :=
  ⟨heap_alloc_last _ _, hb, rfl, ⟨rfl, Or.inl ⟨rfl, rfl⟩⟩, fun i x y hx _ => by simp at hx, ⟨rfl, Or.inl ⟨rfl, rfl⟩⟩⟩
/-- Another block written or made: nothing of an open store turns. -/
theorem OpenP.grown {w w1 : World} {base X : Nat} {v1 v2 : Value} {xs : List BlV} {ys : List Nat} {kn : Nat} {fl : List Int} (h : OpenP w base X v1 v2 xs ys kn fl) {row : Option Nat} (hg : w.grownBy w1 row) (hX : some X ≠ row) (h1 : v1.ownBlock = none ∨ v1.ownBlock ≠ row) (h2 : v2.ownBlock = none ∨ v2.ownBlock ≠ row)
    (hd : ∀ y c, row = some y → w.heap[y]? ≠ some (.cells c 5)) : OpenP w1 base X v1 v2 xs ys kn fl :=
  ⟨(hg.block X (Array.getElem?_eq_some_iff.1 h.box).1 hX).trans h.box, h.le, h.len, h.row1.kept hg h1, fun i x y hx hy =>
    (hg.block y (Array.getElem?_eq_some_iff.1 (h.data i x y hx hy)).1 (fun e => hd y _ e.symm (h.data i x y hx hy))).trans (h.data i x y hx hy), h.row2.kept hg h2⟩
/-- A further blob. -/
theorem OpenP.app1 {w w1 : World} {base X : Nat} {v1 v2 v' : Value} {xs : List BlV} {ys : List Nat} {kn : Nat} {fl : List Int} (h : OpenP w base X v1 v2 xs ys kn fl) (hg : w.grownBy w1 v1.ownBlock) {x : BlV} {y : Nat}
    (hr : w1.ownsRow base 43 2 v' (xs.length + 1) (blC xs ys ++ [.int .u8 x.t, .slice (some ⟨y, 0, none⟩) x.n x.n])) (hy : w.heap[y]? = some (.cells (ints .u8 x.l) 5)) :
    w1.heap[X]? = some (.cells #[v1, v2] 87) ∧ OpenP (w1.setCell ⟨X, 0, none⟩ v') base X v' v2 (xs ++ [x]) (ys ++ [y]) kn fl := by
  have hX1 : w1.heap[X]? = some (.cells #[v1, v2] 87) := (hg.block X (Array.getElem?_eq_some_iff.1 h.box).1 (fun e => row_ne h.row1 h.box (by decide) e.symm)).trans h.box
  have hdat : ∀ (c : List Int) (q : Nat), w.heap[q]? = some (.cells (ints .u8 c) 5) → (w1.setCell ⟨X, 0, none⟩ v').heap[q]? = some (.cells (ints .u8 c) 5) := fun c q hq => by
    have h1 : w1.heap[q]? = some (.cells (ints .u8 c) 5) := (hg.block q (Array.getElem?_eq_some_iff.1 hq).1 (fun e => row_ne h.row1 hq (by decide) e.symm)).trans hq
    refine (heap_setCell_other _ _ _ _ (fun e => ?_)).trans h1
    subst e
    rw [hX1] at h1
    injection h1 with e1
    injection e1 with _ e2
    revert e2
    decide
  refine ⟨hX1, ⟨?_, h.le, by simp [h.len], ?_, fun i z q hz hq => ?_, ?_⟩⟩
  · rw [setCell_eq_setRow _ _ _ _ _ _ _ hX1]
    exact setRow_heap _ _ _ _ _ _ hX1
  · rw [blC_snoc _ _ _ _ h.len, List.length_append]
    exact hr.kept (grown_setCell w1 X 0 v') (Or.inr (row_ne hr hX1 (by decide)))
  · by_cases hi : i < xs.length
    · rw [List.getElem?_append_left hi] at hz
      rw [List.getElem?_append_left (by rw [h.len]; exact hi)] at hq
      exact hdat _ _ (h.data i z q hz hq)
    · rw [List.getElem?_append_right (by omega)] at hz
      rw [List.getElem?_append_right (by rw [h.len]; omega)] at hq
      have e1 := (List.getElem?_eq_some_iff.1 hz).1
      simp at e1
      have e2 : i - xs.length = 0 := by omega
      rw [e2] at hz
      rw [h.len, e2] at hq
      cases hz
      cases hq
      exact hdat _ _ hy
  · exact (h.row2.kept hg (rows_apart h.row2 h.row1 (by decide))).kept (grown_setCell w1 X 0 v') (Or.inr (row_ne (h.row2.kept hg (rows_apart h.row2 h.row1 (by decide))) hX1 (by decide)))
/-- A further key. -/
theorem OpenP.app2 {w w1 : World} {base X : Nat} {v1 v2 v' : Value} {xs : List BlV} {ys : List Nat} {kn : Nat} {fl k : List Int} (h : OpenP w base X v1 v2 xs ys kn fl) (hg : w.grownBy w1 v2.ownBlock)
    (hr : w1.ownsRow base 46 32 v' (kn + 1) (fl.map (Value.int .u8) ++ k.map (Value.int .u8))) :
    w1.heap[X]? = some (.cells #[v1, v2] 87) ∧ OpenP (w1.setCell ⟨X, 1, none⟩ v') base X v1 v' xs ys (kn + 1) (fl ++ k) := by
  have hX1 : w1.heap[X]? = some (.cells #[v1, v2] 87) := (hg.block X (Array.getElem?_eq_some_iff.1 h.box).1 (fun e => row_ne h.row2 h.box (by decide) e.symm)).trans h.box
  have hdat : ∀ (c : List Int) (q : Nat), w.heap[q]? = some (.cells (ints .u8 c) 5) → (w1.setCell ⟨X, 1, none⟩ v').heap[q]? = some (.cells (ints .u8 c) 5) := fun c q hq => by
    have h1 : w1.heap[q]? = some (.cells (ints .u8 c) 5) := (hg.block q (Array.getElem?_eq_some_iff.1 hq).1 (fun e => row_ne h.row2 hq (by decide) e.symm)).trans hq
    refine (heap_setCell_other _ _ _ _ (fun e => ?_)).trans h1
    subst e
    rw [hX1] at h1
    injection h1 with e1
    injection e1 with _ e2
    revert e2
    decide
  refine ⟨hX1, ⟨?_, h.le, h.len, ?_, fun i z q hz hq => hdat _ _ (h.data i z q hz hq), ?_⟩⟩
  · rw [setCell_eq_setRow _ _ _ _ _ _ _ hX1]
    exact setRow_heap _ _ _ _ _ _ hX1
  · exact (h.row1.kept hg (rows_apart h.row1 h.row2 (by decide))).kept (grown_setCell w1 X 1 v') (Or.inr (row_ne (h.row1.kept hg (rows_apart h.row1 h.row2 (by decide))) hX1 (by decide)))
  · rw [List.map_append]
    exact hr.kept (grown_setCell w1 X 1 v') (Or.inr (row_ne hr hX1 (by decide)))
theorem blParts : ∃ (i : TypeInfo) (z : Value), Try.prog.info? 43 = some i ∧ i.zero = some z ∧ i.size = 2 ∧ i.bytes = 32 ∧ z.cells.size = 2 := by
  obtain ⟨i, hi, hzz⟩ := Option.map_eq_some_iff.1 blInfo
  simp only [Prod.mk.injEq] at hzz
  obtain ⟨hz, hs, hb⟩ := hzz
  obtain ⟨z, hz0, hzc⟩ := Option.map_eq_some_iff.1 hz
  exact ⟨i, z, hi, hz0, hs, hb, by rw [hzc]; rfl⟩
theorem keyInfo2 : (Try.prog.info? 46).map (fun i => (i.zero.map (·.cells), i.size, i.bytes)) = some (some (ints .u8 z32), 32, 32) := by kernel_rfl
theorem keyParts2 : ∃ (i : TypeInfo) (z : Value), Try.prog.info? 46 = some i ∧ i.zero = some z ∧ i.size = 32 ∧ i.bytes = 32 ∧ z.cells.size = 32 := by
  obtain ⟨i, hi, hzz⟩ := Option.map_eq_some_iff.1 keyInfo2
  simp only [Prod.mk.injEq] at hzz
  obtain ⟨hz, hs, hb⟩ := hzz
  obtain ⟨z, hz0, hzc⟩ := Option.map_eq_some_iff.1 hz
  exact ⟨i, z, hi, hz0, hs, hb, by rw [hzc, ints_size]; rfl⟩
theorem wp_buildSlice_oneS {P : Program} {o : Oper} {a : Act} {w : World} {K : Act → World → Prop} {Q : Exit → Act → World → Prop} (t e : TypeId) (x : Operand) (ho : o.op = .buildSlice t 1 #[(0, x)])
    {i : TypeInfo} {z : Value} (hu : P.underlying t = some (.slice e)) (hi : P.info? e = some i) (hz : i.zero = some z) (v : Array Value) (hx : a.eval x = .agg v) (hs : v.size = i.size) (hb : i.size ≤ 2 ^ 24) (h0 : 0 < i.size)
    (h : K (a.put o.dst (.slice (some ⟨w.heap.size, 0, none⟩) 1 1)) (w.alloc (.cells v e))) : o.wp P a w K Q := by
  unfold Oper.wp execOp
  simp only [ho, List.map_toArray, List.map_cons, List.map_nil, hx, Sem.run_bind, Sem.run_pure, Result.andThen_ok, run_buildSlice_one hu hi hz v hs hb h0]
  exact h
end Go.Proofs.Ytdoelmjaongjfaa
