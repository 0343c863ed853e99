/- A list of keys laid in a row of one's own, and its places stored into; regions walked once over the class of the worlds below. Written by hand. -/
import Derived.Test.YtdoelmjaongjfabOnc
import Derived.Test.YtdoelmjaongjfabXor
import Derived.Deep.Quiet
namespace Go.Proofs.Ytdoelmjaongjfab
open Go.ChangeShapes Go.WideShapes Go.ChangeAt Go.RowKit
set_option linter.unusedVariables false
set_option linter.unusedSimpArgs false
open Go.Sort Go.Shelf
/-- The keys S lie in block g, in the first places of cap. -/
def RowS (W : World) (g cap : Nat) (S : List KeyS) : Prop :=
  (∃ cur : Array Value, W.heap[g]? = some (.cells cur 32 (0, 0)) ∧ cur.size = cap * 32) ∧ S.length ≤ cap ∧ ∀ (p : Nat) (x : KeyS), S[p]? = some x → W.rangeAt g (p * 32) (x.1.map (Value.int .u8))
theorem RowS.below {W W' : World} {g cap : Nat} {S : List KeyS} (h : RowS W g cap S) (hb : Below W.heap.size W W') : RowS W' g cap S := by
  obtain ⟨⟨cur, h1, h2⟩, h3, h4⟩ := h
  exact ⟨⟨cur, keep_block h1 hb, h2⟩, h3, fun p x hx => rangeAt_below (h4 p x hx) hb⟩
theorem RowS.there {W : World} {g cap : Nat} {S : List KeyS} (h : RowS W g cap S) {p : Nat} (hp : p < S.length) : W.there g (p * 32) 32 := fun j hj => by
  obtain ⟨⟨cur, h1, h2⟩, h3, h4⟩ := h
  have hc : W.cell? ⟨g, p * 32 + j, none⟩ = cur[p * 32 + j]? := cell_of_row W g (p * 32 + j) _ _ _ h1
  constructor
  · rw [hc, Array.getElem?_eq_getElem (by omega)]; rfl
  · exact frozen_of_row W g (p * 32 + j) _ _ h1
theorem cells_setCells {g : Nat} {e : TypeId} : ∀ (vs : List Value) (o : Nat) (W : World) (cur : Array Value), W.heap[g]? = some (.cells cur e (0, 0)) →
    ∃ cur' : Array Value, (W.setCells g o vs).heap[g]? = some (.cells cur' e (0, 0)) ∧ cur'.size = cur.size
  | [], _, _, cur, h => ⟨cur, h, rfl⟩
  | v :: r, o, W, cur, h => by
    obtain ⟨c, h1, h2⟩ := cells_setCells r (o + 1) (W.setCell ⟨g, o, none⟩ v) (cur.setIfInBounds o v) (heap_setCell_same _ _ _ _ _ _ h)
    exact ⟨c, h1, by rw [h2]; simp⟩
theorem RowS.set {W : World} {g cap : Nat} {S : List KeyS} (h : RowS W g cap S) {p : Nat} (hp : p < S.length) (x : KeyS) : RowS (W.setCells g (p * 32) (x.1.map (Value.int .u8))) g cap (S.set p x) := by
  have ht := h.there hp
  obtain ⟨⟨cur, h1, h2⟩, h3, h4⟩ := h
  obtain ⟨c, e1, e2⟩ := cells_setCells (x.1.map (Value.int .u8)) (p * 32) W cur h1
  refine ⟨⟨c, e1, by rw [e2, h2]⟩, by rw [List.length_set]; exact h3, fun q y hy => ?_⟩
  have hxl : (x.1.map (Value.int .u8)).length = 32 := by rw [List.length_map, x.2.1]
  by_cases e : q = p
  · subst e
    rw [List.getElem?_set_self hp] at hy
    cases hy
    exact World.rangeAt_setCells_same _ _ _ _ (by rw [hxl]; exact ht)
  · rw [List.getElem?_set_ne (fun e2 => e e2.symm)] at hy
    exact World.rangeAt_setCells_apart (h4 q y hy) _ _ _ (Or.inr (by
      have hyl : (y.1.map (Value.int .u8)).length = 32 := by rw [List.length_map, y.2.1]
      rw [hxl, hyl]
      omega))
theorem RowS.of_cells {W : World} {g cap : Nat} {S : List KeyS} {cur : Array Value} (hb : W.heap[g]? = some (.cells cur 32 (0, 0))) (hs : cur.size = cap * 32) (hl : S.length ≤ cap)
    (ht : cur.toList.take (S.length * 32) = (flatK S).map (Value.int .u8)) : RowS W g cap S := by
  refine ⟨⟨cur, hb, hs⟩, hl, fun p x hp j v hv => ?_⟩
  have hj : j < 32 := by
    have := (List.getElem?_eq_some_iff.1 hv).1
    rw [List.length_map, x.2.1] at this
    exact this
  have hpl : p < S.length := (List.getElem?_eq_some_iff.1 hp).1
  have hc : W.cell? ⟨g, p * 32 + j, none⟩ = cur[p * 32 + j]? := cell_of_row W g (p * 32 + j) _ _ _ hb
  have h1 : (cur.toList.take (S.length * 32))[p * 32 + j]? = ((flatK S).map (Value.int .u8))[p * 32 + j]? := by rw [ht]
  rw [List.getElem?_take_of_lt (by omega), List.getElem?_map, show p * 32 + j = 32 * p + j by omega, flatK_get S p j x hp hj, ← List.getElem?_map, hv] at h1
  rw [hc, show p * 32 + j = 32 * p + j by omega, ← Array.getElem?_toList, h1]
theorem RowS.owns {W : World} {g cap base n : Nat} {S : List KeyS} (h : RowS W g cap S) (hn : n = S.length) (hg : base ≤ g) (hm : cap ≤ maxLen) : W.ownsRow base 32 32 (.slice (some ⟨g, 0, none⟩) n cap) n ((flatK S).map (Value.int .u8)) := by
  subst hn
  obtain ⟨⟨cur, h1, h2⟩, h3, h4⟩ := h
  refine ⟨by rw [List.length_map, flatK_len]; omega, Or.inr ⟨g, cap, cur, rfl, hg, h1, h3, hm, h2, ?_⟩⟩
  apply List.ext_getElem?
  intro t
  by_cases ht : t < S.length * 32
  · have hp : t / 32 < S.length := by omega
    have hj : t % 32 < 32 := by omega
    have e2 := flatK_get S (t / 32) (t % 32) S[t / 32] (List.getElem?_eq_getElem hp) hj
    rw [show 32 * (t / 32) + t % 32 = t by omega] at e2
    have hx : t % 32 < (S[t / 32]).1.length := by rw [(S[t / 32]).2.1]; exact hj
    have h5 := h4 (t / 32) S[t / 32] (List.getElem?_eq_getElem hp) (t % 32) (.int .u8 ((S[t / 32]).1[t % 32])) (by rw [List.getElem?_map, List.getElem?_eq_getElem hx]; rfl)
    rw [cell_of_row W g (t / 32 * 32 + t % 32) _ _ _ h1, show t / 32 * 32 + t % 32 = t by omega] at h5
    rw [List.getElem?_take_of_lt ht, Array.getElem?_toList, h5, List.getElem?_map, e2, List.getElem?_eq_getElem hx]
    rfl
  · rw [List.getElem?_take_eq_none (by omega), List.getElem?_eq_none (by rw [List.length_map, flatK_len]; omega)]
theorem keyAt_flatK {S : List KeyS} {p : Nat} {x : KeyS} (h : S[p]? = some x) : keyAt (flatK S) p = x.1 := by
  apply List.ext_getElem?
  intro j
  by_cases hj : j < 32
  · rw [keyAt_get _ _ _ hj, flatK_get S p j x h hj]
  · have h1 : (keyAt (flatK S) p).length ≤ 32 := by unfold keyAt; rw [List.length_take]; omega
    rw [List.getElem?_eq_none (by omega), List.getElem?_eq_none (by rw [x.2.1]; omega)]
section
variable {P : Program} {ops : Array Oper} {C : World → Prop} {Q : Act → Prop} {a : Act} {o : Oper} {rest : List Oper}
theorem wq_take {v : Value} (h : YieldsIf P ops C o v a) (hk : wpQuiet P ops C Q rest (a.put o.dst v)) : wpQuiet P ops C Q (o :: rest) a :=
  wpQuiet_step fun K hK => by
    rcases h with ⟨hw, hv⟩ | ⟨hw, rfl⟩
    · rw [if_pos hw]
      exact ⟨v, fun w hC => by unfold Oper.quietAt; rw [hv w hC]; exact ⟨rfl, rfl⟩, hK _ hk⟩
    · rw [if_neg (by rw [hw]; exact Bool.false_ne_true)]
      exact hK _ hk
theorem wq_call {v : Value} {f : Nat} {args : Array Value} (hw : Region.wanted o (yielded ops a.tmps) = true) (hr : ∀ w, (execOp a.eval o).run P w = .ok (.enter f args) w)
    (hc : ∀ w, C w → Calls P f args w fun e w'' => e = .returned v ∧ C w'') (hk : wpQuiet P ops C Q rest (a.put o.dst v)) : wpQuiet P ops C Q (o :: rest) a :=
  wpQuiet_step fun K hK => by
    rw [if_pos hw]
    exact ⟨v, fun w hC => by unfold Oper.quietAt; rw [hr w]; exact ⟨rfl, hc w hC⟩, hK _ hk⟩
end
/-- The order by the differences from f. -/
def LtD (f : List Int) (x y : KeyS) : Prop := cmpI (xorL x.1 f) (xorL y.1 f) < 0
def AscD (f : List Int) (S : List KeyS) : Prop := S.Pairwise (LtD f)
theorem xorK_len (x : KeyS) {f : List Int} (hf : f.length = 32) : (xorL x.1 f).length = 32 := xorL_len x.2.1 hf
theorem LtD.trans {f : List Int} (hf : f.length = 32) {x y z : KeyS} (h1 : LtD f x y) (h2 : LtD f y z) : LtD f x z := cmpI_trans _ _ _ (by rw [xorK_len x hf, xorK_len y hf]) (by rw [xorK_len y hf, xorK_len z hf]) h1 h2
theorem LtD.of_not {f : List Int} (hf : f.length = 32) (hinj : ∀ x y : KeyS, xorL x.1 f = xorL y.1 f → x = y) {x y : KeyS} (hne : x ≠ y) (h : ¬ LtD f x y) : LtD f y x := by
  unfold LtD at *
  have h1 := cmpI_neg (xorL x.1 f) (xorL y.1 f)
  have h2 : cmpI (xorL x.1 f) (xorL y.1 f) ≠ 0 := fun e => hne (hinj _ _ (cmpI_eq _ _ (by rw [xorK_len x hf, xorK_len y hf]) e))
  omega
theorem AscD.ins {f : List Int} (hf : f.length = 32) {acc : List KeyS} (h : AscD f acc) {x : KeyS} {p : Nat} (hp : p ≤ acc.length) (h1 : ∀ y ∈ acc.drop p, LtD f x y) (h2 : ∀ y ∈ acc.take p, LtD f y x) : AscD f (acc.take p ++ x :: acc.drop p) := by
  unfold AscD at *
  have h3 : (acc.take p ++ acc.drop p).Pairwise (LtD f) := by rw [List.take_append_drop]; exact h
  rw [List.pairwise_append] at h3
  rw [List.pairwise_append, List.pairwise_cons]
  refine ⟨h3.1, ⟨h1, h3.2.1⟩, fun u hu v hv => ?_⟩
  rcases List.mem_cons.1 hv with rfl | hv
  · exact h2 u hu
  · exact h3.2.2 u hu v hv
theorem AscD.lower {f : List Int} (hf : f.length = 32) {acc : List KeyS} (h : AscD f acc) {x : KeyS} {q : Nat} (hq : q < acc.length) (h1 : LtD f acc[q] x) : ∀ y ∈ acc.take (q + 1), LtD f y x := fun y hy => by
  rw [List.take_add_one, List.getElem?_eq_getElem hq] at hy
  rcases List.mem_append.1 hy with hy | hy
  · unfold AscD at h
    have h3 : (acc.take q ++ acc.drop q).Pairwise (LtD f) := by rw [List.take_append_drop]; exact h
    rw [List.pairwise_append] at h3
    exact (h3.2.2 y hy acc[q] (by rw [List.drop_eq_getElem_cons hq]; exact List.mem_cons_self)).trans hf h1
  · simp at hy
    subst hy
    exact h1
theorem ins_perm (acc : List KeyS) (x : KeyS) (p : Nat) : (acc.take p ++ x :: acc.drop p).Perm (acc ++ [x]) := by
  refine List.perm_middle.trans ?_
  rw [List.take_append_drop]
  exact (List.perm_append_singleton x acc).symm
theorem ins_len (acc : List KeyS) (x : KeyS) {p : Nat} (hp : p ≤ acc.length) : (acc.take p ++ x :: acc.drop p).length = acc.length + 1 := by
  simp
  omega
theorem ins_at (acc : List KeyS) (x : KeyS) {p : Nat} (hp : p ≤ acc.length) : (acc.take p ++ x :: acc.drop p)[p]? = some x := by
  rw [List.getElem?_append_right (by simp; omega)]
  simp [Nat.min_eq_left hp]
theorem ins_pre (acc : List KeyS) (x : KeyS) {q : Nat} (hq : q < acc.length) : (acc.take (q + 1) ++ x :: acc.drop (q + 1))[q]? = some acc[q] := by
  rw [List.getElem?_append_left (by simp; omega), List.getElem?_take_of_lt (by omega), List.getElem?_eq_getElem hq]
theorem ins_swap (acc : List KeyS) (x : KeyS) {q : Nat} (hq : q < acc.length) : ((acc.take (q + 1) ++ x :: acc.drop (q + 1)).set (q + 1) acc[q]).set q x = acc.take q ++ x :: acc.drop q := by
  apply List.ext_getElem?
  intro t
  have hl1 : (acc.take (q + 1)).length = q + 1 := by simp; omega
  have hl0 : (acc.take q).length = q := by simp; omega
  rw [List.getElem?_set, List.getElem?_set]
  simp only [List.length_set, ins_len acc x (show q + 1 ≤ acc.length by omega)]
  by_cases h1 : q = t
  · subst h1
    rw [if_pos rfl, if_pos (by omega), List.getElem?_append_right (by omega), hl0]
    simp
  · rw [if_neg h1]
    by_cases h2 : q + 1 = t
    · subst h2
      rw [if_pos rfl, if_pos (by omega), List.getElem?_append_right (by omega), hl0, show q + 1 - q = 1 by omega]
      rw [List.getElem?_cons_succ, List.getElem?_drop, Nat.add_zero, List.getElem?_eq_getElem hq]
    · rw [if_neg h2]
      by_cases h3 : t < q
      · rw [List.getElem?_append_left (by omega), List.getElem?_append_left (by omega), List.getElem?_take_of_lt (by omega), List.getElem?_take_of_lt h3]
      · rw [List.getElem?_append_right (by omega), List.getElem?_append_right (by omega), hl0, hl1]
        obtain ⟨d, rfl⟩ : ∃ d, t = q + 2 + d := ⟨t - (q + 2), by omega⟩
        rw [show q + 2 + d - (q + 1) = d + 1 by omega, show q + 2 + d - q = d + 1 + 1 by omega, List.getElem?_cons_succ, List.getElem?_cons_succ, List.getElem?_drop, List.getElem?_drop]
        congr 1
        omega
end Go.Proofs.Ytdoelmjaongjfab
