/- Values laid into rows, and single steps inside a fence. -/
import Derived.OwnWalkIn
import Derived.TacticsInMore
import Derived.Deep.MidRow
import Derived.Great.BuildSlice
import Derived.Test.YtdoelmjaongjfabRow
import Derived.Test.YtdoelmjaongjfabRdK
namespace Go.Proofs.Ytdoelmjaongjfab
open Go.ChangeShapes Go.WideShapes Go.ChangeAt Go.RowKit
set_option linter.unusedVariables false
theorem fill_list (off : Nat) : ∀ (L : List Value) (k : Nat) (cells : Array Value) (_ : off + k + L.length ≤ cells.size) (i : Nat),
    ((L.zipIdx k).foldl (fun (cs : Array Value) (x : Value × Nat) => cs.setIfInBounds (off + x.2) x.1) cells)[i]? = if off + k ≤ i ∧ i < off + k + L.length then L[i - (off + k)]? else cells[i]?
  | [], k, cells, _, i => by
    rw [if_neg (by simp)]
    rfl
  | c :: L, k, cells, h, i => by
    simp only [List.length_cons] at h
    rw [List.zipIdx_cons, List.foldl_cons, fill_list off L (k + 1) _ (by simp; omega) i]
    simp only [List.length_cons]
    by_cases h1 : i = off + k
    · subst h1
      rw [if_neg (by omega), if_pos (by omega), Array.getElem?_setIfInBounds_self_of_lt (by omega)]
      simp
    · by_cases h2 : off + k ≤ i ∧ i < off + k + (L.length + 1)
      · rw [if_pos (by omega), if_pos h2, show i - (off + k) = (i - (off + (k + 1))) + 1 by omega]
        simp
      · rw [if_neg (by omega), if_neg h2, Array.getElem?_setIfInBounds_ne (by omega)]
theorem fill_fold (off : Nat) (v cells : Array Value) (h : off + v.size ≤ cells.size) (i : Nat) :
    (v.zipIdx.foldl (fun (cs : Array Value) (x : Value × Nat) => cs.setIfInBounds (off + x.2) x.1) cells)[i]? = if off ≤ i ∧ i < off + v.size then v[i - off]? else cells[i]? := by
  have := fill_list off v.toList 0 cells (by simpa using h) i
  rw [← Array.foldl_toList, Array.toList_zipIdx]
  simpa using this
theorem fill_size (off : Nat) (v cells : Array Value) : (v.zipIdx.foldl (fun (cs : Array Value) (x : Value × Nat) => cs.setIfInBounds (off + x.2) x.1) cells).size = cells.size := by
  have : ∀ (L : List (Value × Nat)) (c : Array Value), (L.foldl (fun (cs : Array Value) (x : Value × Nat) => cs.setIfInBounds (off + x.2) x.1) c).size = c.size := by
    intro L
    induction L with
    | nil => intro c; rfl
    | cons x L ih => intro c; rw [List.foldl_cons, ih]; simp
  rw [← Array.foldl_toList, this]
theorem fill_step (place : Nat → Option (Nat × Nat)) (cells v : Array Value) (i off : Nat) (rest : List (Nat × Value)) (hp : place i = some (off, v.size)) (h : off + v.size ≤ cells.size) :
    Instr.fill place cells ((i, .agg v) :: rest) = Instr.fill place (v.zipIdx.foldl (fun (cs : Array Value) (x : Value × Nat) => cs.setIfInBounds (off + x.2) x.1) cells) rest := by
  rw [Instr.fill]
  simp only [hp]
  rw [if_neg (by simp [Value.cells]; omega)]
  rfl
theorem run_buildSlice_one {P : Program} {w : World} {t e : TypeId} {i : TypeInfo} {z : Value} (hu : P.underlying t = some (.slice e)) (hi : P.info? e = some i) (hz : i.zero = some z) (v : Array Value) (hs : v.size = i.size) (hb : i.size ≤ 2 ^ 24) (h0 : 0 < i.size) :
    (Instr.buildSlice t 1 #[(0, .agg v)]).run P w = .ok (.slice (some ⟨w.heap.size, 0, none⟩) 1 1) (w.alloc (.cells v e)) := by
  have hf : ∀ c : Array Value, c.size = 1 * i.size → Instr.fill (fun j => some (j * i.size, i.size)) c [(0, .agg v)] = some v := by
    intro c hc
    rw [fill_step _ _ v 0 0 _ (by simp [hs]) (by omega), Instr.fill]
    congr 1
    apply Array.ext_getElem?
    intro j
    rw [fill_fold 0 v _ (by omega)]
    by_cases h1 : j < v.size
    · rw [if_pos (by omega), Nat.sub_zero]
    · rw [if_neg (by omega), Array.getElem?_eq_none (by omega), Array.getElem?_eq_none (by omega)]
  refine run_buildSlice w t e 1 _ v i z hu hi hz (by omega) (by omega) ?_
  exact hf _ (by simp)
/-- A step inside a fence: an operation that yields a value, and calls nothing. -/
theorem wpIn_value {F : Fence} {n : Nat} {P : Program} {o : Oper} {a : Act} {w w1 : World} {v : Value} {K : Act → World → Prop} {Q : Exit → Act → World → Prop} (hd : ∀ c, o.op ≠ .defer c) (ha : o.about P w a.eval = none)
    (hr : (execOp a.eval o).run P w = .ok (.value v) w1) (h : K (a.put o.dst v) w1) : o.wpIn F n P a w K Q := by
  unfold Oper.wpIn
  rw [ha, Oper.semAt_plain F _ _ hd, hr]
  exact ⟨fun f hf => (by cases hf), h⟩
theorem wpIn_skip {F : Fence} {n : Nat} {P : Program} {o : Oper} {a : Act} {w w1 : World} {K : Act → World → Prop} {Q : Exit → Act → World → Prop} (hd : ∀ c, o.op ≠ .defer c) (ha : o.about P w a.eval = none)
    (hr : (execOp a.eval o).run P w = .ok .skip w1) (h : K (a.put o.dst undef) w1) : o.wpIn F n P a w K Q := by
  unfold Oper.wpIn
  rw [ha, Oper.semAt_plain F _ _ hd, hr]
  exact ⟨fun f hf => (by cases hf), h⟩
theorem wpIn_load_ints {F : Fence} {n : Nat} {P : Program} {o : Oper} {a : Act} {w : World} {K : Act → World → Prop} {Q : Exit → Act → World → Prop} (ty : TypeId) (x : Operand) (ho : o.op = .load ty x)
    (b p : Nat) (hx : a.eval x = .pointer (some ⟨b, p, none⟩)) (κ : IntKind) (l : List Int) (d : TypeDesc) (hc : w.rangeAt b p (l.map (Value.int κ)))
    (hu : P.underlying ty = some d) (hd : d.isRow = true) (hi : (P.info? ty).map (·.size) = some l.length) (h : K (a.put o.dst (.agg (ints κ l))) w) : o.wpIn F n P a w K Q := by
  refine wpIn_value (v := .agg (ints κ l)) (w1 := w) (by rw [ho]; intro c h; cases h) (by simp [Oper.about, ho]) ?_ h
  unfold execOp
  simp only [ho, hx, Sem.run_bind, Sem.run_pure, Result.andThen_ok, run_loadAt_mid w b p ty (l.map (Value.int κ)) d hc hu hd (by rw [List.length_map]; exact hi)]
  rfl
theorem wpIn_buildSlice_one {F : Fence} {n : Nat} {P : Program} {o : Oper} {a : Act} {w : World} {K : Act → World → Prop} {Q : Exit → Act → World → Prop} (t e : TypeId) (x : Operand) (ho : o.op = .buildSlice t 1 #[(0, x)])
    {i : TypeInfo} {z : Value} (hu : P.underlying t = some (.slice e)) (hi : P.info? e = some i) (hz : i.zero = some z) (v : Array Value) (hx : a.eval x = .agg v) (hs : v.size = i.size) (hb : i.size ≤ 2 ^ 24) (h0 : 0 < i.size)
    (h : K (a.put o.dst (.slice (some ⟨w.heap.size, 0, none⟩) 1 1)) (w.alloc (.cells v e))) : o.wpIn F n P a w K Q := by
  refine wpIn_value (by rw [ho]; intro c h; cases h) (by simp [Oper.about, ho]) ?_ h
  unfold execOp
  simp only [ho, List.map_toArray, List.map_cons, List.map_nil, hx, Sem.run_bind, Sem.run_pure, Result.andThen_ok, run_buildSlice_one hu hi hz v hs hb h0]
theorem wpIn_append_own {F : Fence} {n : Nat} {P : Program} (w : World) {o : Oper} {a : Act} {K : Act → World → Prop} {Q : Exit → Act → World → Prop}
    (s x : Operand) (t : TypeId) (hop : o.op = Op.call { callee := Callee.builtin Builtin.append, args := #[s, x], argTypes := #[t, t] })
    (base : Nat) (e : TypeId) (i : TypeInfo) (z : Value) (size bytes : Nat) (h1 : P.underlying t = some (.slice e)) (h2 : P.info? e = some i) (h3 : i.zero = some z) (h4 : i.size = size) (h5 : i.bytes = bytes) (h6 : z.cells.size = size) (h7 : 0 < size)
    (v : Value) (k : Nat) (xs : List Value) (hs : a.eval s = v) (hown : w.ownsRow base e size v k xs) (ad : Addr) (m c : Nat) (news : List Value) (hx : a.eval x = .slice (some ad) m c) (hn : news.length = m * size)
    (hc : ∀ j u, news[j]? = some u → w.cell? (ad.add j) = some u) (h1c : ∀ u ∈ news, u.oneCell' = true) (b1 : k + m ≤ maxLen) (b2 : (k + m) * bytes ≤ 140737488355328) (b3 : base ≤ w.heap.size)
    (hK : ∀ v' w', w'.ownsRow base e size v' (k + m) (xs ++ news) → w.grownBy w' v.ownBlock → (v' = .slice none 0 0 ↔ v = .slice none 0 0 ∧ m = 0) → K (a.put o.dst v') w') : o.wpIn F n P a w K Q := by
  obtain ⟨v', w', hrun, r1, r2, r3⟩ := run_append_own (P := P) w base t o.type e i z size bytes h1 h2 h3 h4 h5 h6 h7 v k xs hown ad m c news hn hc h1c b1 b2 b3
  unfold Oper.wpIn
  refine ⟨?_, ?_⟩
  · simp [Oper.about, hop, resolve, Target.leads, Sem.run_pure]
  · rw [Oper.semAt_plain F _ _ (by rw [hop]; intro c hc'; cases hc')]
    simp [execOp, hop, resolve, invoke, builtin, hs, hx, hrun, Result.andThen]
    exact hK _ _ r1 r2 r3
end Go.Proofs.Ytdoelmjaongjfab
