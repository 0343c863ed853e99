/- Plain facts on lists of numbers as rows of cells, for the walks of this seat. -/
import Derived.Test.YtdoelmjaongjfaaRows
import Derived.WalkKit
import Derived.ProofKit
import Derived.OpenShut
import Derived.Outline
import Derived.Handy
import Derived.WalkLawsBesides
import Derived.Laws.Rows
import Derived.Deep.WholeRow
import Derived.Lib.Hide
import Derived.Laws.ResultCell
import Derived.Deep.DeepCutAuto
import Derived.Deep.MidRow
import Derived.Deep.RegionHeld3
import Derived.BigQuiet
import Derived.Deep.QuietTactic
namespace Go.Proofs.Ytdoelmjaongjfaa
open Go.ChangeShapes Go.WideShapes Go.ChangeAt Go.RowKit
set_option linter.unusedVariables false
def ints (κ : IntKind) (l : List Int) : Array Value := (l.map (Value.int κ)).toArray
theorem ints_size (κ : IntKind) (l : List Int) : (ints κ l).size = l.length := by simp [ints]
theorem ints_one (κ : IntKind) (l : List Int) : (ints κ l).all (·.oneCell') = true := by
  simp [ints, Value.oneCell']
theorem ints_get (κ : IntKind) (l : List Int) (k : Nat) (h : k < l.length) : (ints κ l)[k]? = some (.int κ (l[k]?.getD 0)) := by
  simp [ints, h]
theorem ints_set (κ : IntKind) (l : List Int) (k : Nat) (n : Int) : (ints κ l).setIfInBounds k (.int κ n) = ints κ (l.set k n) := by
  simp [ints, List.map_set]
/-- The first k numbers are those of new, the others those of old: a row that a loop writes from the left to the right. -/
def upTo (old new : List Int) (k : Nat) : List Int := new.take k ++ old.drop k
theorem upTo_len {old new : List Int} {k : Nat} (hl : old.length = new.length) : (upTo old new k).length = new.length := by
  simp [upTo]; omega
theorem upTo_all {old new : List Int} {n : Nat} (h1 : old.length = n) (h2 : new.length = n) : upTo old new n = new := by
  subst h2
  simp [upTo, List.drop_eq_nil_of_le (show old.length ≤ new.length by omega)]
theorem upTo_zero (old new : List Int) : upTo old new 0 = old := by simp [upTo]
theorem upTo_at {old new : List Int} {k : Nat} (hl : old.length = new.length) (h : k < new.length) : (upTo old new k)[k]?.getD 0 = old[k]?.getD 0 := by
  unfold upTo
  rw [List.getElem?_append_right (by simp; omega)]
  simp [show min k new.length = k by omega]
theorem upTo_get (κ : IntKind) {old new : List Int} {k : Nat} (hl : old.length = new.length) (h : k < new.length) : (ints κ (upTo old new k))[k]? = some (.int κ (old[k]?.getD 0)) := by
  rw [ints_get _ _ _ (by rw [upTo_len hl]; exact h), upTo_at hl h]
theorem upTo_step {old new : List Int} {k : Nat} (hl : old.length = new.length) (h : k < new.length) : (upTo old new k).set k (new[k]?.getD 0) = upTo old new (k + 1) := by
  apply List.ext_getElem?
  intro i
  unfold upTo
  simp only [List.getElem?_set, List.getElem?_append, List.length_append, List.length_take, List.length_drop, List.getElem?_take, List.getElem?_drop]
  by_cases h1 : k = i
  · subst h1
    simp [show min k new.length = k by omega, show min (k + 1) new.length = k + 1 by omega, show k < k + (old.length - k) by omega, h]
  · rw [if_neg h1]
    by_cases h2 : i < k
    · simp [show min k new.length = k by omega, show min (k + 1) new.length = k + 1 by omega, h2, show i < k + 1 by omega]
    · simp [show min k new.length = k by omega, show min (k + 1) new.length = k + 1 by omega, h2, show ¬ i < k + 1 by omega, show k + (i - k) = i by omega, show k + 1 + (i - (k + 1)) = i by omega]
theorem upTo_set (κ : IntKind) {old new : List Int} {k : Nat} {v : Int} (hl : old.length = new.length) (h : k < new.length) (hv : new[k]?.getD 0 = v) : (ints κ (upTo old new k)).setIfInBounds k (.int κ v) = ints κ (upTo old new (k + 1)) := by
  rw [ints_set, ← hv, upTo_step hl h]
/-! Blocks of a world that is written out. -/
theorem heap3_0 (w : World) (A B C : Obj) : (((w.alloc A).alloc B).alloc C).heap[w.heap.size]? = some A := by
  rw [Below.heap_alloc _ _ _ (by simp; omega), Below.heap_alloc _ _ _ (by simp), heap_alloc_last]
theorem heap3_1 (w : World) (A B C : Obj) : (((w.alloc A).alloc B).alloc C).heap[w.heap.size + 1]? = some B := by
  rw [Below.heap_alloc _ _ _ (by simp)]; exact heap_alloc2_new _ _ _
theorem heap3_2 (w : World) (A B C : Obj) : (((w.alloc A).alloc B).alloc C).heap[w.heap.size + 1 + 1]? = some C := by
  have h := heap_alloc_last ((w.alloc A).alloc B) C
  simpa using h
theorem Below.setRow {B : Nat} {a w : World} (h : Below B a w) {g : Nat} (hg : B ≤ g) (cs : Array Value) : Below B a (w.setRow g cs) :=
  h.trans ⟨rfl, rfl, rfl, by simp, fun k hk => setRow_other w g k cs (by omega)⟩
theorem old_block {w1 w2 : World} {X : Obj} (Y : Obj) (hb : Below (w1.alloc X).heap.size (w1.alloc X) w2) : (w2.alloc Y).heap[w1.heap.size]? = some X := by
  have hs := hb.size
  rw [Below.heap_alloc _ _ _ (by simp at hs; omega), hb.block _ (by simp), heap_alloc_last]
theorem below_step {B : Nat} {w w1 w2 : World} {X : Obj} (h1 : Below B w w1) (hB : B ≤ w1.heap.size) (h2 : Below (w1.alloc X).heap.size (w1.alloc X) w2) : Below B w w2 :=
  (h1.alloc hB X).trans (h2.mono (by simp; omega))
theorem range_of_row {w : World} {b : Nat} {κ : IntKind} {l : List Int} {t : TypeId} {fr : Nat × Nat} (h : w.heap[b]? = some (.cells (ints κ l) t fr)) : w.rangeAt b 0 (l.map (Value.int κ)) := fun j v hv => by
  rw [cell_of_row w b (0 + j) _ _ _ h, Nat.zero_add]
  simpa [ints] using hv
theorem rangeAt_below {w w' : World} {b o : Nat} {cs : List Value} (h : w.rangeAt b o cs) (hb : Below w.heap.size w w') : w'.rangeAt b o cs := fun j v hv => by
  have := h j v hv
  rw [hb.cell (World.block_lt_of_cell? w _ this)]; exact this
theorem setCell3_0 (w : World) (c : Array Value) (t : TypeId) (B C : Obj) (q k : Nat) (v : Value) :
    ((((w.alloc (.cells c t)).alloc B).alloc C).drewN q).setCell ⟨w.heap.size, k, none⟩ v = (((w.alloc (.cells (c.setIfInBounds k v) t)).alloc B).alloc C).drewN q := by
  simp only [World.setCell, World.alloc, World.drewN]
  congr 1
  apply Array.ext_getElem?
  intro i
  rw [Array.getElem?_modify]
  by_cases h : w.heap.size = i
  · subst h
    have h1 : ¬ w.heap.size = w.heap.size + 1 := by omega
    have h2 : ¬ w.heap.size = w.heap.size + 1 + 1 := by omega
    simp only [Array.getElem?_push, Array.size_push, if_neg h1, if_neg h2, if_true, Option.map_some]
    rfl
  · have h' : ¬ i = w.heap.size := fun e => h e.symm
    simp [h, h', Array.getElem?_push]
/-! A region whose order is open: what the boxes of the parameters hold is read alike in every world that keeps them. -/
theorem yields_box {P : Program} {ops : Array Oper} {w0 : World} {op : Oper} {a : Act} (hw : Region.wanted op (yielded ops a.tmps) = true) (ty : TypeId) (x : Operand) (ho : op.op = .load ty x)
    (b : Nat) (hx : a.eval x = .pointer (some ⟨b, 0, none⟩)) (cs : Array Value) (t : TypeId) (d : TypeDesc) (hg : w0.heap[b]? = some (.cells cs t (0, 0)))
    (hu : P.underlying ty = some d) (hd : (match d with | .struct _ | .array _ _ => true | _ => false) = true) (hi : (P.info? ty).map (·.size) = some cs.size) :
    YieldsIf P ops (Below w0.heap.size w0) op (.agg cs) a :=
  .inl ⟨hw, fun w hS => by
    have hlt : b < w0.heap.size := (Array.getElem?_eq_some_iff.1 hg).1
    unfold execOp
    simp only [ho, hx, Instr.loadAt, Instr.sureAddr, Sem.run_bind, Sem.run_pure, Result.andThen_ok, run_loadVar_row w b t ty cs (0, 0) d ((hS.block b hlt).trans hg) hu hd hi]⟩
theorem below_call {B : Nat} {w0 w w1 : World} (h : Below B w0 w) (hB : B ≤ w.heap.size) (hb : Below w.heap.size w w1) : Below B w0 w1 := h.trans (hb.mono hB)
theorem keep_block {w w1 : World} {g : Nat} {o : Obj} (hg : w.heap[g]? = some o) (hb : Below w.heap.size w w1) : w1.heap[g]? = some o :=
  (hb.block g (Array.getElem?_eq_some_iff.1 hg).1).trans hg
theorem new_block {w0 w : World} {B : Nat} {A C : Array Value} {t : TypeId} (hz : A = C) (_ : Below B w0 w) : (w.alloc (.cells C t)).heap[w.heap.size]? = some (.cells A t) := by
  rw [hz]; exact heap_alloc_last _ _
/-- An array by value, read at an index. -/
theorem run_index_ints {P : Program} {t e : TypeId} {n : Nat} {κ : IntKind} (ht : P.underlying t = some (.array n e)) (he : P.underlying e = some (.int κ)) (hs : (P.info? e).map (·.size) = some 1) (l : List Int) (hl : l.length = n) (k : Nat) (hk : k < n) (w : World) :
    (Instr.index t (.agg (ints κ l)) (.int .i64 k)).run P w = .ok (.int κ (l[k]?.getD 0)) w := by
  cases hq : P.info? e with
  | none => simp [hq] at hs
  | some i =>
    have hz : i.size = 1 := by simpa [hq] using hs
    have hg := ints_get κ l k (by omega)
    unfold Instr.index
    simp [Sem.run_bind, asIntOf, run_underlying ht w, sizeOf, typeInfo, hq, hz, part, isAgg, run_underlying he w, hg, hk]
theorem owns_below {w w1 : World} {base : Nat} {e : TypeId} {size : Nat} {v : Value} {n : Nat} {xs : List Value} (h : w.ownsRow base e size v n xs) (hb : Below w.heap.size w w1) : w1.ownsRow base e size v n xs := by
  obtain ⟨h1, h2⟩ := h
  refine ⟨h1, ?_⟩
  rcases h2 with h2 | ⟨g, cap, cur, hv, hg, hh, r⟩
  · exact Or.inl h2
  · exact Or.inr ⟨g, cap, cur, hv, hg, keep_block hh hb, r⟩
/-- Two results, the first of them an array that lies in a block. -/
theorem results_cell2_row {P : Program} {fn : Func} {p u : Tmp} {ty : TypeId} (h : fn.results = #[.cell p ty, .tmp u]) (tmps : Array Value) (w : World) (g : Nat) (t : TypeId) (cs : Array Value) (fr : Nat × Nat) (d : TypeDesc)
    (hp : tmps.getD p undef = .pointer (some ⟨g, 0, none⟩)) (hg : w.heap[g]? = some (.cells cs t fr))
    (hu : P.underlying ty = some d) (hd : (match d with | .struct _ | .array _ _ => true | _ => false) = true) (hi : (P.info? ty).map (·.size) = some cs.size) :
    (results fn tmps).run P w = .ok (.tuple #[.agg cs, tmps.getD u undef]) w := by
  rw [results_cell_tmp h, hp]
  simp [asAddr, run_loadVar_row w g t ty cs fr d hg hu hd hi]
theorem setRow2_1 (w : World) (A : Obj) (c c' : Array Value) (t : TypeId) : ((w.alloc A).alloc (.cells c t)).setRow (w.heap.size + 1) c' = (w.alloc A).alloc (.cells c' t) := by
  have := World.setRow_alloc_new (w.alloc A) c c' t
  rwa [World.size_alloc] at this
end Go.Proofs.Ytdoelmjaongjfaa
