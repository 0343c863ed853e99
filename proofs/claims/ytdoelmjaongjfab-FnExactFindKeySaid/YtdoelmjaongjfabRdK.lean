/- Rows of arrays of 32 bytes, read as one list of bytes. -/
import Derived.Test.YtdoelmjaongjfabRow
import Derived.Test.YtdoelmjaongjfabRd
namespace Go.Proofs.Ytdoelmjaongjfab
open Go.ChangeShapes Go.WideShapes Go.ChangeAt Go.RowKit
set_option linter.unusedVariables false
/-- A list of keys lies as one list of its bytes; key i of it. -/
def keyAt (fl : List Int) (i : Nat) : List Int := (fl.drop (32 * i)).take 32
theorem keyAt_len {fl : List Int} {n i : Nat} (hl : fl.length = 32 * n) (hi : i < n) : (keyAt fl i).length = 32 := by
  simp [keyAt]; omega
theorem keyAt_get (fl : List Int) (i j : Nat) (hj : j < 32) : (keyAt fl i)[j]? = fl[32 * i + j]? := by
  simp [keyAt, hj]
theorem keyAt_range {fl : List Int} (fb : ∀ z ∈ fl, 0 ≤ z ∧ z ≤ 255) (i : Nat) : ∀ z ∈ keyAt fl i, 0 ≤ z ∧ z ≤ 255 := fun z hz => fb z (List.mem_of_mem_drop (List.mem_of_mem_take hz))
/-- A slice of n keys that reads as the bytes fl. -/
def RdK (w : World) (a : Option Addr) (n : Nat) (fl : List Int) : Prop :=
  fl.length = 32 * n ∧ (n = 0 ∨ ∃ b off, a = some ⟨b, off, none⟩ ∧ b < w.heap.size ∧ ∀ j, j < 32 * n → w.cell? ⟨b, off + j, none⟩ = some (.int .u8 (fl[j]?.getD 0)))
theorem RdK.below {w w1 : World} {a : Option Addr} {n : Nat} {fl : List Int} (h : RdK w a n fl) (hb : Below w.heap.size w w1) : RdK w1 a n fl := by
  obtain ⟨h1, h2⟩ := h
  refine ⟨h1, ?_⟩
  rcases h2 with h2 | ⟨b, off, e, hlt, hc⟩
  · exact Or.inl h2
  · exact Or.inr ⟨b, off, e, Nat.lt_of_lt_of_le hlt hb.size, fun j hj => by rw [hb.cell (p := ⟨b, off + j, none⟩) hlt]; exact hc j hj⟩
theorem RdK.row {w : World} {g n : Nat} {fl : List Int} {t : TypeId} {fr : Nat × Nat} (hl : fl.length = 32 * n) (h : w.heap[g]? = some (.cells (ints .u8 fl) t fr)) : RdK w (some ⟨g, 0, none⟩) n fl :=
  ⟨hl, Or.inr ⟨g, 0, rfl, (Array.getElem?_eq_some_iff.1 h).1, fun j hj => by rw [Nat.zero_add, cell_of_row w g j _ _ _ h, ints_get .u8 fl j (by omega)]⟩⟩
theorem keyAt_rangeAt {w : World} {b off n : Nat} {fl : List Int} (hl : fl.length = 32 * n) (hc : ∀ j, j < 32 * n → w.cell? ⟨b, off + j, none⟩ = some (.int .u8 (fl[j]?.getD 0))) (i : Nat) (hi : i < n) :
    w.rangeAt b (off + i * 32) ((keyAt fl i).map (Value.int .u8)) := fun j v hv => by
  have hj : j < 32 := by
    have := (List.getElem?_eq_some_iff.1 hv).1
    rw [List.length_map, keyAt_len hl hi] at this
    exact this
  rw [List.getElem?_map, keyAt_get fl i j hj, List.getElem?_eq_getElem (by omega)] at hv
  rw [show off + i * 32 + j = off + (32 * i + j) by omega, hc _ (by omega), List.getElem?_eq_getElem (by omega)]
  exact hv
/-- A row of numbers into which a row is stored from a place on. -/
def setsL (cur : List Int) (o : Nat) : List Int → List Int
  | [] => cur
  | v :: r => setsL (cur.set o v) (o + 1) r
theorem heap_setCells_ints {κ : IntKind} {g : Nat} {t : TypeId} : ∀ (vs : List Int) (o : Nat) (w : World) (cur : List Int), w.heap[g]? = some (.cells (ints κ cur) t) →
    (w.setCells g o (vs.map (Value.int κ))).heap[g]? = some (.cells (ints κ (setsL cur o vs)) t)
  | [], _, _, _, h => h
  | v :: r, o, w, cur, h => heap_setCells_ints r (o + 1) (w.setCell ⟨g, o, none⟩ (.int κ v)) (cur.set o v) (by rw [heap_setCell_same _ _ _ _ _ _ h, ints_set])
theorem heap_setCells_far {g g' : Nat} (hne : g' ≠ g) : ∀ (vs : List Value) (o : Nat) (w : World), (w.setCells g o vs).heap[g']? = w.heap[g']?
  | [], _, _ => rfl
  | v :: r, o, w => by
    show ((w.setCell ⟨g, o, none⟩ v).setCells g (o + 1) r).heap[g']? = _
    rw [heap_setCells_far hne r (o + 1), heap_setCell_other _ _ _ _ hne]
theorem below_setCells_k {B g : Nat} {a : World} (hg : B ≤ g) : ∀ (vs : List Value) (o : Nat) (w : World), Below B a w → Below B a (w.setCells g o vs)
  | [], _, _, h => h
  | v :: r, o, w, h => below_setCells_k hg r (o + 1) _ (h.setCell hg v)
theorem sets_upTo {old new : List Int} (hl : old.length = new.length) : ∀ (m k : Nat), k + m ≤ new.length → setsL (upTo old new k) k ((new.drop k).take m) = upTo old new (k + m)
  | 0, k, _ => by simp [setsL]
  | m + 1, k, h => by
    have e : (new.drop k).take (m + 1) = new[k]'(by omega) :: (new.drop (k + 1)).take m := by
      rw [List.drop_eq_getElem_cons (by omega), List.take_succ_cons]
    rw [e]
    show setsL ((upTo old new k).set k (new[k]'(by omega))) (k + 1) _ = _
    have hs := upTo_step (k := k) hl (by omega)
    rw [List.getElem?_eq_getElem (by omega)] at hs
    simp only [Option.getD_some] at hs
    rw [hs, sets_upTo hl m (k + 1) (by omega), show k + 1 + m = k + (m + 1) by omega]
theorem sets_key {old fl : List Int} {n k : Nat} (ho : old.length = fl.length) (hl : fl.length = 32 * n) (hk : k < n) : setsL (upTo old fl (32 * k)) (32 * k) (keyAt fl k) = upTo old fl (32 * (k + 1)) := by
  unfold keyAt
  rw [sets_upTo ho 32 (32 * k) (by omega), show 32 * k + 32 = 32 * (k + 1) by omega]
theorem wpList_load_ints {P : Program} {ops : Array Oper} {rest : List Oper} {op : Oper} {a : Act} {w : World} {Q : Exit → Act → World → Prop} (hgd : op.guard = none) (ty : TypeId) (x : Operand) (ho : op.op = .load ty x)
    (b o : Nat) (hx : a.eval x = .pointer (some ⟨b, o, none⟩)) (κ : IntKind) (l : List Int) (d : TypeDesc) (hc : w.rangeAt b o (l.map (Value.int κ)))
    (hu : P.underlying ty = some d) (hd : d.isRow = true) (hi : (P.info? ty).map (·.size) = some l.length)
    (h : wpList P ops Q rest (a.put op.dst (.agg (ints κ l))) w) : wpList P ops Q (op :: rest) a w :=
  wpList_load_mid hgd ty x ho b o hx (l.map (Value.int κ)) d hc hu hd (by rw [List.length_map]; exact hi) h
theorem wpList_store_ints {P : Program} {ops : Array Oper} {rest : List Oper} {op : Oper} {a : Act} {w : World} {Q : Exit → Act → World → Prop} (hgd : op.guard = none) (ty : TypeId) (x y : Operand) (ho : op.op = .store ty x y)
    (b o : Nat) (κ : IntKind) (l : List Int) (hx : a.eval x = .pointer (some ⟨b, o, none⟩)) (hy : a.eval y = .agg (ints κ l))
    (ht : w.there b o l.length) (hi : (P.info? ty).map (·.size) = some l.length)
    (h : wpList P ops Q rest (a.put op.dst undef) (w.setCells b o (l.map (Value.int κ)))) : wpList P ops Q (op :: rest) a w :=
  wpList_store_mid hgd ty x y ho b o (ints κ l) hx hy (by rw [ints_size]; exact ht) (by rw [ints_size]; exact hi) (ints_one κ l) h
theorem there_row {w : World} {g o m : Nat} {κ : IntKind} {l : List Int} {t : TypeId} (h : w.heap[g]? = some (.cells (ints κ l) t)) (hl : o + m ≤ l.length) : w.there g o m := fun j hj => by
  constructor
  · rw [cell_of_row w g (o + j) _ _ _ h, ints_get κ l _ (by omega)]; rfl
  · exact frozen_of_row w g (o + j) _ _ h
end Go.Proofs.Ytdoelmjaongjfab
