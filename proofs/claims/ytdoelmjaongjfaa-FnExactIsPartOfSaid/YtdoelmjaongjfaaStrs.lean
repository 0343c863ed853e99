/- Rows of strings: lists of entries, each a name and a value. -/
import Derived.Test.YtdoelmjaongjfaaBase
import Derived.Deep.Slices
import Derived.Deep.Fields
import Derived.ChangeSame
namespace Go.Proofs.Ytdoelmjaongjfaa
open Go.ChangeShapes Go.WideShapes Go.ChangeAt Go.RowKit Go.Deep
set_option linter.unusedVariables false
def strs (l : List ByteArray) : Array Value := (l.map Value.string).toArray
theorem strs_size (l : List ByteArray) : (strs l).size = l.length := by simp [strs]
theorem strs_one (l : List ByteArray) : (strs l).all (·.oneCell') = true := by simp [strs, Value.oneCell']
/-- Text k of a list, nothing behind its end. -/
def tx (l : List ByteArray) (k : Nat) : ByteArray := l[k]?.getD ByteArray.empty
theorem tx_lt {l : List ByteArray} {k : Nat} (h : k < l.length) : l[k]? = some (tx l k) := by unfold tx; rw [List.getElem?_eq_getElem h]; rfl
theorem tx_mem {l : List ByteArray} {k : Nat} (h : k < l.length) : tx l k ∈ l := by unfold tx; rw [List.getElem?_eq_getElem h]; exact List.getElem_mem h
theorem strs_get (l : List ByteArray) (k : Nat) (h : k < l.length) : (strs l)[k]? = some (.string (tx l k)) := by
  unfold tx; simp [strs, h]
theorem strs_set (l : List ByteArray) (k : Nat) (s : ByteArray) : (strs l).setIfInBounds k (.string s) = strs (l.set k s) := by
  simp [strs, List.map_set]
/-- The first k texts are those of new, the others those of old. -/
def upS (old new : List ByteArray) (k : Nat) : List ByteArray := new.take k ++ old.drop k
theorem upS_len {old new : List ByteArray} {k : Nat} (hl : old.length = new.length) : (upS old new k).length = new.length := by
  simp [upS]; omega
theorem upS_all {old new : List ByteArray} {n : Nat} (h1 : old.length = n) (h2 : new.length = n) : upS old new n = new := by
  subst h2
  simp [upS, List.drop_eq_nil_of_le (show old.length ≤ new.length by omega)]
theorem upS_zero (old new : List ByteArray) : upS old new 0 = old := by simp [upS]
theorem upS_step {old new : List ByteArray} {k : Nat} (hl : old.length = new.length) (h : k < new.length) : (upS old new k).set k (tx new k) = upS old new (k + 1) := by
  unfold tx
  apply List.ext_getElem?
  intro i
  unfold upS
  simp only [List.getElem?_set, List.getElem?_append, List.length_append, List.length_take, List.length_drop, List.getElem?_take, List.getElem?_drop]
  by_cases h1 : k = i
  · subst h1
    simp [show min k new.length = k by omega, show min (k + 1) new.length = k + 1 by omega, show k < k + (old.length - k) by omega, h]
  · rw [if_neg h1]
    by_cases h2 : i < k
    · simp [show min k new.length = k by omega, show min (k + 1) new.length = k + 1 by omega, h2, show i < k + 1 by omega]
    · simp [show min k new.length = k by omega, show min (k + 1) new.length = k + 1 by omega, h2, show ¬ i < k + 1 by omega, show k + (i - k) = i by omega, show k + 1 + (i - (k + 1)) = i by omega]
/-- A slice of n entries that reads as the texts es: name and value by turns. -/
def RdE (w : World) (a : Option Addr) (n : Nat) (es : List ByteArray) : Prop :=
  es.length = 2 * n ∧ (n = 0 ∨ ∃ b off, a = some ⟨b, off, none⟩ ∧ b < w.heap.size ∧ ∀ j, j < 2 * n → w.cell? ⟨b, off + j, none⟩ = some (.string (tx es j)))
theorem RdE.below {w w1 : World} {a : Option Addr} {n : Nat} {es : List ByteArray} (h : RdE w a n es) (hb : Below w.heap.size w w1) : RdE w1 a n es := by
  obtain ⟨h1, h2⟩ := h
  refine ⟨h1, ?_⟩
  rcases h2 with h2 | ⟨b, off, e, hlt, hc⟩
  · exact Or.inl h2
  · exact Or.inr ⟨b, off, e, Nat.lt_of_lt_of_le hlt hb.size, fun j hj => by rw [hb.cell (p := ⟨b, off + j, none⟩) hlt]; exact hc j hj⟩
theorem RdE.row {w : World} {g n : Nat} {es : List ByteArray} {t : TypeId} {fr : Nat × Nat} (hl : es.length = 2 * n) (h : w.heap[g]? = some (.cells (strs es) t fr)) : RdE w (some ⟨g, 0, none⟩) n es :=
  ⟨hl, Or.inr ⟨g, 0, rfl, (Array.getElem?_eq_some_iff.1 h).1, fun j hj => by rw [Nat.zero_add, cell_of_row w g j _ _ _ h, strs_get es j (by omega)]⟩⟩
/-- The two cells of entry k. -/
theorem cells_at {w : World} {b off n : Nat} {es : List ByteArray} (hc : ∀ j, j < 2 * n → w.cell? ⟨b, off + j, none⟩ = some (.string (tx es j))) {k : Nat} (hk : k < n) :
    w.cell? ⟨b, off + k * 2, none⟩ = some (.string (tx es (2 * k))) ∧ w.cell? ⟨b, off + k * 2 + 1, none⟩ = some (.string (tx es (2 * k + 1))) := by
  refine ⟨?_, ?_⟩
  · rw [show off + k * 2 = off + 2 * k by omega]; exact hc _ (by omega)
  · rw [show off + k * 2 + 1 = off + (2 * k + 1) by omega]; exact hc _ (by omega)
theorem RdE.form {w : World} {a : Option Addr} {n : Nat} {es : List ByteArray} (h : RdE w a n es) (h0 : 0 < n) : ∃ b off, a = some ⟨b, off, none⟩ := by
  rcases h.2 with h2 | ⟨b, off, e, _⟩
  · omega
  · exact ⟨b, off, e⟩
theorem RdE.at {w : World} {b off n : Nat} {es : List ByteArray} (h : RdE w (some ⟨b, off, none⟩) n es) {k : Nat} (hk : k < n) :
    w.cell? ⟨b, off + k * 2, none⟩ = some (.string (tx es (2 * k))) ∧ w.cell? ⟨b, off + k * 2 + 1, none⟩ = some (.string (tx es (2 * k + 1))) := by
  rcases h.2 with h2 | ⟨b', off', e, _, hc⟩
  · omega
  · cases e
    exact cells_at hc hk
/-- WHAT THE WALK IS TOLD OF A LIST OF ENTRIES THAT CAME IN. -/
def IsEnts (w : World) (a : Option Addr) (n : Nat) (es : List ByteArray) : Prop := n ≤ maxLen ∧ RdE w a n es ∧ ∀ s ∈ es, s.size ≤ maxLen
def strOf : Value → ByteArray
  | .string s => s
  | _ => ByteArray.empty
theorem open_entries {H : Type} {enc : TypeId × Value → H} {w : World} {t e t1 : TypeId} {f0 f1 : Field} {a : Option Addr} {len cap : Nat} {d : DataW H} {p : List MemPlace}
    (ht : Try.prog.underlying t = some (.slice e)) (he : Try.prog.underlying e = some (.struct #[f0, f1])) (h0 : f0.type = t1) (h1 : f1.type = t1) (hs : Try.prog.underlying t1 = some .string)
    (hone : oneCellFields Try.prog #[f0, f1] = true) (hc : Try.prog.cellsOf e = 2)
    (h : DataW.Trod enc Try.prog w 0 (fun _ => true) true t (.slice a len cap) d p) : ∃ es, IsEnts w a len es := by
  obtain ⟨fuel, hf⟩ := h
  rcases DataW.trod_slice ht hf with ⟨h0, _⟩ | ⟨x, ln, cp, elems, rest, n, _, hcs, _, hb, hl, hm, hlen, hel, _, _⟩
  · simp [Value.cells] at h0
    obtain ⟨rfl, rfl, rfl⟩ := h0
    exact ⟨[], by unfold maxLen; omega, ⟨rfl, .inl rfl⟩, by simp⟩
  · simp [Value.cells] at hcs
    obtain ⟨rfl, rfl, rfl⟩ := hcs
    have each : ∀ i, i < len → ∀ r, r < 2 → ∃ s : ByteArray, w.cell? (x.add (i * 2 + r)) = some (.string s) ∧ s.size ≤ maxLen := by
      intro i hi
      have h2 := hel i hi
      rw [hc, List.getElem?_eq_getElem (by omega), Option.bind_eq_some_iff] at h2
      obtain ⟨cs, hcs, hy⟩ := h2
      obtain ⟨ys, n', hn', hy, hlen, hyl, hfs⟩ := DataW.trod_struct he hy
      obtain ⟨_, hcl, hat⟩ := World.cells?_some hcs
      have hcl2 : cs.length = 2 := hcl
      intro r hr
      have pick : ∀ f : Field, (#[f0, f1] : Array Field)[r]? = some f → f.type = t1 → ∃ s : ByteArray, w.cell? (x.add (i * 2 + r)) = some (.string s) ∧ s.size ≤ maxLen := by
        intro f hj hft
        obtain ⟨ho, hk⟩ := hone_of hone r f hj
        have hx := hfs r f hj
        rw [ho, hk] at hx
        have hone' : (cs.drop r).take 1 = [cs[r]'(by omega)] := by
          rw [List.drop_eq_getElem_cons (by omega)]
          rfl
        rw [hone', hft] at hx
        rw [List.getElem?_eq_getElem (by rw [hyl]; exact hr)] at hx
        obtain ⟨s, e1, _, w1⟩ := DataW.trod_string hs hx
        refine ⟨s, ?_, w1⟩
        have := hat r (by omega)
        rw [← Addr.add_add, this, List.getElem?_eq_getElem (by omega)]
        simpa using e1
      match r, hr with
      | 0, _ => exact pick f0 rfl h0
      | 1, _ => exact pick f1 rfl h1
    let es : List ByteArray := (List.range (2 * len)).map fun j => strOf ((w.cell? (x.add j)).getD undef)
    have hes : es.length = 2 * len := by simp [es]
    have hget : ∀ j, j < 2 * len → w.cell? (x.add j) = some (.string (tx es j)) ∧ (tx es j).size ≤ maxLen := by
      intro j hj
      obtain ⟨s, hcell, hsz⟩ := each (j / 2) (by omega) (j % 2) (by omega)
      rw [show j / 2 * 2 + j % 2 = j by omega] at hcell
      have e : tx es j = s := by
        simp [es, tx, hj, hcell, strOf]
      rw [e, hcell]
      exact ⟨rfl, hsz⟩
    refine ⟨es, by omega, ⟨hes, ?_⟩, fun s hs' => ?_⟩
    · by_cases h0 : len = 0
      · exact .inl h0
      · obtain ⟨b, off, spot⟩ := x
        have hspot : spot = none := by simpa [Addr.add] using World.cell?_spot (hget 0 (by omega)).1
        subst hspot
        refine .inr ⟨b, off, rfl, World.block_lt_of_cell? w (u := .string (tx es 0)) ⟨b, off, none⟩ ?_, fun j hj => ?_⟩
        · have := (hget 0 (by omega)).1
          simpa [Addr.add] using this
        · rw [← Go.WideShapes.add_plain]; exact (hget j hj).1
    · obtain ⟨j, hj, rfl⟩ := List.mem_iff_getElem.1 hs'
      have := (hget j (by omega)).2
      unfold tx at this
      rw [List.getElem?_eq_getElem hj] at this
      exact this
end Go.Proofs.Ytdoelmjaongjfaa
