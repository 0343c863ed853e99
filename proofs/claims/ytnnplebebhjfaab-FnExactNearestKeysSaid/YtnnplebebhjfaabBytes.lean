/- Slices of bytes: copied, compared, marked, looked through (the laws' own helpers). -/
import Derived.Test.YtnnplebebhjfaabBase
import Derived.Deep.OwnRows
namespace Go.Proofs.Ytnnplebebhjfaab
open Go.ChangeShapes Go.WideShapes Go.ChangeAt Go.RowKit
set_option linter.unusedVariables false
theorem infoByte : (Try.prog.info? 5).map (fun i => (i.zero, i.size, i.bytes)) = some (some (.int .u8 0), 1, 1) := by kernel_rfl
theorem made_zero (κ : IntKind) (n : Nat) : madeCells #[.int κ 0] n = ints κ (List.replicate n 0) := by
  apply Array.ext
  · simp [size_madeCells, ints_size]
  · intro i h1 h2
    simp [madeCells, ints, Nat.mod_one]
/-- A slice whose elements read as a list. -/
def Rd (κ : IntKind) (w : World) (a : Option Addr) (len : Nat) (l : List Int) : Prop :=
  l.length = len ∧ (len = 0 ∨ ∃ b off, a = some ⟨b, off, none⟩ ∧ b < w.heap.size ∧ ∀ j, j < len → w.cell? ⟨b, off + j, none⟩ = some (.int κ (l[j]?.getD 0)))
theorem Rd.below {κ : IntKind} {w w1 : World} {a : Option Addr} {len : Nat} {l : List Int} (h : Rd κ w a len l) (hb : Below w.heap.size w w1) : Rd κ w1 a len l := by
  obtain ⟨h1, h2⟩ := h
  refine ⟨h1, ?_⟩
  rcases h2 with h2 | ⟨b, off, e, hlt, hc⟩
  · exact Or.inl h2
  · exact Or.inr ⟨b, off, e, Nat.lt_of_lt_of_le hlt hb.size, fun j hj => by rw [hb.cell (p := ⟨b, off + j, none⟩) hlt]; exact hc j hj⟩
theorem Rd.row {κ : IntKind} {w : World} {g : Nat} {l : List Int} {t : TypeId} {fr : Nat × Nat} (h : w.heap[g]? = some (.cells (ints κ l) t fr)) : Rd κ w (some ⟨g, 0, none⟩) l.length l :=
  ⟨rfl, Or.inr ⟨g, 0, rfl, (Array.getElem?_eq_some_iff.1 h).1, fun j hj => by rw [Nat.zero_add, cell_of_row w g j _ _ _ h, ints_get κ l j hj]⟩⟩
/-- What marking leaves: the numbers from k on, as bytes. -/
def markL (k : Int) (n : Nat) : List Int := (List.range n).map fun (i : Nat) => (k + (i : Int)) % 256
theorem markL_len (k : Int) (n : Nat) : (markL k n).length = n := by simp [markL]
theorem markL_at (k : Int) (n i : Nat) (h : i < n) : (markL k n)[i]?.getD 0 = (k + (i : Int)) % 256 := by simp [markL, h]
theorem setRow_twice (w : World) (g : Nat) (c d : Array Value) : (w.setRow g c).setRow g d = w.setRow g d := by
  simp only [World.setRow]
  congr 1
  apply Array.ext_getElem?
  intro i
  simp only [Array.getElem?_modify]
  split
  · cases w.heap[i]? with
    | none => rfl
    | some o => cases o <;> rfl
  · rfl
theorem setRow_same (w : World) (g : Nat) (c : Array Value) (t : TypeId) (fr : Nat × Nat) (h : w.heap[g]? = some (.cells c t fr)) : w.setRow g c = w := by
  have : (w.setRow g c).heap = w.heap := by
    simp only [World.setRow]
    apply Array.ext_getElem?
    intro i
    rw [Array.getElem?_modify]
    by_cases e : g = i
    · subst e; simp [h]
    · simp [e]
  cases w
  simp only [World.setRow] at this ⊢
  rw [this]
end Go.Proofs.Ytnnplebebhjfaab
