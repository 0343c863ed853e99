/- To which key a proof leads: what is reckoned. -/
import Derived.Test.YtjijgckljjcfiaaProofI
namespace Go.Proofs.Ytjijgckljjcfiaa
open Go.ChangeShapes Go.WideShapes Go.ChangeAt Go.RowKit
set_option linter.unusedVariables false
set_option linter.unusedSimpArgs false
/-- The key to which a leaf leads along some turns, told from the top down, pk telling the keys of the proof. -/
def lds (pk : Nat → List Int) (leaf : List Int) : List (Bool × Nat × Nat) → List Int
  | [] => leaf
  | t :: l => if t.1 then nodeK (pk l.length) (lds pk leaf l) else nodeK (lds pk leaf l) (pk l.length)
/-- The keys of both parts of the nodes on the way, the lowest one first. -/
def prs (pk : Nat → List Int) (leaf : List Int) : List (Bool × Nat × Nat) → List Int
  | [] => []
  | t :: l => prs pk leaf l ++ (if t.1 then pk l.length ++ lds pk leaf l else lds pk leaf l ++ pk l.length)
/-- The same key, by halves. -/
def ldN (pk : Nat → List Int) (leaf : List Int) (n i : Nat) : List Int :=
  if h : n ≤ 1 then leaf else if i < half n then nodeK (ldN pk leaf (half n) i) (pk (dN (half n) i)) else nodeK (pk (dN (n - half n) (i - half n))) (ldN pk leaf (n - half n) (i - half n))
termination_by n
decreasing_by
  · exact half_lt (by omega)
  · have := half_pos n; have := half_lt (n := n) (by omega); omega
theorem ldN_one {pk : Nat → List Int} {leaf : List Int} {n i : Nat} (h : n ≤ 1) : ldN pk leaf n i = leaf := by rw [ldN, dif_pos h]
theorem ldN_left {pk : Nat → List Int} {leaf : List Int} {n i : Nat} (h : 1 < n) (h1 : i < half n) : ldN pk leaf n i = nodeK (ldN pk leaf (half n) i) (pk (dN (half n) i)) := by rw [ldN, dif_neg (by omega), if_pos h1]
theorem ldN_right {pk : Nat → List Int} {leaf : List Int} {n i : Nat} (h : 1 < n) (h1 : ¬ i < half n) : ldN pk leaf n i = nodeK (pk (dN (n - half n) (i - half n))) (ldN pk leaf (n - half n) (i - half n)) := by rw [ldN, dif_neg (by omega), if_neg h1]
theorem lds_tns (pk : Nat → List Int) (leaf : List Int) : ∀ n b i, b ≤ i → lds pk leaf (tns b n i) = ldN pk leaf n (i - b) := by
  intro n
  induction n using Nat.strongRecOn with
  | _ n ih =>
    intro b i hb
    by_cases h : n ≤ 1
    · rw [tns_one h, ldN_one h]; rfl
    · have h1 := half_pos n
      have h2 := half_lt (n := n) (by omega)
      by_cases h3 : i < b + half n
      · rw [tns_left (by omega) h3, ldN_left (by omega) (by omega), ← ih _ h2 b i hb, ← tns_dN _ b i hb]
        rfl
      · have e : i - b - half n = i - (b + half n) := by omega
        rw [tns_right (by omega) h3, ldN_right (by omega) (by omega), e, ← ih _ (by omega) (b + half n) i (by omega), ← tns_dN _ (b + half n) i (by omega)]
        rfl
/-- A list that is a key: 32 bytes. -/
def Is32 (l : List Int) : Prop := l.length = 32 ∧ ∀ z ∈ l, 0 ≤ z ∧ z ≤ 255
theorem node32 (a b : List Int) : Is32 (nodeK a b) := ⟨nodeK_len a b, nodeK_range a b⟩
theorem lds32 {pk : Nat → List Int} {leaf : List Int} (hl : Is32 leaf) (l : List (Bool × Nat × Nat)) : Is32 (lds pk leaf l) := by
  cases l with
  | nil => exact hl
  | cons t l => unfold lds; split <;> exact node32 _ _
theorem ldN32 {pk : Nat → List Int} {leaf : List Int} (hl : Is32 leaf) (n i : Nat) : Is32 (ldN pk leaf n i) := by
  have h := lds_tns pk leaf n 0 i (Nat.zero_le _)
  rw [Nat.sub_zero] at h
  rw [← h]
  exact lds32 hl _
theorem prs_len {pk : Nat → List Int} {leaf : List Int} (hl : Is32 leaf) : ∀ (l : List (Bool × Nat × Nat)), (∀ j, j < l.length → (pk j).length = 32) → (prs pk leaf l).length = 64 * l.length
  | [], _ => rfl
  | t :: l, h => by
    have h1 := prs_len hl l (fun j hj => h j (by simp; omega))
    have h2 := h l.length (by simp)
    have h3 := (lds32 (pk := pk) hl l).1
    unfold prs
    rw [List.length_append, h1]
    split <;> (rw [List.length_append, h2, h3]; simp; omega)
end Go.Proofs.Ytjijgckljjcfiaa
