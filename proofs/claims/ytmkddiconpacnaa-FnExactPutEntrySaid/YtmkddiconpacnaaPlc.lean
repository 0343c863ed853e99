/- The place of a name in a map: what is reckoned. Written by wip/gen/get.py. -/
import Derived.Test.YtmkddiconpacnaaValS
import Derived.Test.YtmkddiconpacnaaValI
import Derived.Test.YtmkddiconpacnaaSmE
namespace Go.Proofs.Ytmkddiconpacnaa
open Go.ChangeShapes Go.WideShapes Go.ChangeAt Go.RowKit
set_option linter.unusedVariables false
set_option linter.unusedSimpArgs false
/-- The names of the first n entries. -/
def nmL (es : List ByteArray) (n : Nat) : List ByteArray := (List.range n).map fun k => tx es (2 * k)
theorem nmL_len (es : List ByteArray) (n : Nat) : (nmL es n).length = n := by simp [nmL]
theorem nmL_at {es : List ByteArray} {n k : Nat} (h : k < n) : tx (nmL es n) k = tx es (2 * k) := by simp [tx, nmL, h]
theorem countP_prefix {α : Type} {q : α → Bool} : ∀ (l : List α), (∀ i j (hj : j < l.length) (hi : i ≤ j), q l[j] = true → q (l[i]'(by omega)) = true) → ∀ k (hk : k < l.length), q l[k] = decide (k < l.countP q)
  | [], _, k, hk => by simp at hk
  | x :: l, h, k, hk => by
    have hl : ∀ i j (hj : j < l.length) (hi : i ≤ j), q l[j] = true → q (l[i]'(by omega)) = true := fun i j hj hi hq => h (i + 1) (j + 1) (by simpa using hj) (by omega) (by simpa using hq)
    by_cases hx : q x = true
    · rw [List.countP_cons_of_pos hx]
      cases k with
      | zero => simp [hx]
      | succ k =>
        have := countP_prefix l hl k (by simpa using hk)
        simpa using this
    · have hz : ∀ j (hj : j < l.length), q l[j] = false := fun j hj => by
        cases hq : q l[j] with
        | false => rfl
        | true => exact absurd (h 0 (j + 1) (by simpa using hj) (by omega) (by simpa using hq)) (by simpa using hx)
      have hc : (x :: l).countP q = 0 := by
        rw [List.countP_eq_zero]
        intro y hy
        rcases List.mem_cons.1 hy with rfl | hy
        · exact hx
        · obtain ⟨j, hj, rfl⟩ := List.mem_iff_getElem.1 hy
          simp [hz j hj]
      rw [hc]
      cases k with
      | zero => simpa using hx
      | succ k => simpa using hz k (by simpa using hk)
/-- How many names are less than a name: its place in a map. -/
def plc (es : List ByteArray) (n : Nat) (nm : ByteArray) : Nat := (nmL es n).countP fun y => lss y nm
/-- The names of a list go up. -/
def upE (es : List ByteArray) (n : Nat) : Prop := ∀ k, k < n → k = 0 ∨ lss (tx es (2 * (k - 1))) (tx es (2 * k)) = true
theorem okE.up {es : List ByteArray} {n : Nat} (h : okE es n) : upE es n := fun k hk => (h.2 k hk).2
theorem lss_trans {a b c : ByteArray} (h1 : lss a b = true) (h2 : lss b c = true) : lss a c = true := lss_iff.2 (Std.lt_trans (lss_iff.1 h1) (lss_iff.1 h2))
theorem lss_irr (a : ByteArray) : lss a a = false := by
  cases h : lss a a with
  | false => rfl
  | true => exact absurd (lss_iff.1 h) (Std.lt_irrefl)
theorem upE.lt {es : List ByteArray} {n : Nat} (h : upE es n) : ∀ {i j : Nat}, i < j → j < n → lss (tx es (2 * i)) (tx es (2 * j)) = true := by
  intro i j hij
  induction j with
  | zero => omega
  | succ j ih =>
    intro hj
    have h1 := (h (j + 1) hj).resolve_left (by omega)
    rw [Nat.add_sub_cancel] at h1
    by_cases e : i = j
    · subst e; exact h1
    · exact lss_trans (ih (by omega) (by omega)) h1
theorem plc_at {es : List ByteArray} {n : Nat} (h : upE es n) (nm : ByteArray) {k : Nat} (hk : k < n) : lss (tx es (2 * k)) nm = decide (k < plc es n nm) := by
  have := countP_prefix (q := fun y => lss y nm) (nmL es n) (fun i j hj hi hq => by
    have e : ∀ x (hx : x < (nmL es n).length), (nmL es n)[x] = tx es (2 * x) := fun x hx => by simp [nmL]
    rw [e] at hq ⊢
    rw [nmL_len] at hj
    by_cases e : i = j
    · subst e; exact hq
    · exact lss_trans (h.lt (by omega) hj) hq) k (by rw [nmL_len]; exact hk)
  rw [← show (nmL es n)[k]'(by rw [nmL_len]; exact hk) = tx es (2 * k) by simp [nmL]]
  exact this
theorem plc_le (es : List ByteArray) (n : Nat) (nm : ByteArray) : plc es n nm ≤ n := by
  have := List.countP_le_length (p := fun y => lss y nm) (l := nmL es n)
  rw [nmL_len] at this
  exact this
/-- Whether a name is in a map. -/
def fdE (es : List ByteArray) (n : Nat) (nm : ByteArray) : Bool := decide (plc es n nm < n ∧ tx es (2 * plc es n nm) = nm)
theorem fd_only {es : List ByteArray} {n : Nat} (h : upE es n) {nm : ByteArray} {k : Nat} (hk : k < n) (e : tx es (2 * k) = nm) : k = plc es n nm := by
  have h1 := plc_at h nm hk
  rw [e, lss_irr] at h1
  have h2 : ¬ k < plc es n nm := of_decide_eq_false h1.symm
  by_cases h3 : k = plc es n nm
  · exact h3
  · have h4 := h.lt (i := plc es n nm) (j := k) (by omega) hk
    rw [e, plc_at h nm (by omega)] at h4
    have := of_decide_eq_true h4
    omega
theorem fd_no {es : List ByteArray} {n : Nat} (h : upE es n) {nm : ByteArray} (hf : fdE es n nm = false) {k : Nat} (hk : k < n) : tx es (2 * k) ≠ nm := fun e => by
  have := fd_only h hk e
  subst this
  unfold fdE at hf
  exact of_decide_eq_false hf ⟨hk, e⟩
theorem fd_before {es : List ByteArray} {n : Nat} (h : upE es n) {nm : ByteArray} {k : Nat} (hk : k < n) (hlt : k < plc es n nm) : tx es (2 * k) ≠ nm := fun e => by
  have := fd_only h hk e
  omega
end Go.Proofs.Ytmkddiconpacnaa
