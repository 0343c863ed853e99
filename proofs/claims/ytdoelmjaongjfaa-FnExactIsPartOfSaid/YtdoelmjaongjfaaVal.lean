/- Whether entries and lists of entries are valid. Written by wip/gen/val.py. -/
import Derived.Test.YtdoelmjaongjfaaEnt
namespace Go.Proofs.Ytdoelmjaongjfaa
open Go.ChangeShapes Go.WideShapes Go.ChangeAt Go.RowKit
set_option linter.unusedVariables false
set_option linter.unusedSimpArgs false
/-- The order of names. -/
def lss (a b : ByteArray) : Bool := Op.bytesLess a.toList b.toList
theorem lex_iff : ∀ (x y : List UInt8), Op.bytesLess x y = true ↔ x < y
  | _, [] => by simp [Op.bytesLess]
  | [], _ :: _ => by simp [Op.bytesLess]
  | a :: x, b :: y => by simp [Op.bytesLess, lex_iff x y, List.cons_lt_cons_iff]
theorem lex_eq (x y : List UInt8) : Op.bytesLess x y = decide (x < y) := by rw [Bool.eq_iff_iff, lex_iff, decide_eq_true_eq]
theorem lss_iff {a b : ByteArray} : lss a b = true ↔ a.toList < b.toList := lex_iff _ _
theorem leq_not (p c : ByteArray) : (Op.bytesLess c.toList p.toList || c.toList == p.toList) = !lss p c := by
  unfold lss
  rw [lex_eq, lex_eq]
  rcases Std.lt_trichotomy p.toList c.toList with h | h | h
  · have h1 : ¬ c.toList < p.toList := fun h2 => Std.lt_irrefl (Std.lt_trans h h2)
    have h2 : ¬ c.toList = p.toList := fun h2 => Std.lt_irrefl (h2 ▸ h)
    simp [h, h1, h2]
  · simp [h]
  · have h1 : ¬ p.toList < c.toList := fun h2 => Std.lt_irrefl (Std.lt_trans h h2)
    simp [h, h1]
def isNm (s : ByteArray) : Bool := decide (1 ≤ s.size ∧ s.size ≤ 24)
def isVl (s : ByteArray) : Bool := decide (s.size ≤ 64)
def entB (s t : ByteArray) : Bool := isNm s && isVl t
theorem in_yes (a lo hi : Int) (h1 : lo ≤ a) (h2 : a ≤ hi) (w : World) : Calls Try.prog 89 #[.int .i64 a, .int .i64 lo, .int .i64 hi] w fun e w' => e = .returned (.bool true) ∧ w = w' := by
  go_enter Try.func89, Try.ntmps89
  go_wp2
  go_ret
  exact ⟨rfl, rfl⟩
theorem in_no (a lo hi : Int) (h : ¬ (lo ≤ a ∧ a ≤ hi)) (w : World) : Calls Try.prog 89 #[.int .i64 a, .int .i64 lo, .int .i64 hi] w fun e w' => e = .returned (.bool false) ∧ w = w' := by
  by_cases h1 : lo ≤ a
  · have h2 : ¬ a ≤ hi := fun h2 => h ⟨h1, h2⟩
    go_enter Try.func89, Try.ntmps89
    go_wp2
    go_ret
    exact ⟨rfl, rfl⟩
  · go_enter Try.func89, Try.ntmps89
    go_wp2
    go_ret
    exact ⟨rfl, rfl⟩
/-- Entry k is valid, and its name is greater than the one before it. -/
def okAt (es : List ByteArray) (k : Nat) : Prop := entB (tx es (2 * k)) (tx es (2 * k + 1)) = true ∧ (k = 0 ∨ lss (tx es (2 * (k - 1))) (tx es (2 * k)) = true)
instance (es : List ByteArray) (k : Nat) : Decidable (okAt es k) := by unfold okAt; infer_instance
/-- Whether a list of n entries is a map. -/
def okE (es : List ByteArray) (n : Nat) : Prop := n ≤ 64 ∧ ∀ k, k < n → okAt es k
instance (es : List ByteArray) (n : Nat) : Decidable (okE es n) := by unfold okE; infer_instance
end Go.Proofs.Ytdoelmjaongjfaa
