/- Whether entries and lists of entries are valid. Written by wip/gen/val.py. -/
import Derived.Test.YthehgifanieokaaEnt
namespace Go.Proofs.Ythehgifanieokaa
open Go.ChangeShapes Go.WideShapes Go.ChangeAt Go.RowKit
set_option linter.unusedVariables false
set_option linter.unusedSimpArgs false
/-- The order of names. -/
def lss (a b : ByteArray) : Bool := Op.bytesLess a.toList b.toList
theorem lex_iff : ∀ (x y : List UInt8), Op.bytesLess x y = true ↔ x < y
  | _, [] => by simp [Op.bytesLess]
  | [], _ :: _ => by simp [Op.bytesLess]
  | a :: x, b :: y => by simp [Op.bytesLess, lex_iff x y, List.cons_lt_cons_iff]
theorem lex_eq (x y : List UInt8) : Op.bytesLess x y = decide (x < y) := by rw [Bool.eq_iff_iff, lex_iff, decide_eq_true_eq]
theorem lss_iff {a b : ByteArray} : lss a b = true ↔ a.toList < b.toList := lex_iff _ _
theorem leq_not (p c : ByteArray) : (Op.bytesLess c.toList p.toList || c.toList == p.toList) = !lss p c := by
  unfold lss
  rw [lex_eq, lex_eq]
  rcases Std.lt_trichotomy p.toList c.toList with h | h | h
  · have h1 : ¬ c.toList < p.toList := fun h2 => Std.lt_irrefl (Std.lt_trans h h2)
    have h2 : ¬ c.toList = p.toList := fun h2 => Std.lt_irrefl (h2 ▸ h)
    simp [h, h1, h2]
  · simp [h]
  · have h1 : ¬ p.toList < c.toList := fun h2 => Std.lt_irrefl (Std.lt_trans h h2)
    simp [h, h1]
def isNm (s : ByteArray) : Bool := decide (1 ≤ s.size ∧ s.size ≤ 24)
def isVl (s : ByteArray) : Bool := decide (s.size ≤ 64)
def entB (s t : ByteArray) : Bool := isNm s && isVl t
theorem in_yes (a lo hi : Int) (h1 : lo ≤ a) (h2 : a ≤ hi) (w : World) : Calls Try.prog 144 #[.int .i64 a, .int .i64 lo, .int .i64 hi] w fun e w' => e = .returned (.bool true) ∧ w = w' := by
  go_enter Try.func144, Try.ntmps144
  go_wp2
  go_ret
  exact ⟨rfl, rfl⟩
theorem in_no (a lo hi : Int) (h : ¬ (lo ≤ a ∧ a ≤ hi)) (w : World) : Calls Try.prog 144 #[.int .i64 a, .int .i64 lo, .int .i64 hi] w fun e w' => e = .returned (.bool false) ∧ w = w' := by
  by_cases h1 : lo ≤ a
  · have h2 : ¬ a ≤ hi := fun h2 => h ⟨h1, h2⟩
    go_enter Try.func144, Try.ntmps144
    go_wp2
    go_ret
    exact ⟨rfl, rfl⟩
  · go_enter Try.func144, Try.ntmps144
    go_wp2
    go_ret
    exact ⟨rfl, rfl⟩
theorem name_spec (s : ByteArray) (hs : s.size ≤ maxLen) (w : World) : Calls Try.prog 135 #[.string s] w fun e w' => e = .returned (.bool (isNm s)) ∧ w = w' := by
  unfold maxLen at hs
  unfold isNm
  have s0 : (0 : Int) ≤ (s.size : Int) := by omega
  by_cases h : 1 ≤ s.size ∧ s.size ≤ 24
  · have Hn := Lib.hid (fun U => in_yes (s.size : Int) 1 24 (by omega) (by omega) U)
    rw [decide_eq_true h]
    go_enter Try.func135, Try.ntmps135
    go_wp2_with fail
    refine (Hn.out _).mono ?_
    rintro e w1 ⟨rfl, rfl⟩
    go_wp2
    go_ret
    exact ⟨rfl, rfl⟩
  · have Hn := Lib.hid (fun U => in_no (s.size : Int) 1 24 (by omega) U)
    rw [decide_eq_false h]
    go_enter Try.func135, Try.ntmps135
    go_wp2_with fail
    refine (Hn.out _).mono ?_
    rintro e w1 ⟨rfl, rfl⟩
    go_wp2
    go_ret
    exact ⟨rfl, rfl⟩
theorem name_impl (s : ByteArray) (hs : s.size ≤ maxLen) (w : World) : Calls Try.prog 145 #[.string s] w fun e w' => e = .returned (.bool (isNm s)) ∧ w = w' := by
  unfold maxLen at hs
  unfold isNm
  have s0 : (0 : Int) ≤ (s.size : Int) := by omega
  by_cases h1 : 1 ≤ s.size
  · have k1 : (1 : Int) ≤ (s.size : Int) := by omega
    by_cases h2 : s.size ≤ 24
    · have k2 : (s.size : Int) ≤ 24 := by omega
      rw [decide_eq_true ⟨h1, h2⟩]
      go_enter Try.func145, Try.ntmps145
      go_wp2
      go_ret
      exact ⟨rfl, rfl⟩
    · have k2 : ¬ (s.size : Int) ≤ 24 := by omega
      rw [decide_eq_false (fun h => h2 h.2)]
      go_enter Try.func145, Try.ntmps145
      go_wp2
      go_ret
      exact ⟨rfl, rfl⟩
  · have k1 : ¬ (1 : Int) ≤ (s.size : Int) := by omega
    rw [decide_eq_false (fun h => h1 h.1)]
    go_enter Try.func145, Try.ntmps145
    go_wp2
    go_ret
    exact ⟨rfl, rfl⟩
theorem value_impl (s : ByteArray) (hs : s.size ≤ maxLen) (w : World) : Calls Try.prog 146 #[.string s] w fun e w' => e = .returned (.bool (isVl s)) ∧ w = w' := by
  unfold maxLen at hs
  unfold isVl
  by_cases h2 : s.size ≤ 64
  · have k2 : (s.size : Int) ≤ 64 := by omega
    rw [decide_eq_true h2]
    go_enter Try.func146, Try.ntmps146
    go_wp2
    go_ret
    exact ⟨rfl, rfl⟩
  · have k2 : ¬ (s.size : Int) ≤ 64 := by omega
    rw [decide_eq_false h2]
    go_enter Try.func146, Try.ntmps146
    go_wp2
    go_ret
    exact ⟨rfl, rfl⟩
theorem entry_impl (s t : ByteArray) (hs : s.size ≤ maxLen) (ht : t.size ≤ maxLen) (w : World) : Calls Try.prog 136 #[.agg #[.string s, .string t]] w fun e w' => e = .returned (.bool (entB s t)) ∧ Below w.heap.size w w' := by
  unfold entB
  have Hn := Lib.hid (fun U => name_impl s hs U)
  have Hv := Lib.hid (fun U => value_impl t ht U)
  cases h1 : isNm s with
  | true =>
    rw [h1] at Hn
    rw [Bool.true_and]
    generalize isVl t = bv at Hv ⊢
    clear hs ht h1
    go_enter Try.func136, Try.ntmps136
    go_wp2_with fail
    refine (Hn.out _).mono ?_
    rintro e w1 ⟨rfl, rfl⟩
    go_wp2_with fail
    refine (Hv.out _).mono ?_
    rintro e w1 ⟨rfl, rfl⟩
    go_wp2
    go_ret
    exact ⟨rfl, (Below.refl _ _).alloc (Nat.le_refl _) _⟩
  | false =>
    rw [h1] at Hn
    rw [Bool.false_and]
    clear hs ht h1
    go_enter Try.func136, Try.ntmps136
    go_wp2_with fail
    refine (Hn.out _).mono ?_
    rintro e w1 ⟨rfl, rfl⟩
    go_wp2
    go_ret
    exact ⟨rfl, (Below.refl _ _).alloc (Nat.le_refl _) _⟩
theorem entry_spec (b o : Nat) (s t : ByteArray) (hs : s.size ≤ maxLen) (ht : t.size ≤ maxLen) (w : World) (c0 : w.cell? ⟨b, o, none⟩ = some (.string s)) (c1 : w.cell? ⟨b, o + 1, none⟩ = some (.string t)) :
    Calls Try.prog 119 #[.pointer (some ⟨b, o, none⟩)] w fun e w' => e = .returned (.bool (entB s t)) ∧ w = w' := by
  unfold entB
  have Hn := Lib.hid (fun U => name_spec s hs U)
  unfold maxLen at ht
  cases h1 : isNm s with
  | true =>
    rw [h1] at Hn
    rw [Bool.true_and]
    unfold isVl
    clear hs h1
    by_cases h2 : t.size ≤ 64
    · have k2 : (t.size : Int) ≤ 64 := by omega
      rw [decide_eq_true h2]
      go_enter Try.func119, Try.ntmps119
      go_wp2_with fail
      refine (Hn.out _).mono ?_
      rintro e w1 ⟨rfl, rfl⟩
      go_wp2
      go_ret
      exact ⟨rfl, rfl⟩
    · have k2 : decide ((t.size : Int) ≤ 64) = false := decide_eq_false (by omega)
      rw [decide_eq_false h2]
      go_enter Try.func119, Try.ntmps119
      go_wp2_with fail
      refine (Hn.out _).mono ?_
      rintro e w1 ⟨rfl, rfl⟩
      go_wp2
      go_ret
      exact ⟨rfl, rfl⟩
  | false =>
    rw [h1] at Hn
    rw [Bool.false_and]
    clear hs ht h1
    go_enter Try.func119, Try.ntmps119
    go_wp2_with fail
    refine (Hn.out _).mono ?_
    rintro e w1 ⟨rfl, rfl⟩
    go_wp2
    go_ret
    exact ⟨rfl, rfl⟩
/-- Entry k is valid, and its name is greater than the one before it. -/
def okAt (es : List ByteArray) (k : Nat) : Prop := entB (tx es (2 * k)) (tx es (2 * k + 1)) = true ∧ (k = 0 ∨ lss (tx es (2 * (k - 1))) (tx es (2 * k)) = true)
instance (es : List ByteArray) (k : Nat) : Decidable (okAt es k) := by unfold okAt; infer_instance
/-- Whether a list of n entries is a map. -/
def okE (es : List ByteArray) (n : Nat) : Prop := n ≤ 64 ∧ ∀ k, k < n → okAt es k
instance (es : List ByteArray) (n : Nat) : Decidable (okE es n) := by unfold okE; infer_instance
end Go.Proofs.Ythehgifanieokaa
