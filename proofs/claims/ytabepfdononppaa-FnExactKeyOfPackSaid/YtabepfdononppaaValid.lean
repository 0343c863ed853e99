/- The statement on ValidHasher: its walk. -/
import Derived.Test.YtabepfdononppaaHasher
namespace Go.Proofs.Ytabepfdononppaa
open Go.ChangeShapes Go.WideShapes Go.ChangeAt Go.RowKit
set_option linter.unusedVariables false
theorem sizeHi : (Try.prog.info? 134).map (·.size) = some 10 := by kernel_rfl
def vH (n : Nat) (c : Int) : Bool := decide (0 ≤ c) && decide (c ≤ 1000000000) && ((n : Int) == c % 32)
theorem ret_bool {a b : Bool} (h : b = a) : Ending.returned (.bool a) = .returned (.bool b) := by rw [h]
theorem in_yes (c : Int) (h0 : 0 ≤ c) (h1 : c ≤ 1000000000) (w : World) : Calls Try.prog 88 #[.int .i64 c, .int .i64 0, .int .i64 1000000000] w fun e w' => e = .returned (.bool true) ∧ w' = w := by
  go_enter Try.func88, Try.ntmps88
  go_wp2
  go_ret
  exact ⟨rfl, rfl⟩
theorem in_no (c : Int) (h : c < 0 ∨ 1000000000 < c) (w : World) : Calls Try.prog 88 #[.int .i64 c, .int .i64 0, .int .i64 1000000000] w fun e w' => e = .returned (.bool false) ∧ w' = w := by
  rcases h with h | h
  · have h1 : decide (0 ≤ c) = false := by simp; omega
    go_enter Try.func88, Try.ntmps88
    go_wp2
    go_ret
    exact ⟨rfl, rfl⟩
  · have h1 : 0 ≤ c := by omega
    have h2 : decide (c ≤ 1000000000) = false := by simp; omega
    go_enter Try.func88, Try.ntmps88
    go_wp2
    go_ret
    exact ⟨rfl, rfl⟩
theorem vH_out {n : Nat} {c : Int} (h : c < 0 ∨ 1000000000 < c) : vH n c = false := by
  unfold vH
  rcases h with h | h
  · rw [show decide (0 ≤ c) = false by simp; omega]; rfl
  · rw [show decide (c ≤ 1000000000) = false by simp; omega]; simp
theorem vH_in {n : Nat} {c : Int} (h0 : 0 ≤ c) (h1 : c ≤ 1000000000) : vH n c = ((n : Int) == c % 32) := by
  unfold vH
  simp [h0, h1]
end Go.Proofs.Ytabepfdononppaa
