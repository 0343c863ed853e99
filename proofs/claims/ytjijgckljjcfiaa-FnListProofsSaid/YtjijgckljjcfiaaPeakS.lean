/- Peaks: which are allowed, and the key to which they lead: the specification. Written by wip/gen/peaks.py. -/
import Derived.Test.YtjijgckljjcfiaaStack
import Derived.Test.YtjijgckljjcfiaaListK
namespace Go.Proofs.Ytjijgckljjcfiaa
open Go.ChangeShapes Go.WideShapes Go.ChangeAt Go.RowKit
set_option linter.unusedVariables false
set_option maxHeartbeats 1000000 in
theorem in_true (c lo hi : Int) (h1 : lo ≤ c) (h2 : c ≤ hi) (w : World) : Calls Try.prog 82 #[.int .i64 c, .int .i64 lo, .int .i64 hi] w fun e w' => e = .returned (.bool true) ∧ w = w' := by
  go_enter Try.func82, Try.ntmps82
  go_wp2
  go_ret
  exact ⟨rfl, rfl⟩
set_option maxHeartbeats 1000000 in
theorem in_false (c lo hi : Int) (h : ¬ (lo ≤ c ∧ c ≤ hi)) (w : World) : Calls Try.prog 82 #[.int .i64 c, .int .i64 lo, .int .i64 hi] w fun e w' => e = .returned (.bool false) ∧ w = w' := by
  by_cases h1 : lo ≤ c
  · have h2 : ¬ c ≤ hi := fun h2 => h ⟨h1, h2⟩
    go_enter Try.func82, Try.ntmps82
    go_wp2
    go_ret
    exact ⟨rfl, rfl⟩
  · go_enter Try.func82, Try.ntmps82
    go_wp2
    go_ret
    exact ⟨rfl, rfl⟩
/-- The code of l peaks of a list of n leaves. -/
def gcode (l : Nat) (n most : Int) : Int := if 256 < l then 3 else if n < 0 ∨ most < n then 2 else if (l : Int) ≠ (ones n.toNat : Nat) then 4 else 0
/-- The key to which the last d + 1 of n peaks lead. -/
def ofR (fl : List Int) (n : Nat) : Nat → List Int
  | 0 => keyAt fl (n - 1)
  | d + 1 => nodeK (keyAt fl (n - 2 - d)) (ofR fl n d)
theorem ofR_good {fl : List Int} {n : Nat} (hl : fl.length = 32 * n) (fb : ∀ z ∈ fl, 0 ≤ z ∧ z ≤ 255) (h0 : 0 < n) : ∀ d, L32 (ofR fl n d)
  | 0 => ⟨keyAt_len hl (by omega), keyAt_range fb _⟩
  | d + 1 => ⟨nodeK_len _ _, nodeK_range _ _⟩
/-- The key of l peaks of n leaves, and the code. -/
def kopE (l : Nat) (n : Int) : Int := gcode l n 256
def kopV (fl : List Int) (l : Nat) (n : Int) : List Int := if gcode l n 256 ≠ 0 then z32 else if n = 0 then hashK 3 [] else ofR fl l (l - 1)
theorem ones_pos : ∀ n : Nat, n < 257 → 0 < n → 0 < onesF 10 n := by decide +kernel
theorem gcode_zero {l : Nat} {n most : Int} (h : gcode l n most = 0) (h1 : most ≤ 256) : l ≤ 256 ∧ 0 ≤ n ∧ n ≤ most ∧ l = ones n.toNat := by
  unfold gcode at h
  split at h
  · omega
  · split at h
    · omega
    · split at h
      · omega
      · rename_i a b c
        refine ⟨by omega, by omega, by omega, ?_⟩
        have : ¬ ((l : Int) ≠ (ones n.toNat : Nat)) := c
        omega
theorem gcode_pos {l : Nat} {n most : Int} (h : gcode l n most = 0) (h1 : most ≤ 256) (h0 : n ≠ 0) : 0 < l := by
  obtain ⟨_, a, b, e⟩ := gcode_zero h h1
  rw [e]
  exact ones_pos n.toNat (by omega) (by omega)
theorem kopV_len {fl : List Int} {l : Nat} {n : Int} (h : fl.length = 32 * l) (fb : ∀ z ∈ fl, 0 ≤ z ∧ z ≤ 255) : (kopV fl l n).length = 32 := by
  unfold kopV
  split
  · rfl
  · rename_i hc
    split
    · exact hashK_len _ _
    · exact (ofR_good h fb (gcode_pos (by simpa using hc) (by omega) (by assumption)) _).1
end Go.Proofs.Ytjijgckljjcfiaa
