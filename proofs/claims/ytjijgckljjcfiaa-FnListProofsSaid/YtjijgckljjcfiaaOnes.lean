/- How many bits are 1. -/
import Derived.Test.YtjijgckljjcfiaaRow
namespace Go.Proofs.Ytjijgckljjcfiaa
open Go.ChangeShapes Go.WideShapes Go.ChangeAt Go.RowKit
set_option linter.unusedVariables false
def onesF : Nat → Nat → Nat
  | 0, _ => 0
  | f + 1, n => n % 2 + onesF f (n / 2)
/-- How many bits of a number up to 1023 are 1. -/
def ones (n : Nat) : Nat := onesF 10 n
theorem onesF_zero : ∀ f, onesF f 0 = 0
  | 0 => rfl
  | f + 1 => by simp [onesF, onesF_zero f]
theorem onesF_le : ∀ f n, onesF f n ≤ f
  | 0, _ => Nat.le_refl _
  | f + 1, n => by have := onesF_le f (n / 2); simp only [onesF]; omega
def oc (x : Int) : Int :=
  let y := IntKind.u64.wrap (bits .and .u64 (x / 2) 6148914691236517205 + bits .and .u64 x 6148914691236517205)
  let z := IntKind.u64.wrap (bits .and .u64 (y / 4) 3689348814741910323 + bits .and .u64 y 3689348814741910323)
  let t := bits .and .u64 (IntKind.u64.wrap (z / 16 + z)) 1085102592571150095
  let a := IntKind.u64.wrap (t + t / 256)
  let b := IntKind.u64.wrap (a + a / 65536)
  let c := IntKind.u64.wrap (b + b / 4294967296)
  bits .and .i64 (wrap64 c) 127
theorem oc_tab : ∀ n : Nat, n < 257 → oc (n : Int) = (onesF 10 n : Nat) := by decide +kernel
end Go.Proofs.Ytjijgckljjcfiaa
