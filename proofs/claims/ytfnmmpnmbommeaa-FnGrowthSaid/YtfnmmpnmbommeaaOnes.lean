/- How many bits are 1. -/
import Derived.Test.YtfnmmpnmbommeaaRow
namespace Go.Proofs.Ytfnmmpnmbommeaa
open Go.ChangeShapes Go.WideShapes Go.ChangeAt Go.RowKit
set_option linter.unusedVariables false
def onesF : Nat → Nat → Nat
  | 0, _ => 0
  | f + 1, n => n % 2 + onesF f (n / 2)
/-- How many bits of a number up to 1023 are 1. -/
def ones (n : Nat) : Nat := onesF 10 n
theorem onesF_zero : ∀ f, onesF f 0 = 0
  | 0 => rfl
  | f + 1 => by simp [onesF, onesF_zero f]
theorem onesF_le : ∀ f n, onesF f n ≤ f
  | 0, _ => Nat.le_refl _
  | f + 1, n => by have := onesF_le f (n / 2); simp only [onesF]; omega
def oc (x : Int) : Int :=
  let y := IntKind.u64.wrap (bits .and .u64 (x / 2) 6148914691236517205 + bits .and .u64 x 6148914691236517205)
  let z := IntKind.u64.wrap (bits .and .u64 (y / 4) 3689348814741910323 + bits .and .u64 y 3689348814741910323)
  let t := bits .and .u64 (IntKind.u64.wrap (z / 16 + z)) 1085102592571150095
  let a := IntKind.u64.wrap (t + t / 256)
  let b := IntKind.u64.wrap (a + a / 65536)
  let c := IntKind.u64.wrap (b + b / 4294967296)
  bits .and .i64 (wrap64 c) 127
theorem oc_tab : ∀ n : Nat, n < 257 → oc (n : Int) = (onesF 10 n : Nat) := by decide +kernel
set_option maxRecDepth 100000 in
set_option maxHeartbeats 1000000 in
theorem ones64 (n : Nat) (h : n ≤ 256) (w : World) : Calls Try.prog 103 #[.int .u64 (n : Int)] w fun e w' => e = .returned (.int .i64 (ones n : Nat)) ∧ w = w' := by
  have c0 : (n : Int) ≤ 256 := by omega
  have H := Lib.hid (oc_tab n (by omega))
  go_enter Try.func103, Try.ntmps103
  go_wp2
  go_ret
  exact ⟨by unfold ones; rw [← H.out]; rfl, rfl⟩
set_option maxHeartbeats 1000000 in
theorem count_peaks (n : Nat) (h : n ≤ 256) (w : World) : Calls Try.prog 64 #[.int .i64 (n : Int)] w fun e w' => e = .returned (.int .i64 (ones n : Nat)) ∧ w = w' := by
  have c0 : (n : Int) ≤ 256 := by omega
  have c1 : (0 : Int) ≤ n := by omega
  have H := Lib.hid (ones64 n h w)
  have hw : IntKind.u64.wrap (n : Int) = n := by rw [IntKind.wrap_u64]; omega
  go_enter Try.func64, Try.ntmps64
  go_wp2_with fail
  refine H.out.mono ?_
  rintro e w1 ⟨rfl, rfl⟩
  go_wp2
  go_ret
  exact ⟨rfl, rfl⟩
set_option maxHeartbeats 1000000 in
theorem ones_spec (n : Nat) (h : n ≤ 256) (w : World) : Calls Try.prog 87 #[.int .i64 (n : Int)] w fun e w' => e = .returned (.int .i64 (ones n : Nat)) ∧ w = w' := by
  go_enter Try.func87, Try.ntmps87
  go_wp2
  go_loop [0, 3] (fun m o => ∃ f m' o' : Nat, f ≤ 10 ∧ m' < 2 ^ f ∧ o' ≤ 10 ∧ m = .int .i64 (m' : Int) ∧ o = .int .i64 (o' : Int) ∧ Hid (o' + onesF f m' = ones n)) (fun m _ => (intOf m).toNat)
  case atStart => exact ⟨10, n, 0, by omega, by omega, by omega, rfl, rfl, Lib.hid (by unfold ones; omega)⟩
  case round =>
    obtain ⟨f, m', o', hf, hm, ho, rfl, rfl, HS⟩ := hrel
    by_cases h0 : 0 < m'
    · have hlt : m' < 1024 := Nat.lt_of_lt_of_le hm (Nat.le_trans (Nat.pow_le_pow_right (by omega) hf) (by omega))
      have Hf : Hid (∃ g, f = g + 1) := Lib.hid (by
        cases f with
        | zero => simp at hm; omega
        | succ g => exact ⟨g, rfl⟩)
      have Ho : Hid (o' + m' % 2 ≤ 10) := Lib.hid (by
        obtain ⟨g, rfl⟩ := Hf.out
        have a := HS.out
        have b := onesF_le 10 n
        simp only [onesF] at a
        unfold ones at a
        omega)
      have HM := Lib.hid hm
      clear hm
      have c1 : (0 : Int) < m' := by omega
      go_wp2
      go_round
      case rel =>
        obtain ⟨g, rfl⟩ := Hf.out
        have a := HS.out
        simp only [onesF] at a
        exact ⟨g, m' / 2, o' + m' % 2, by omega, by have := HM.out; rw [Nat.pow_succ] at this; omega, Ho.out, by go_num, by go_num, Lib.hid (by omega)⟩
      case measure => simp [intOf]; omega
    · have e : m' = 0 := by omega
      subst e
      have hs := HS.out
      rw [onesF_zero] at hs
      have E : Hid (ones n = o') := Lib.hid (by omega)
      clear hs HS hm
      go_wp2
      go_ret
      exact ⟨by rw [E.out]; rfl, rfl⟩
end Go.Proofs.Ytfnmmpnmbommeaa
