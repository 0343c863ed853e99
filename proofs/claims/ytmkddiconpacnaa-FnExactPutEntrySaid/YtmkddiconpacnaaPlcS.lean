/- The place of a name in a map, by the specification. Written by wip/gen/get.py. -/
import Derived.Test.YtmkddiconpacnaaPlc
namespace Go.Proofs.Ytmkddiconpacnaa
open Go.ChangeShapes Go.WideShapes Go.ChangeAt Go.RowKit
set_option linter.unusedVariables false
set_option linter.unusedSimpArgs false
set_option maxHeartbeats 4000000 in
theorem find_yes (a : Option Addr) (n cap p : Nat) (es : List ByteArray) (nm : ByteArray) (hn : n ≤ 1048576) (hp : p < n) (he : tx es (2 * p) = nm) (hb : ∀ j, j < p → tx es (2 * j) ≠ nm) (w : World) (hr : RdE w a n es) :
    Calls Try.prog 89 #[.slice a n cap, .string nm] w fun e w' => e = .returned (.int .i64 (p : Int)) ∧ w = w' := by
  have HR := Lib.hid hr
  have HE := Lib.hid he
  have HB := Lib.hid hb
  obtain ⟨b', off, rfl⟩ := hr.form (by omega)
  clear hr he hb
  go_enter Try.func89, Try.ntmps89
  go_wp2_with fail
  go_loopw [5] (fun i wr => ∃ k : Nat, k ≤ p ∧ i = .int .i64 k ∧ w = wr) (fun i _ => n - (intOf i).toNat)
  case atStart => exact ⟨0, by omega, rfl, rfl⟩
  case round =>
    obtain ⟨k, hk, rfl, rfl⟩ := hrel
    have b0 : (0 : Int) ≤ (k : Int) := by omega
    have b1 : (k : Int) < (n : Int) := by omega
    obtain ⟨c0, c1⟩ := HR.out.at (show k < n by omega)
    by_cases hlt : k < p
    · have hq : ((tx es (2 * k)).toList == nm.toList) = false := beq_eq_false_iff_ne.2 (fun h => HB.out k hlt (toList_inj h))
      generalize tx es (2 * k) = nm2 at c0 hq
      go_wp2_with fail
      go_roundw
      case rel => exact ⟨k + 1, by omega, by go_num, trivial⟩
      case measure => simp [intOf]; omega
    · obtain rfl : k = p := by omega
      rw [HE.out] at c0
      go_wp2
      go_ret
      exact ⟨rfl, rfl⟩
set_option maxHeartbeats 4000000 in
theorem find_no (a : Option Addr) (n cap : Nat) (es : List ByteArray) (nm : ByteArray) (hn : n ≤ 1048576) (hb : ∀ j, j < n → tx es (2 * j) ≠ nm) (w : World) (hr : RdE w a n es) :
    Calls Try.prog 89 #[.slice a n cap, .string nm] w fun e w' => e = .returned (.int .i64 (-1)) ∧ w = w' := by
  have HR := Lib.hid hr
  have HB := Lib.hid hb
  clear hr hb
  go_enter Try.func89, Try.ntmps89
  go_wp2_with fail
  go_loopw [5] (fun i wr => ∃ k : Nat, k ≤ n ∧ i = .int .i64 k ∧ w = wr) (fun i _ => n - (intOf i).toNat)
  case atStart => exact ⟨0, by omega, rfl, rfl⟩
  case round =>
    obtain ⟨k, hk, rfl, rfl⟩ := hrel
    have b0 : (0 : Int) ≤ (k : Int) := by omega
    by_cases hlt : k < n
    · have b1 : (k : Int) < (n : Int) := by omega
      obtain ⟨b', off, rfl⟩ := HR.out.form (by omega)
      obtain ⟨c0, c1⟩ := HR.out.at hlt
      have hq : ((tx es (2 * k)).toList == nm.toList) = false := beq_eq_false_iff_ne.2 (fun h => HB.out k hlt (toList_inj h))
      generalize tx es (2 * k) = nm2 at c0 hq
      go_wp2_with fail
      go_roundw
      case rel => exact ⟨k + 1, by omega, by go_num, trivial⟩
      case measure => simp [intOf]; omega
    · obtain rfl : k = n := by omega
      go_wp2
      go_ret
      exact ⟨rfl, rfl⟩
end Go.Proofs.Ytmkddiconpacnaa
