/- The statement on ValidHasher: its walk. -/
import Derived.Test.YtdamgodfgoackaaHasher
namespace Go.Proofs.Ytdamgodfgoackaa
open Go.ChangeShapes Go.WideShapes Go.ChangeAt Go.RowKit
set_option linter.unusedVariables false
theorem sizeHi : (Try.prog.info? 37).map (·.size) = some 10 := by kernel_rfl
theorem sizeHl : (Try.prog.info? 34).map (·.size) = some 10 := by kernel_rfl
def vH (n : Nat) (c : Int) : Bool := decide (0 ≤ c) && decide (c ≤ 1000000000) && ((n : Int) == c % 32)
theorem ret_bool {a b : Bool} (h : b = a) : Ending.returned (.bool a) = .returned (.bool b) := by rw [h]
theorem in_yes (c : Int) (h0 : 0 ≤ c) (h1 : c ≤ 1000000000) (w : World) : Calls Try.prog 113 #[.int .i64 c, .int .i64 0, .int .i64 1000000000] w fun e w' => e = .returned (.bool true) ∧ w' = w := by
  go_enter Try.func113, Try.ntmps113
  go_wp2
  go_ret
  exact ⟨rfl, rfl⟩
theorem in_no (c : Int) (h : c < 0 ∨ 1000000000 < c) (w : World) : Calls Try.prog 113 #[.int .i64 c, .int .i64 0, .int .i64 1000000000] w fun e w' => e = .returned (.bool false) ∧ w' = w := by
  rcases h with h | h
  · have h1 : decide (0 ≤ c) = false := by simp; omega
    go_enter Try.func113, Try.ntmps113
    go_wp2
    go_ret
    exact ⟨rfl, rfl⟩
  · have h1 : 0 ≤ c := by omega
    have h2 : decide (c ≤ 1000000000) = false := by simp; omega
    go_enter Try.func113, Try.ntmps113
    go_wp2
    go_ret
    exact ⟨rfl, rfl⟩
theorem vH_out {n : Nat} {c : Int} (h : c < 0 ∨ 1000000000 < c) : vH n c = false := by
  unfold vH
  rcases h with h | h
  · rw [show decide (0 ≤ c) = false by simp; omega]; rfl
  · rw [show decide (c ≤ 1000000000) = false by simp; omega]; simp
theorem vH_in {n : Nat} {c : Int} (h0 : 0 ≤ c) (h1 : c ≤ 1000000000) : vH n c = ((n : Int) == c % 32) := by
  unfold vH
  simp [h0, h1]
set_option maxRecDepth 100000 in
set_option maxHeartbeats 2000000 in
theorem ok_spec (p : Nat) (a : Option Addr) (n cap : Nat) (c : Int) (hn : n ≤ 1048576) (w : World) (c8 : w.cell? ⟨p, 8, none⟩ = some (.slice a n cap)) (c9 : w.cell? ⟨p, 9, none⟩ = some (.int .i64 c)) :
    Calls Try.prog 72 #[.pointer (some ⟨p, 0, none⟩)] w fun e w' => e = .returned (.bool (vH n c)) ∧ Below w.heap.size w w' := by
  by_cases h : 0 ≤ c ∧ c ≤ 1000000000
  · obtain ⟨h0, h1⟩ := h
    have Hv := Lib.hid (vH_in (n := n) h0 h1)
    go_enter Try.func72, Try.ntmps72
    go_wp2_with fail
    go_quiet ((go_at_call 113; exact Calls.quiet_of_same (in_yes c (by omega) (by omega) _)))
    go_wp2
    go_ret
    exact ⟨ret_bool (by rw [Hv.out]), below_drewN (Below.refl _ _) _⟩
  · have h' : c < 0 ∨ 1000000000 < c := by omega
    have Hv := Lib.hid (vH_out (n := n) h')
    have H' := Lib.hid h'
    clear h h'
    go_enter Try.func72, Try.ntmps72
    go_wp2_with fail
    go_quiet ((go_at_call 113; exact Calls.quiet_of_same (in_no c H'.out _)))
    go_wp2
    go_ret
    exact ⟨ret_bool (by rw [Hv.out]), below_drewN (Below.refl _ _) _⟩
set_option maxRecDepth 100000 in
set_option maxHeartbeats 2000000 in
theorem valid_impl (x0 x1 x2 x3 x4 x5 x6 x7 : Int) (a : Option Addr) (n cap : Nat) (c : Int) (hn : n ≤ 1048576) (w : World) :
    Calls Try.prog 85 #[.agg #[.int .u32 x0, .int .u32 x1, .int .u32 x2, .int .u32 x3, .int .u32 x4, .int .u32 x5, .int .u32 x6, .int .u32 x7, .slice a n cap, .int .i64 c]] w fun e w' => e = .returned (.bool (vH n c)) ∧ Below w.heap.size w w' := by
  by_cases h : 0 ≤ c ∧ c ≤ 1000000000
  · obtain ⟨h0, h1⟩ := h
    have Hv := Lib.hid (vH_in (n := n) h0 h1)
    go_enter Try.func85, Try.ntmps85
    go_wp2
    go_ret
    exact ⟨ret_bool (by rw [Hv.out]), (Below.refl _ _).alloc (by simp) _⟩
  · have h' : c < 0 ∨ 1000000000 < c := by omega
    have Hv := Lib.hid (vH_out (n := n) h')
    clear h
    rcases h' with h' | h'
    · have d1 : decide (0 ≤ c) = false := by simp; omega
      go_enter Try.func85, Try.ntmps85
      go_wp2
      go_ret
      exact ⟨ret_bool (by rw [Hv.out]), (Below.refl _ _).alloc (by simp) _⟩
    · have d0 : 0 ≤ c := by omega
      have d1 : decide (c ≤ 1000000000) = false := by simp; omega
      go_enter Try.func85, Try.ntmps85
      go_wp2
      go_ret
      exact ⟨ret_bool (by rw [Hv.out]), (Below.refl _ _).alloc (by simp) _⟩
end Go.Proofs.Ytdamgodfgoackaa
