/- Where a chunk ends: both programs. -/
import Derived.Test.YtdamgodfgoackaaRollOf
import Derived.Test.YtdamgodfgoackaaRule
namespace Go.Proofs.Ytdamgodfgoackaa
open Go.ChangeShapes Go.WideShapes Go.ChangeAt Go.RowKit
set_option linter.unusedVariables false
/-- Whether a chunk ends with so many bytes and a rolling value. -/
def endsP (lo mo bi len r : Int) : Bool := len == mo || (decide (lo ≤ len) && bits .and .u32 r ((2 ^ bi.toNat - 1) % 4294967296) == 0)
theorem endsP_yes {len mo : Int} (lo bi r : Int) (h : len = mo) : endsP lo mo bi len r = true := by simp [endsP, h]
theorem endsP_in {len lo : Int} (mo bi r : Int) (h : lo ≤ len) : endsP lo mo bi len r = (len == mo || bits .and .u32 r ((2 ^ bi.toNat - 1) % 4294967296) == 0) := by
  unfold endsP
  rw [decide_eq_true h, Bool.true_and]
theorem endsP_out {len lo : Int} (mo bi r : Int) (h : len < lo) : endsP lo mo bi len r = (len == mo) := by
  unfold endsP
  rw [decide_eq_false (by omega), Bool.false_and, Bool.or_false]
set_option maxRecDepth 100000 in
set_option maxHeartbeats 1000000 in
theorem ends_impl (g : Nat) (lo mo bi len r : Int) (b0 : 0 ≤ bi) (b1 : bi ≤ 8) (w : World) (c0 : w.cell? ⟨g, 0, none⟩ = some (.int .i64 lo)) (c1 : w.cell? ⟨g, 1, none⟩ = some (.int .i64 mo)) (c2 : w.cell? ⟨g, 2, none⟩ = some (.int .i64 bi)) :
    Calls Try.prog 133 #[.pointer (some ⟨g, 0, none⟩), .int .i64 len, .int .u32 r] w fun e w' => e = .returned (.bool (endsP lo mo bi len r)) ∧ w' = w := by
  go_enter Try.func133, Try.ntmps133
  go_wp2
  all_goals go_ret
  all_goals refine ⟨ret_bool' ?_, rfl⟩
  · have hh : len = mo := by assumption
    rw [endsP_yes lo bi r hh]
  · have hh : lo ≤ len := by assumption
    exact endsP_in mo bi r hh
  · have hh : len < lo := by assumption
    exact endsP_out mo bi r hh
set_option maxRecDepth 100000 in
set_option maxHeartbeats 1000000 in
theorem ends_spec (g : Nat) (lo mo bi len r : Int) (b0 : 0 ≤ bi) (b1 : bi ≤ 8) (w : World) (c0 : w.cell? ⟨g, 0, none⟩ = some (.int .i64 lo)) (c1 : w.cell? ⟨g, 1, none⟩ = some (.int .i64 mo)) (c2 : w.cell? ⟨g, 2, none⟩ = some (.int .i64 bi)) :
    Calls Try.prog 138 #[.pointer (some ⟨g, 0, none⟩), .int .i64 len, .int .u32 r] w fun e w' => e = .returned (.bool (endsP lo mo bi len r)) ∧ w' = w := by
  go_enter Try.func138, Try.ntmps138
  go_wp2
  all_goals go_ret
  all_goals refine ⟨ret_bool' ?_, rfl⟩
  · have hh : len = mo := by assumption
    rw [endsP_yes lo bi r hh]
  · have hh : lo ≤ len := by assumption
    exact endsP_in mo bi r hh
  · have hh : len < lo := by assumption
    exact endsP_out mo bi r hh
end Go.Proofs.Ytdamgodfgoackaa
