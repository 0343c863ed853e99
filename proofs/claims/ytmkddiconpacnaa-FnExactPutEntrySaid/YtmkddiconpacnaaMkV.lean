/- What a slice of entries owns, marked. Written by wip/gen/lres.py. -/
import Derived.Test.YtmkddiconpacnaaEntM
import Derived.Test.YtmkddiconpacnaaSel
namespace Go.Proofs.Ytmkddiconpacnaa
open Go.ChangeShapes Go.WideShapes Go.ChangeAt Go.RowKit
set_option linter.unusedVariables false
set_option linter.unusedSimpArgs false
theorem markES0 (a : Option Addr) (cap : Nat) (w : World) : Calls Try.prog 22 #[.slice a 0 cap, .int .i64 1] w fun e w' => e = .returned (.int .i64 1) ∧ w = w' := by
  go_enter Try.func22, Try.ntmps22
  go_wp2
  go_loop [1, 5] (fun m i => i = .int .i64 0 ∧ m = .int .i64 1) (fun _ _ => 0)
  case atStart => exact ⟨rfl, rfl⟩
  case round =>
    obtain ⟨rfl, rfl⟩ := hrel
    go_wp2
    go_ret
    exact ⟨rfl, rfl⟩
/-- What a slice owns, marked. -/
theorem markVE (v : Value) (n base : Nat) (l : List ByteArray) (hn : n ≤ 1048576) (w : World) (ho : w.ownsRow base 31 2 v n (l.map Value.string)) :
    ∃ a cap, v = .slice a n cap ∧ Calls Try.prog 22 #[.slice a n cap, .int .i64 1] w fun e w' => e = .returned (.int .i64 (1 + (2 * n : Nat))) ∧ RdE w' a n (mksL (2 * n)) ∧ Below base w w' := by
  rcases ho.2 with ⟨rfl, rfl⟩ | ⟨g, cap, cur, rfl, hb, hg, hc, hm, hs, ht⟩
  · exact ⟨none, 0, rfl, (markES0 none 0 w).mono fun e w' ⟨he, hw⟩ => ⟨by rw [he]; simp, by rw [← hw]; exact ⟨mksL_len 0, Or.inl rfl⟩, by rw [← hw]; exact Below.refl _ _⟩⟩
  · exact ⟨_, cap, rfl, (markES g n cap cur hn (by rw [hs]; omega) w hg).mono fun e w' ⟨he, hr, hb'⟩ => ⟨he, hr, hb'.1.mono hb⟩⟩
end Go.Proofs.Ytmkddiconpacnaa
