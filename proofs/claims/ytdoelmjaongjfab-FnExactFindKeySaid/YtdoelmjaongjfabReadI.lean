/- A key is read from its text: the program's own function. -/
import Derived.Test.YtdoelmjaongjfabRead
namespace Go.Proofs.Ytdoelmjaongjfab
open Go.ChangeShapes Go.WideShapes Go.ChangeAt Go.RowKit
set_option linter.unusedVariables false
set_option maxHeartbeats 2000000 in
theorem digits_no (s : ByteArray) (hm : s.size ≤ maxLen) (hv : ¬ ∀ j, j < s.size → isHx (charI s j) = true) (w : World) :
    Calls Try.prog 64 #[.string s] w fun e w' => e = .returned (.bool false) ∧ w' = w := by
  unfold maxLen at hm
  have Hv := Lib.hid hv
  clear hv
  go_enter Try.func64, Try.ntmps64
  go_wp2
  go_loop [6] (fun i => ∃ k : Nat, k ≤ s.size ∧ i = .int .i64 k ∧ Hid (∀ j, j < k → isHx (charI s j) = true)) (fun i => s.size - (intOf i).toNat)
  case atStart => exact ⟨0, by omega, rfl, Lib.hid (fun j hj => by omega)⟩
  case round =>
    obtain ⟨k, hk, rfl, hp⟩ := hrel
    by_cases hlt : k < s.size
    · have hc := fun W => run_char Try.prog 9 Try.underlying9 s k hlt W
      obtain ⟨c0, c1⟩ := charI_range s k
      have hi := Lib.hid (index_hex (charI s k) c0 c1)
      cases hx : isHx (charI s k)
      · rw [hx] at hi
        clear hx
        generalize charI s k = c at hc c0 c1 hi
        go_wp2_with fail
        refine (Try.strings_IndexByte _ c _).mono ?_
        rw [hi.out.trans (if_neg (by simp))]
        rintro e w' ⟨rfl, rfl⟩
        go_wp2
        go_ret
        exact ⟨rfl, rfl⟩
      · have Hx := Lib.hid hx
        obtain ⟨d0, d1⟩ := hxV_range hx
        rw [hx] at hi
        clear hx
        generalize hcc : charI s k = c at hc c0 c1 hi d0 d1
        clear hcc
        go_wp2_with fail
        refine (Try.strings_IndexByte _ c _).mono ?_
        rw [hi.out.trans (if_pos trivial)]
        rintro e w' ⟨rfl, rfl⟩
        go_wp2
        go_round
        case rel => exact ⟨k + 1, by omega, by go_num, Lib.hid (fun j hj => by
          by_cases h : j = k
          · subst h; exact Hx.out
          · exact hp.out j (by omega))⟩
        case measure => simp [intOf]; omega
    · obtain rfl : k = s.size := by omega
      exact absurd hp.out Hv.out
end Go.Proofs.Ytdoelmjaongjfab
