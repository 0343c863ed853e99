/- The statement on ValidEntries: its walk. Written by wip/gen/vel.py. -/
import Derived.Test.YtojfojkfopplnabValS
import Derived.Test.YtojfojkfopplnabValI
namespace Go.Proofs.Ytojfojkfopplnab
open Go.ChangeShapes Go.WideShapes Go.ChangeAt Go.RowKit
set_option linter.unusedVariables false
set_option linter.unusedSimpArgs false
theorem ok_spec0 (a : Option Addr) (n cap : Nat) (es : List ByteArray) (hn : n ≤ 1048576) (hm : ∀ s ∈ es, s.size ≤ maxLen) (w : World) (hr : RdE w a n es) :
    Calls Try.prog 20 #[.slice a n cap] w fun e w' => e = .returned (.bool (decide (okE es n))) ∧ Below w.heap.size w w' := by
  have H := Lib.hid (fun U (hU : RdE U a n es) => ok_spec a n cap es hn hm U hU)
  go_enter Try.func20, Try.ntmps20
  go_wp2_with fail
  refine (H.out _ hr).mono ?_
  rintro e w1 ⟨rfl, hb⟩
  have HB := Lib.hid hb
  clear hb
  go_wp2_with fail
  go_ret
  exact ⟨rfl, HB.out⟩
set_option maxRecDepth 100000 in
set_option maxHeartbeats 2000000 in
theorem ves_in (a : Option Addr) (n cap : Nat) (es : List ByteArray) (hm : ∀ s ∈ es, s.size ≤ maxLen) (h : n + sumS es ≤ 1048576) (w : World) (hr : RdE w a n es) :
    Calls Try.prog 4 #[.slice a n cap] w fun e w' => e = .returned (.bool true) ∧ Below w.heap.size w w' := by
  have HR := Lib.hid hr
  have HL := Lib.hid hr.1
  have Hs := Lib.hid (fun (b : Option Addr) (W : World) hW => ok_spec0 b n n es (by omega) hm W hW)
  have Hi := Lib.hid (fun (b : Option Addr) (W : World) hW => ok_impl b n n es (by omega) hm W hW)
  generalize decide (okE es n) = V at Hs Hi
  have q0 : ¬ (1048576 : Int) - (n : Int) - (sumS es : Int) < 0 := by omega
  clear hr
  go_enter Try.func4, Try.ntmps4
  have B0 := Lib.hid (Below.refl w.heap.size w)
  go_wp2_with fail
  refine (szES_in a n cap es 1048576 (by omega) (by omega) hm (by omega) _ HR.out).mono ?_
  rintro e w1 ⟨rfl, hb⟩
  have B1 := Lib.hid (below_call B0.out B0.out.size hb)
  clear hb
  go_wp2_with fail
  refine (toES a n cap es (by omega) _ (HR.out.below B1.out)).mono ?_
  rintro e w2 ⟨rfl, hg, hb⟩
  have B2 := Lib.hid (below_call B1.out B1.out.size hb)
  have X2 := Lib.hid hg
  clear hg
  clear hb
  go_wp2_with fail
  refine (Hs.out _ _ (RdE.row HL.out X2.out)).mono ?_
  rintro e w3 ⟨rfl, hb⟩
  have B3 := Lib.hid (below_call B2.out B2.out.size hb)
  clear hb
  go_wp2_with fail
  refine (toES a n cap es (by omega) _ (HR.out.below B3.out)).mono ?_
  rintro e w4 ⟨rfl, hg, hb⟩
  have B4 := Lib.hid (below_call B3.out B3.out.size hb)
  have Y4 := Lib.hid hg
  clear hg
  clear hb
  generalize w3.heap.size = g4 at Y4 ⊢
  go_wp2_with fail
  refine (Hi.out _ _ (RdE.row HL.out Y4.out)).mono ?_
  rintro e w5 ⟨rfl, hb⟩
  have B5 := Lib.hid (below_call B4.out B4.out.size hb)
  have Y5 := Lib.hid (keep_block Y4.out hb)
  clear hb
  go_wp2_with fail
  refine (toES a n cap es (by omega) _ (HR.out.below B5.out)).mono ?_
  rintro e w6 ⟨rfl, hg, hb⟩
  have B6 := Lib.hid (below_call B5.out B5.out.size hb)
  have Y6 := Lib.hid (keep_block Y5.out hb)
  have Z6 := Lib.hid hg
  clear hg
  clear hb
  go_wp2_with fail
  refine (eqES _ _ n n n es (by omega) _ (RdE.row HL.out Y6.out) (RdE.row HL.out Z6.out)).mono ?_
  rintro e w7 ⟨rfl, hb⟩
  have B7 := Lib.hid (below_call B6.out B6.out.size hb)
  clear hb
  go_wp2
  go_ret
  exact ⟨rfl, B7.out⟩
set_option maxRecDepth 100000 in
set_option maxHeartbeats 2000000 in
theorem ves_out (a : Option Addr) (n cap : Nat) (es : List ByteArray) (hn : n ≤ maxLen) (hm : ∀ s ∈ es, s.size ≤ maxLen) (h : ¬ n + sumS es ≤ 1048576) (w : World) (hr : RdE w a n es) :
    Calls Try.prog 4 #[.slice a n cap] w fun e w' => e = .returned (.bool true) ∧ Below w.heap.size w w' := by
  have HR := Lib.hid hr
  clear hr
  go_enter Try.func4, Try.ntmps4
  go_wp2_with fail
  refine (szES_out a n cap es 1048576 (by omega) (by omega) hn hm (by omega) _ HR.out).mono ?_
  rintro e w1 ⟨rfl, hb⟩
  have B1 := Lib.hid hb
  clear hb
  go_wp2
  go_ret
  exact ⟨rfl, B1.out⟩
theorem FnExactValidEntries_walk (a : Option Addr) (n cap : Nat) (es : List ByteArray) (w : World) (f : IsEnts w a n es) :
    Calls Try.prog 4 #[.slice a n cap] w fun e w' => e = .returned (.bool true) ∧ Below w.heap.size w w' := by
  by_cases h : n + sumS es ≤ 1048576
  · exact ves_in a n cap es f.2.2 h w f.2.1
  · exact ves_out a n cap es f.1 f.2.2 h w f.2.1
end Go.Proofs.Ytojfojkfopplnab
