/- The statement on GetEntry: its walk. Written by wip/gen/get.py. -/
import Derived.Test.YtojfojkfopplnabGet
namespace Go.Proofs.Ytojfojkfopplnab
open Go.ChangeShapes Go.WideShapes Go.ChangeAt Go.RowKit
set_option linter.unusedVariables false
set_option linter.unusedSimpArgs false
set_option maxRecDepth 100000 in
set_option maxHeartbeats 4000000 in
theorem gel_in (a : Option Addr) (n cap : Nat) (es : List ByteArray) (nm : ByteArray) (hm : ∀ s ∈ es, s.size ≤ maxLen) (h : n + sumS es ≤ 1048576) (hz : nm.size ≤ 1048576) (w : World) (hr : RdE w a n es) :
    Calls Try.prog 6 #[.slice a n cap, .string nm] w fun e w' => e = .returned (.bool true) ∧ Below w.heap.size w w' := by
  have HA := Lib.hid hr
  have LA := Lib.hid hr.1
  have Hs := Lib.hid (fun (b : Option Addr) (W : World) hW => ge_spec b n n es nm (by omega) hm (by unfold maxLen; omega) W hW)
  have Hi := Lib.hid (fun (b : Option Addr) (W : World) hW => ge_impl b n n es nm (by omega) hm (by unfold maxLen; omega) W hW)
  generalize gtV es n nm = V at Hs Hi
  generalize gtE es n nm = E at Hs Hi
  have t0 : ¬ (1048576 : Int) < (nm.size : Int) := by omega
  have q0 : ¬ (1048576 : Int) - (n : Int) - (sumS es : Int) < 0 := by omega
  clear hr
  go_enter Try.func6, Try.ntmps6
  have B0 := Lib.hid (Below.refl w.heap.size w)
  go_wp2_with fail
  refine (szES_in a n cap es 1048576 (by omega) (by omega) hm (by omega) _ HA.out).mono ?_
  rintro e w1 ⟨rfl, hb⟩
  have B1 := Lib.hid (below_call B0.out B0.out.size hb)
  clear hb
  go_wp2_with fail
  refine (toES a n cap es (by omega) _ (HA.out.below B1.out)).mono ?_
  rintro e w2 ⟨rfl, hg, hb⟩
  have B2 := Lib.hid (below_call B1.out B1.out.size hb)
  have X2 := Lib.hid hg
  clear hg
  clear hb
  generalize w1.heap.size = gX2 at X2 ⊢
  go_wp2_with fail
  refine (Hs.out _ _ (RdE.row LA.out X2.out)).mono ?_
  rintro e w3 ⟨rfl, hb⟩
  have B3 := Lib.hid (below_call B2.out B2.out.size hb)
  clear hb
  go_wp2_with fail
  refine (toES a n cap es (by omega) _ (HA.out.below B3.out)).mono ?_
  rintro e w4 ⟨rfl, hg, hb⟩
  have B4 := Lib.hid (below_call B3.out B3.out.size hb)
  have X4 := Lib.hid hg
  clear hg
  clear hb
  generalize w3.heap.size = gX4 at X4 ⊢
  go_wp2_with fail
  refine (Hi.out _ _ (RdE.row LA.out X4.out)).mono ?_
  rintro e w5 ⟨rfl, hb⟩
  have B5 := Lib.hid (below_call B4.out B4.out.size hb)
  have X5 := Lib.hid (keep_block X4.out hb)
  clear hb
  go_wp2_with fail
  refine (toES a n cap es (by omega) _ (HA.out.below B5.out)).mono ?_
  rintro e w6 ⟨rfl, hg, hb⟩
  have B6 := Lib.hid (below_call B5.out B5.out.size hb)
  have X6 := Lib.hid (keep_block X5.out hb)
  have Z6 := Lib.hid hg
  clear hg
  clear hb
  generalize w5.heap.size = gZ6 at Z6 ⊢
  go_wp2_with fail
  refine (eqES _ _ n n n es (by omega) _ (RdE.row LA.out X6.out) (RdE.row LA.out Z6.out)).mono ?_
  rintro e w7 ⟨rfl, hb⟩
  have B7 := Lib.hid (below_call B6.out B6.out.size hb)
  clear hb
  go_wp2
  go_ret
  exact ⟨rfl, B7.out⟩
set_option maxRecDepth 100000 in
set_option maxHeartbeats 2000000 in
theorem gel_long (a : Option Addr) (n cap : Nat) (nm : ByteArray) (hx : nm.size ≤ maxLen) (hz : ¬ nm.size ≤ 1048576) (w : World) :
    Calls Try.prog 6 #[.slice a n cap, .string nm] w fun e w' => e = .returned (.bool true) ∧ Below w.heap.size w w' := by
  unfold maxLen at hx
  have t0 : (1048576 : Int) < (nm.size : Int) := by omega
  go_enter Try.func6, Try.ntmps6
  go_wp2
  go_ret
  exact ⟨rfl, Below.refl _ _⟩
set_option maxRecDepth 100000 in
set_option maxHeartbeats 2000000 in
theorem gel_out (a : Option Addr) (n cap : Nat) (es : List ByteArray) (nm : ByteArray) (hn : n ≤ maxLen) (hm : ∀ s ∈ es, s.size ≤ maxLen) (h : ¬ n + sumS es ≤ 1048576) (hz : nm.size ≤ 1048576) (w : World) (hr : RdE w a n es) :
    Calls Try.prog 6 #[.slice a n cap, .string nm] w fun e w' => e = .returned (.bool true) ∧ Below w.heap.size w w' := by
  have HR := Lib.hid hr
  have t0 : ¬ (1048576 : Int) < (nm.size : Int) := by omega
  clear hr
  go_enter Try.func6, Try.ntmps6
  go_wp2_with fail
  refine (szES_out a n cap es 1048576 (by omega) (by omega) hn hm (by omega) _ HR.out).mono ?_
  rintro e w1 ⟨rfl, hb⟩
  have B1 := Lib.hid hb
  clear hb
  go_wp2
  go_ret
  exact ⟨rfl, B1.out⟩
theorem FnExactGetEntry_walk (a : Option Addr) (n cap : Nat) (es : List ByteArray) (nm : ByteArray) (w : World) (f : IsEnts w a n es) (g : nm.size ≤ maxLen) :
    Calls Try.prog 6 #[.slice a n cap, .string nm] w fun e w' => e = .returned (.bool true) ∧ Below w.heap.size w w' := by
  by_cases hz : nm.size ≤ 1048576
  · by_cases h : n + sumS es ≤ 1048576
    · exact gel_in a n cap es nm f.2.2 h hz w f.2.1
    · exact gel_out a n cap es nm f.1 f.2.2 h hz w f.2.1
  · exact gel_long a n cap nm g hz w
end Go.Proofs.Ytojfojkfopplnab
