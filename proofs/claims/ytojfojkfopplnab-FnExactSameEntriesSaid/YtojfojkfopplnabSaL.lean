/- The statement on SameEntries: its walk. Written by wip/gen/sal.py. -/
import Derived.Test.YtojfojkfopplnabSmE
namespace Go.Proofs.Ytojfojkfopplnab
open Go.ChangeShapes Go.WideShapes Go.ChangeAt Go.RowKit
set_option linter.unusedVariables false
set_option linter.unusedSimpArgs false
set_option maxRecDepth 100000 in
set_option maxHeartbeats 4000000 in
theorem sa_in (a b : Option Addr) (n m ca cb : Nat) (es fs : List ByteArray) (hm1 : ∀ s ∈ es, s.size ≤ maxLen) (hm2 : ∀ s ∈ fs, s.size ≤ maxLen) (h : n + sumS es + (m + sumS fs) ≤ 1048576) (w : World) (hr : RdE w a n es) (hs : RdE w b m fs) :
    Calls Try.prog 5 #[.slice a n ca, .slice b m cb] w fun e w' => e = .returned (.bool true) ∧ Below w.heap.size w w' := by
  have HA := Lib.hid hr
  have HB := Lib.hid hs
  have LA := Lib.hid hr.1
  have LB := Lib.hid hs.1
  have Hs := Lib.hid (fun (a b : Option Addr) (W : World) h1 h2 => same_spec a b n m n m es fs (by omega) (by omega) W h1 h2)
  have Hi := Lib.hid (fun (a b : Option Addr) (W : World) h1 h2 => same_impl a b n m n m es fs (by omega) (by omega) W h1 h2)
  generalize decide (es = fs) = V at Hs Hi
  have q0 : ¬ (1048576 : Int) - (n : Int) - (sumS es : Int) < 0 := by omega
  have q1 : ¬ (1048576 : Int) - (n : Int) - (sumS es : Int) - (m : Int) - (sumS fs : Int) < 0 := by omega
  clear hr hs
  go_enter Try.func5, Try.ntmps5
  have B0 := Lib.hid (Below.refl w.heap.size w)
  go_wp2_with fail
  refine (szES_in a n ca es 1048576 (by omega) (by omega) hm1 (by omega) _ HA.out).mono ?_
  rintro e w1 ⟨rfl, hb⟩
  have B1 := Lib.hid (below_call B0.out B0.out.size hb)
  clear hb
  go_wp2_with fail
  refine (szES_in b m cb fs (1048576 - (n : Int) - (sumS es : Int)) (by omega) (by omega) hm2 (by omega) _ (HB.out.below B1.out)).mono ?_
  rintro e w2 ⟨rfl, hb⟩
  have B2 := Lib.hid (below_call B1.out B1.out.size hb)
  clear hb
  go_wp2_with fail
  refine (toES a n ca es (by omega) _ (HA.out.below B2.out)).mono ?_
  rintro e w3 ⟨rfl, hg, hb⟩
  have B3 := Lib.hid (below_call B2.out B2.out.size hb)
  have X3 := Lib.hid hg
  clear hg
  clear hb
  generalize w2.heap.size = gX3 at X3 ⊢
  go_wp2_with fail
  refine (toES b m cb fs (by omega) _ (HB.out.below B3.out)).mono ?_
  rintro e w4 ⟨rfl, hg, hb⟩
  have B4 := Lib.hid (below_call B3.out B3.out.size hb)
  have X4 := Lib.hid (keep_block X3.out hb)
  have Y4 := Lib.hid hg
  clear hg
  clear hb
  generalize w3.heap.size = gY4 at Y4 ⊢
  go_wp2_with fail
  refine (Hs.out _ _ _ (RdE.row LA.out X4.out) (RdE.row LB.out Y4.out)).mono ?_
  rintro e w5 ⟨rfl, hb⟩
  have B5 := Lib.hid (below_call B4.out B4.out.size hb)
  clear hb
  go_wp2_with fail
  refine (toES a n ca es (by omega) _ (HA.out.below B5.out)).mono ?_
  rintro e w6 ⟨rfl, hg, hb⟩
  have B6 := Lib.hid (below_call B5.out B5.out.size hb)
  have X6 := Lib.hid hg
  clear hg
  clear hb
  generalize w5.heap.size = gX6 at X6 ⊢
  go_wp2_with fail
  refine (toES b m cb fs (by omega) _ (HB.out.below B6.out)).mono ?_
  rintro e w7 ⟨rfl, hg, hb⟩
  have B7 := Lib.hid (below_call B6.out B6.out.size hb)
  have X7 := Lib.hid (keep_block X6.out hb)
  have Y7 := Lib.hid hg
  clear hg
  clear hb
  generalize w6.heap.size = gY7 at Y7 ⊢
  go_wp2_with fail
  refine (Hi.out _ _ _ (RdE.row LA.out X7.out) (RdE.row LB.out Y7.out)).mono ?_
  rintro e w8 ⟨rfl, hb⟩
  have B8 := Lib.hid (below_call B7.out B7.out.size hb)
  have X8 := Lib.hid (keep_block X7.out hb)
  have Y8 := Lib.hid (keep_block Y7.out hb)
  clear hb
  go_wp2_with fail
  refine (toES a n ca es (by omega) _ (HA.out.below B8.out)).mono ?_
  rintro e w9 ⟨rfl, hg, hb⟩
  have B9 := Lib.hid (below_call B8.out B8.out.size hb)
  have X9 := Lib.hid (keep_block X8.out hb)
  have Y9 := Lib.hid (keep_block Y8.out hb)
  have Z9 := Lib.hid hg
  clear hg
  clear hb
  generalize w8.heap.size = gZ9 at Z9 ⊢
  go_wp2_with fail
  refine (eqES _ _ n n n es (by omega) _ (RdE.row LA.out X9.out) (RdE.row LA.out Z9.out)).mono ?_
  rintro e w10 ⟨rfl, hb⟩
  have B10 := Lib.hid (below_call B9.out B9.out.size hb)
  have Y10 := Lib.hid (keep_block Y9.out hb)
  clear hb
  go_wp2_with fail
  refine (toES b m cb fs (by omega) _ (HB.out.below B10.out)).mono ?_
  rintro e w11 ⟨rfl, hg, hb⟩
  have B11 := Lib.hid (below_call B10.out B10.out.size hb)
  have Y11 := Lib.hid (keep_block Y10.out hb)
  have Z11 := Lib.hid hg
  clear hg
  clear hb
  generalize w10.heap.size = gZ11 at Z11 ⊢
  go_wp2_with fail
  refine (eqES _ _ m m m fs (by omega) _ (RdE.row LB.out Y11.out) (RdE.row LB.out Z11.out)).mono ?_
  rintro e w12 ⟨rfl, hb⟩
  have B12 := Lib.hid (below_call B11.out B11.out.size hb)
  clear hb
  go_wp2
  go_ret
  exact ⟨rfl, B12.out⟩
set_option maxRecDepth 100000 in
set_option maxHeartbeats 2000000 in
theorem sa_out1 (a b : Option Addr) (n m ca cb : Nat) (es : List ByteArray) (hn : n ≤ maxLen) (hm : ∀ s ∈ es, s.size ≤ maxLen) (h : ¬ n + sumS es ≤ 1048576) (w : World) (hr : RdE w a n es) :
    Calls Try.prog 5 #[.slice a n ca, .slice b m cb] w fun e w' => e = .returned (.bool true) ∧ Below w.heap.size w w' := by
  have HR := Lib.hid hr
  clear hr
  go_enter Try.func5, Try.ntmps5
  go_wp2_with fail
  refine (szES_out a n ca es 1048576 (by omega) (by omega) hn hm (by omega) _ HR.out).mono ?_
  rintro e w1 ⟨rfl, hb⟩
  have B1 := Lib.hid hb
  clear hb
  go_wp2
  go_ret
  exact ⟨rfl, B1.out⟩
set_option maxRecDepth 100000 in
set_option maxHeartbeats 2000000 in
theorem sa_out2 (a b : Option Addr) (n m ca cb : Nat) (es fs : List ByteArray) (hm1 : ∀ s ∈ es, s.size ≤ maxLen) (hm : m ≤ maxLen) (hm2 : ∀ s ∈ fs, s.size ≤ maxLen) (h : n + sumS es ≤ 1048576) (h2 : ¬ n + sumS es + (m + sumS fs) ≤ 1048576) (w : World) (hr : RdE w a n es) (hs : RdE w b m fs) :
    Calls Try.prog 5 #[.slice a n ca, .slice b m cb] w fun e w' => e = .returned (.bool true) ∧ Below w.heap.size w w' := by
  have HR := Lib.hid hr
  have HS := Lib.hid hs
  have q0 : ¬ (1048576 : Int) - (n : Int) - (sumS es : Int) < 0 := by omega
  clear hr hs
  go_enter Try.func5, Try.ntmps5
  go_wp2_with fail
  refine (szES_in a n ca es 1048576 (by omega) (by omega) hm1 (by omega) _ HR.out).mono ?_
  rintro e w1 ⟨rfl, hb⟩
  have B1 := Lib.hid hb
  clear hb
  go_wp2_with fail
  refine (szES_out b m cb fs (1048576 - (n : Int) - (sumS es : Int)) (by omega) (by omega) hm hm2 (by omega) _ (HS.out.below B1.out)).mono ?_
  rintro e w2 ⟨rfl, hb⟩
  have B2 := Lib.hid (below_call B1.out B1.out.size hb)
  clear hb
  go_wp2
  go_ret
  exact ⟨rfl, B2.out⟩
theorem FnExactSameEntries_walk (a : Option Addr) (n ca : Nat) (es : List ByteArray) (b : Option Addr) (m cb : Nat) (fs : List ByteArray) (w : World) (f : IsEnts w a n es) (g : IsEnts w b m fs) :
    Calls Try.prog 5 #[.slice a n ca, .slice b m cb] w fun e w' => e = .returned (.bool true) ∧ Below w.heap.size w w' := by
  by_cases h : n + sumS es ≤ 1048576
  · by_cases h2 : n + sumS es + (m + sumS fs) ≤ 1048576
    · exact sa_in a b n m ca cb es fs f.2.2 g.2.2 h2 w f.2.1 g.2.1
    · exact sa_out2 a b n m ca cb es fs f.2.2 g.1 g.2.2 h h2 w f.2.1 g.2.1
  · exact sa_out1 a b n m ca cb es f.1 f.2.2 h w f.2.1
end Go.Proofs.Ytojfojkfopplnab
