/- FnExactClashOf answers true at every input, and leaves all that was there as it was. -/
import Derived.Test.YtcbcfjflaplkoaaClT
import Derived.Test.YtcbcfjflaplkoaaClI
import Derived.Test.YtcbcfjflaplkoaaKeys
import Derived.Test.YtcbcfjflaplkoaaOpen
namespace Go.Proofs.Ytcbcfjflaplkoaa
open Go.ChangeShapes Go.WideShapes Go.ChangeAt Go.RowKit
set_option linter.unusedVariables false
set_option linter.unusedSimpArgs false
set_option maxRecDepth 100000 in
set_option maxHeartbeats 4000000 in
theorem cll_in (a b : Option Addr) (n m ca cb : Nat) (fl gl x y u v : List Int) (E : Int) (hx : x.length = 32) (hy : y.length = 32) (hu : u.length = 32) (hv : v.length = 32) (hn : n + m ≤ 1048576) (w : World) (hr : RdK w a n fl) (hs : RdK w b m gl)
    (hsp : ∀ (U : World) a b, RdK U a n fl → RdK U b m gl → Calls Try.prog 34 #[.slice a n n, .slice b m m] U fun e w' => e = .returned (.tuple #[.agg (ints .u8 (x ++ (y ++ (u ++ v)))), .int .i64 E]) ∧ Below U.heap.size U w')
    (him : ∀ (U : World) a b, RdK U a n fl → RdK U b m gl → Calls Try.prog 27 #[.slice a n n, .slice b m m] U fun e w' => e = .returned (.tuple #[.agg (ints .u8 (x ++ (y ++ (u ++ v)))), .int .i64 E]) ∧ Below U.heap.size U w') :
    Calls Try.prog 6 #[.slice a n ca, .slice b m cb] w fun e w' => e = .returned (.bool true) ∧ Below w.heap.size w w' := by
  have Hz := Lib.hid z128_ints
  have HL := Lib.hid (four_len hx hy hu hv)
  have HEQ := Lib.hid (fun W => eqClash_ x y u v hx hy hu hv W)
  have HA := Lib.hid hr
  have HB := Lib.hid hs
  have La := Lib.hid hr.1
  have Lb := Lib.hid hs.1
  have Hsp := Lib.hid hsp
  have Him := Lib.hid him
  clear hr hs hsp him hx hy hu hv
  generalize x ++ (y ++ (u ++ v)) = c4 at HL HEQ Hsp Him
  have k0 : ¬ (1048576 : Int) - (n : Int) < 0 := by omega
  have k1 : ¬ (1048576 : Int) - (n : Int) - (m : Int) < 0 := by omega
  go_enter Try.func6, Try.ntmps6
  go_wp2_with fail
  refine (szKS_in a n ca 1048576 (by omega) (by omega) (by omega) _).mono ?_
  rintro e v0 ⟨rfl, rfl⟩
  go_wp2_with fail
  refine (szKS_in b m cb (1048576 - (n : Int)) (by omega) (by omega) (by omega) _).mono ?_
  rintro e v0 ⟨rfl, rfl⟩
  go_wp2_with fail
  refine (toKS a n ca fl (by omega) _ HA.out).mono ?_
  rintro e w1 ⟨rfl, hg, hb⟩
  have B1 := Lib.hid hb
  have X1 := Lib.hid hg
  clear hb hg
  go_wp2_with fail
  refine (toKS b m cb gl (by omega) _ (HB.out.below B1.out)).mono ?_
  rintro e w2 ⟨rfl, hg, hb⟩
  have B2 := Lib.hid (below_call B1.out B1.out.size hb)
  have X2 := Lib.hid (keep_block X1.out hb)
  have Y2 := Lib.hid hg
  clear hb hg
  go_wp2_with fail
  refine (Hsp.out _ _ _ (RdK.row La.out X2.out) (RdK.row Lb.out Y2.out)).mono ?_
  rintro e w3 ⟨rfl, hb⟩
  have B3 := Lib.hid (below_call B2.out B2.out.size hb)
  clear hb X1 X2 Y2
  have L4 := laid_below w3 (ints .u8 z128) (ints .u8 c4) 38
  have B4 := Lib.hid (below_call B3.out B3.out.size L4)
  have S4 := Lib.hid (laid_new w3 (ints .u8 z128) (ints .u8 c4) 38)
  clear L4
  rw [Hz.out] at S4 B4
  go_wp2_with (refine wpList_store_row rfl 38 _ _ rfl w3.heap.size (ints .u8 c4) rfl rfl 38 (ints .u8 z128) (by rw [Hz.out]; exact heap_alloc_last _ _) (by rw [ints_size, HL.out]; exact sizeClash) (by rw [ints_size, ints_size, HL.out]; rfl) (ints_one _ _) ?_)
  generalize (w3.alloc (.cells Try.zeroCells38 38)).setRow w3.heap.size (ints .u8 c4) = W4 at B4 S4 ⊢
  generalize w3.heap.size = g4 at S4 ⊢
  refine (toKS a n ca fl (by omega) _ (HA.out.below B4.out)).mono ?_
  rintro e w5 ⟨rfl, hg, hb⟩
  have B5 := Lib.hid (below_call B4.out B4.out.size hb)
  have S5 := Lib.hid (keep_block S4.out hb)
  have X5 := Lib.hid hg
  clear hb hg
  generalize W4.heap.size = x5 at X5 ⊢
  go_wp2_with fail
  refine (toKS b m cb gl (by omega) _ (HB.out.below B5.out)).mono ?_
  rintro e w6 ⟨rfl, hg, hb⟩
  have B6 := Lib.hid (below_call B5.out B5.out.size hb)
  have S6 := Lib.hid (keep_block S5.out hb)
  have X6 := Lib.hid (keep_block X5.out hb)
  have Y6 := Lib.hid hg
  clear hb hg
  generalize w5.heap.size = y6 at Y6 ⊢
  go_wp2_with fail
  refine (Him.out _ _ _ (RdK.row La.out X6.out) (RdK.row Lb.out Y6.out)).mono ?_
  rintro e w7 ⟨rfl, hb⟩
  have B7 := Lib.hid (below_call B6.out B6.out.size hb)
  have S7 := Lib.hid (keep_block S6.out hb)
  have X7 := Lib.hid (keep_block X6.out hb)
  have Y7 := Lib.hid (keep_block Y6.out hb)
  clear hb
  have L8 := laid_below w7 (ints .u8 z128) (ints .u8 c4) 38
  have B8 := Lib.hid (below_call B7.out B7.out.size L8)
  have S8 := Lib.hid (keep_block S7.out L8)
  have X8 := Lib.hid (keep_block X7.out L8)
  have Y8 := Lib.hid (keep_block Y7.out L8)
  have T8 := Lib.hid (laid_new w7 (ints .u8 z128) (ints .u8 c4) 38)
  clear L8
  rw [Hz.out] at B8 S8 X8 Y8 T8
  go_wp2_with (first | (refine wpList_store_row rfl 38 _ _ rfl w7.heap.size (ints .u8 c4) rfl rfl 38 (ints .u8 z128) (by rw [Hz.out]; exact heap_alloc_last _ _) (by rw [ints_size, HL.out]; exact sizeClash) (by rw [ints_size, ints_size, HL.out]; rfl) (ints_one _ _) ?_) | (refine wpList_load_row rfl 38 (.tmp 10) rfl w7.heap.size rfl 38 (ints .u8 c4) (0, 0) _ T8.out Try.underlying38 rfl (by rw [ints_size, HL.out]; exact sizeClash) ?_) | (refine wpList_load_row rfl 38 (.tmp 6) rfl g4 rfl 38 (ints .u8 c4) (0, 0) _ S8.out Try.underlying38 rfl (by rw [ints_size, HL.out]; exact sizeClash) ?_))
  generalize (w7.alloc (.cells Try.zeroCells38 38)).setRow w7.heap.size (ints .u8 c4) = W8 at B8 S8 X8 Y8 T8 ⊢
  refine (HEQ.out _).mono ?_
  rintro e w9 ⟨rfl, hb⟩
  have B9 := Lib.hid (below_call B8.out B8.out.size hb)
  have X9 := Lib.hid (keep_block X8.out hb)
  have Y9 := Lib.hid (keep_block Y8.out hb)
  clear hb S4 S5 S6 S7 S8 T8
  go_wp2_with fail
  refine (toKS a n ca fl (by omega) _ (HA.out.below B9.out)).mono ?_
  rintro e w10 ⟨rfl, hg, hb⟩
  have B10 := Lib.hid (below_call B9.out B9.out.size hb)
  have X10 := Lib.hid (keep_block X9.out hb)
  have Y10 := Lib.hid (keep_block Y9.out hb)
  have Z10 := Lib.hid hg
  clear hb hg
  go_wp2_with fail
  refine (eqKS _ _ n n n fl (by omega) _ (RdK.row La.out X10.out) (RdK.row La.out Z10.out)).mono ?_
  rintro e w11 ⟨rfl, hb⟩
  have B11 := Lib.hid (below_call B10.out B10.out.size hb)
  have Y11 := Lib.hid (keep_block Y10.out hb)
  clear hb
  go_wp2_with fail
  refine (toKS b m cb gl (by omega) _ (HB.out.below B11.out)).mono ?_
  rintro e w12 ⟨rfl, hg, hb⟩
  have B12 := Lib.hid (below_call B11.out B11.out.size hb)
  have Y12 := Lib.hid (keep_block Y11.out hb)
  have Z12 := Lib.hid hg
  clear hb hg
  go_wp2_with fail
  refine (eqKS _ _ m m m gl (by omega) _ (RdK.row Lb.out Y12.out) (RdK.row Lb.out Z12.out)).mono ?_
  rintro e w13 ⟨rfl, hb⟩
  have B13 := Lib.hid (below_call B12.out B12.out.size hb)
  clear hb
  go_wp2
  go_ret
  exact ⟨rfl, B13.out⟩
set_option maxRecDepth 100000 in
set_option maxHeartbeats 1000000 in
theorem cll_out1 (a b : Option Addr) (n m ca cb : Nat) (h1 : n ≤ maxLen) (hn : ¬ n ≤ 1048576) (w : World) :
    Calls Try.prog 6 #[.slice a n ca, .slice b m cb] w fun e w' => e = .returned (.bool true) ∧ Below w.heap.size w w' := by
  unfold maxLen at h1
  go_enter Try.func6, Try.ntmps6
  go_wp2_with fail
  refine (szKS_out a n ca 1048576 (by omega) (by omega) h1 (by omega) _).mono ?_
  rintro e v0 ⟨rfl, rfl⟩
  go_wp2
  go_ret
  exact ⟨rfl, Below.refl _ _⟩
set_option maxRecDepth 100000 in
set_option maxHeartbeats 1000000 in
theorem cll_out2 (a b : Option Addr) (n m ca cb : Nat) (h1 : m ≤ maxLen) (hn : n ≤ 1048576) (hm : ¬ n + m ≤ 1048576) (w : World) :
    Calls Try.prog 6 #[.slice a n ca, .slice b m cb] w fun e w' => e = .returned (.bool true) ∧ Below w.heap.size w w' := by
  unfold maxLen at h1
  have k0 : ¬ (1048576 : Int) - (n : Int) < 0 := by omega
  go_enter Try.func6, Try.ntmps6
  go_wp2_with fail
  refine (szKS_in a n ca 1048576 (by omega) (by omega) (by omega) _).mono ?_
  rintro e v0 ⟨rfl, rfl⟩
  go_wp2_with fail
  refine (szKS_out b m cb (1048576 - (n : Int)) (by omega) (by omega) h1 (by omega) _).mono ?_
  rintro e v0 ⟨rfl, rfl⟩
  go_wp2
  go_ret
  exact ⟨rfl, Below.refl _ _⟩
theorem FnExactClashOf_walk (a : Option Addr) (n ca : Nat) (fl : List Int) (b : Option Addr) (m cb : Nat) (gl : List Int) (w : World) (fa : IsKeys w a n fl) (fb : IsKeys w b m gl) :
    Calls Try.prog 6 #[.slice a n ca, .slice b m cb] w fun e w' => e = .returned (.bool true) ∧ Below w.heap.size w w' := by
  by_cases hn : n ≤ 1048576
  · by_cases hm : n + m ≤ 1048576
    · obtain ⟨x, y, u, v, hc, hx, hy, hu, hv⟩ := clV_size fa.2.1.1 fb.2.1.1 fa.2.2 fb.2.2
      refine cll_in a b n m ca cb fl gl x y u v (clE n m fl gl) hx hy hu hv hm w fa.2.1 fb.2.1 ?_ ?_
      · intro U p q h1 h2
        rw [← hc]
        exact cl_spec p q n m n m fl gl (by omega) (by omega) (Nat.le_refl _) (Nat.le_refl _) (by unfold maxLen; omega) (by unfold maxLen; omega) fa.2.2 fb.2.2 U h1 h2
      · intro U p q h1 h2
        rw [← hc]
        exact cl_impl p q n m n m fl gl (by omega) (by omega) (Nat.le_refl _) (Nat.le_refl _) (by unfold maxLen; omega) (by unfold maxLen; omega) fa.2.2 fb.2.2 U h1 h2
    · exact cll_out2 a b n m ca cb fb.1 hn hm w
  · exact cll_out1 a b n m ca cb fa.1 hn w
end Go.Proofs.Ytcbcfjflaplkoaa
namespace Go.Proofs.Ytcbcfjflaplkoaa.fnExactClashOf
open Go.ChangeShapes Go.WideShapes Go.ChangeAt Go.RowKit
set_option linter.unusedVariables false
set_option maxRecDepth 100000 in
theorem lifted (os : Os) (started : os.Started) (H : Type) (enc : TypeId × Value → H) :
    ReturnsInHanded {} Try.checked os 6 .any (Rows.fnExactClashOfSpec.pre6 enc Try.prog Try.f6 Rows.fnExactClashOfRow.domain false) (Rows.fnExactClashOfSpec.post enc Try.prog Try.f6 false true false false) := by
  refine returnsInHanded_of_change (C := Try.checked) own started (by kernel_rfl) Try.func6
    (ChangeSpec.witness6 (enc := enc) (C := Try.checked) false ⟨#[], #[.slice none 0 0, .slice none 0 0], []⟩ 8 (by kernel_rfl) (by kernel_rfl) (by kernel_rfl) (by kernel_rfl)) ?_
  intro W base args ds gs before hval0 hW hcnd _
  have hval : ∀ (j : Nat) t v, Try.f6.params[j]? = some t → args[j]? = some v → Value.okWide Try.prog W .any base t v := hval0
  have hW' := hW
  obtain ⟨p, q, hA0, hV, rfl, hfz, hnd⟩ := hW
  have hA : DataW.TrodAll enc Try.prog W 0 (fun _ => true) true Try.f6.params.toList args.toList ds p := hA0
  rw [Try.params6] at hA hval
  obtain ⟨v0, vs0, d0, ds0, p0, q0, hargs, rfl, rfl, h0, r0⟩ := trodAll_cons hA
  obtain ⟨v1, vs1, d1, ds1, p1, q1, rfl, rfl, rfl, h1, r1⟩ := trodAll_cons r0
  obtain ⟨rfl, rfl, rfl⟩ := trodAll_nil r1
  obtain rfl : args = #[v0, v1] := by cases args; simp_all
  obtain ⟨rfl, rfl⟩ := trodVars_none hV
  have k0 := h0
  have lt0 : ∀ x ∈ p0, x.block < W.heap.size := by obtain ⟨m, hm⟩ := k0; exact DataW.trod_lt m _ _ _ hm
  have k1 := h1
  have lt1 : ∀ x ∈ p1, x.block < W.heap.size := by obtain ⟨m, hm⟩ := k1; exact DataW.trod_lt m _ _ _ hm
  obtain ⟨a0, len0, cap0, rfl⟩ := okWide_slice Try.underlying46 (hval 0 46 v0 rfl rfl)
  obtain ⟨z0, f0⟩ := open_keys Try.underlying46 Try.underlying27 Try.underlying5 (by kernel_rfl) (by kernel_rfl) k0
  obtain ⟨a1, len1, cap1, rfl⟩ := okWide_slice Try.underlying46 (hval 1 46 v1 rfl rfl)
  obtain ⟨z1, f1⟩ := open_keys Try.underlying46 Try.underlying27 Try.underlying5 (by kernel_rfl) (by kernel_rfl) k1
  clear hA0 hval0
  refine (FnExactClashOf_walk a0 len0 cap0 z0 a1 len1 cap1 z1 W f0 f1).mono fun e W' ⟨he, bel⟩ => ?_
  subst he
  exact ⟨_, rfl, _, _, _, [], _, [], hW', trodAll_mk1 (shut_bool Try.underlying4 _), (trodAll_cons_mk (Below.trod laidOut (by kernel_rfl) (of_decide_eq_true (by kernel_rfl)) k0 bel lt0) (trodAll_cons_mk (Below.trod laidOut (by kernel_rfl) (of_decide_eq_true (by kernel_rfl)) k1 bel lt1) trodAll_mk0)), rfl, bel.frame _, fun h => by cases h⟩
theorem over : Rows.fnExactClashOfRow.holds Try.pinned (OpenSpec.ofChange Rows.fnExactClashOfSpec) :=
  OpenClaim.holds_of_wide 6 Try.f6 rfl rfl rfl rfl rfl rfl rfl ⟨rfl, rfl, rfl, rfl, rfl⟩ rfl rfl rfl rfl rfl (by kernel_rfl) Try.func6 (by kernel_rfl)
    (of_decide_eq_true (by kernel_rfl)) (by unfold Func.isWrapper; first | (rw [if_pos (by decide +kernel)]; kernel_rfl) | (rw [if_neg (by decide +kernel)]; exact ⟨rfl, rfl⟩))
    (fun os started H enc _ => lifted os started H enc)
/-- THE STATEMENT -/
theorem proved : Rows.FnExactClashOfSaid := over
#print axioms proved
end Go.Proofs.Ytcbcfjflaplkoaa.fnExactClashOf
