/- The clash of two lists, by the program. Written by wip/gen/cli.py. -/
import Derived.Test.YtcbcfjflaplkoaaClE
namespace Go.Proofs.Ytcbcfjflaplkoaa
open Go.ChangeShapes Go.WideShapes Go.ChangeAt Go.RowKit
set_option linter.unusedVariables false
set_option linter.unusedSimpArgs false
set_option maxRecDepth 100000 in
set_option maxHeartbeats 16000000 in
theorem clf_impl (a b : Option Addr) (n m ca cb : Nat) (fl gl : List Int) (hn : n ≤ 1048576) (hm : m ≤ 1048576) (hca : n ≤ ca) (hcb : m ≤ cb) (hma : ca ≤ maxLen) (hmb : cb ≤ maxLen) (fb : ∀ z ∈ fl, 0 ≤ z ∧ z ≤ 255) (gb : ∀ z ∈ gl, 0 ≤ z ∧ z ≤ 255) (w : World) (hr : RdK w a n fl) (hs : RdK w b m gl) :
    Calls Try.prog 80 #[.slice a n ca, .slice b m cb, .func (.func 46) #[] #[]] w fun e w' => e = .returned (.tuple #[.agg (ints .u8 (clV n m fl gl)), .int .i64 (clE n m fl gl)]) ∧ Below w.heap.size w w' := by
  unfold clV clE
  have Hz := Lib.hid z128_ints
  have A0 := Lib.hid (heap_alloc_last w (.cells (ints .u8 z128) 38))
  have B0 := Lib.hid ((Below.refl w.heap.size w).alloc (Nat.le_refl _) (.cells (ints .u8 z128) 38))
  obtain ⟨W0, hW0⟩ : ∃ W0, w.alloc (.cells (ints .u8 z128) 38) = W0 := ⟨_, rfl⟩
  have HS0 : Hid (W0.heap.size = w.heap.size + 1) := Lib.hid (by rw [← hW0]; simp)
  rw [hW0] at A0 B0
  rw [Hz.out] at hW0
  have n0 : (0 : Int) ≤ (n : Int) := by omega
  have n1 : (n : Int) ≤ 1048576 := by omega
  have m0 : (0 : Int) ≤ (m : Int) := by omega
  have m1 : (m : Int) ≤ 1048576 := by omega
  by_cases h : 256 < n ∨ 256 < m
  · rw [if_pos h, if_pos h]
    by_cases h1 : 256 < n
    · have k1 : (256 : Int) < (n : Int) := by omega
      go_enter Try.func80, Try.ntmps80
      go_wp2_with (refine wpList_store_row rfl 38 _ _ rfl w.heap.size Try.zeroCells38 rfl rfl 38 (ints .u8 z128) A0.out (by rw [← Hz.out, ints_size]; exact sizeClash) (by rw [← Hz.out]) (by rw [← Hz.out]; exact ints_one _ _) ?_)
      refine bodyPost_ret (results_cell2_row rfl _ _ w.heap.size 38 Try.zeroCells38 (0, 0) _ rfl (setRow_heap _ _ (ints .u8 z128) _ _ _ A0.out) Try.underlying38 rfl (by rw [← Hz.out, ints_size]; exact sizeClash)) rfl ⟨by rw [Hz.out]; rfl, ?_⟩
      exact Below.setRow B0.out (Nat.le_refl _) _
    · have k1 : ¬ (256 : Int) < (n : Int) := by omega
      have k2 : (256 : Int) < (m : Int) := by omega
      go_enter Try.func80, Try.ntmps80
      go_wp2_with (refine wpList_store_row rfl 38 _ _ rfl w.heap.size Try.zeroCells38 rfl rfl 38 (ints .u8 z128) A0.out (by rw [← Hz.out, ints_size]; exact sizeClash) (by rw [← Hz.out]) (by rw [← Hz.out]; exact ints_one _ _) ?_)
      refine bodyPost_ret (results_cell2_row rfl _ _ w.heap.size 38 Try.zeroCells38 (0, 0) _ rfl (setRow_heap _ _ (ints .u8 z128) _ _ _ A0.out) Try.underlying38 rfl (by rw [← Hz.out, ints_size]; exact sizeClash)) rfl ⟨by rw [Hz.out]; rfl, ?_⟩
      exact Below.setRow B0.out (Nat.le_refl _) _
  · rw [if_neg h, if_neg h]
    have k1 : ¬ (256 : Int) < (n : Int) := by omega
    have k2 : ¬ (256 : Int) < (m : Int) := by omega
    by_cases h1 : n = m
    · subst h1
      by_cases h2 : n = 0
      · subst h2
        rw [if_pos (Or.inr (Or.inl rfl)), if_pos (Or.inr (Or.inl rfl))]
        go_enter Try.func80, Try.ntmps80
        go_wp2_with (refine wpList_store_row rfl 38 _ _ rfl w.heap.size Try.zeroCells38 rfl rfl 38 (ints .u8 z128) A0.out (by rw [← Hz.out, ints_size]; exact sizeClash) (by rw [← Hz.out]) (by rw [← Hz.out]; exact ints_one _ _) ?_)
        refine bodyPost_ret (results_cell2_row rfl _ _ w.heap.size 38 Try.zeroCells38 (0, 0) _ rfl (setRow_heap _ _ (ints .u8 z128) _ _ _ A0.out) Try.underlying38 rfl (by rw [← Hz.out, ints_size]; exact sizeClash)) rfl ⟨by rw [Hz.out]; rfl, ?_⟩
        exact Below.setRow B0.out (Nat.le_refl _) _
      · obtain ⟨aa, ao, rfl⟩ := hr.form (by omega)
        obtain ⟨ab, bo, rfl⟩ := hs.form (by omega)
        have k3 : ¬ (n : Int) = 0 := by omega
        have k3' : ((n : Int) == 0) = false := beq_eq_false_iff_ne.2 k3
        have HK1 := Lib.hid (fun U (hU : Below w.heap.size w U) => leaves_impl aa ao n ca fl (by omega) hn fb U (hr.below hU))
        have HK2 := Lib.hid (fun U (hU : Below w.heap.size w U) => leaves_impl ab bo n cb gl (by omega) hn gb U (hs.below hU))
        have HT1 := Lib.hid (tkey32 (b := 0) hr.1 fb (show 1 ≤ n by omega) (by omega))
        have HT2 := Lib.hid (tkey32 (b := 0) hs.1 gb (show 1 ≤ n by omega) (by omega))
        have heq := fun U => eqlIn2 (tkey (keyAt fl) 0 n) (tkey (keyAt gl) 0 n) HT1.out.1 HT2.out.1 U
        by_cases h3 : tkey (keyAt fl) 0 n = tkey (keyAt gl) 0 n
        · have HE := Lib.hid (fun U (hU : Below w.heap.size w U) => equal_impl (some ⟨aa, ao, none⟩) (some ⟨ab, bo, none⟩) n n ca cb fl gl hn hn U (hr.below hU) (hs.below hU))
          have hor : ¬ (n ≠ n ∨ n = 0 ∨ tkey (keyAt fl) 0 n ≠ tkey (keyAt gl) 0 n) := by rintro (e | e | e); exact e rfl; exact h2 e; exact e h3
          rw [if_neg hor, if_neg hor]
          clear hor
          rw [decide_eq_true h3] at heq
          have H3 := Lib.hid h3
          clear h3
          by_cases h4 : fl = gl
          · rw [if_pos h4, if_pos h4]
            rw [decide_eq_true h4] at HE
            clear h4 H3
            generalize tkey (keyAt fl) 0 n = p at HK1 heq
            generalize tkey (keyAt gl) 0 n = q at HK2 heq
            go_enter Try.func80, Try.ntmps80
            go_wp2_with fail
            clear hW0
            refine (HK1.out _ B0.out).mono ?_
            rintro e w4 ⟨rfl, hb⟩
            have B4 := Lib.hid (below_call B0.out B0.out.size hb)
            have A4 := Lib.hid (keep_block A0.out hb)
            clear hb
            go_wp2_with fail
            refine (HK2.out _ B4.out).mono ?_
            rintro e w5 ⟨rfl, hb⟩
            have B5 := Lib.hid (below_call B4.out B4.out.size hb)
            have A5 := Lib.hid (keep_block A4.out hb)
            clear hb
            go_wp2_with fail
            refine (HE.out _ B5.out).mono ?_
            rintro e w6 ⟨rfl, hb⟩
            have B6 := Lib.hid (below_call B5.out B5.out.size hb)
            have A6 := Lib.hid (keep_block A5.out hb)
            clear hb B4 A4 B5 A5
            go_wp2_with (refine wpList_store_row rfl 38 _ _ rfl w.heap.size Try.zeroCells38 rfl rfl 38 (ints .u8 z128) A6.out (by rw [← Hz.out, ints_size]; exact sizeClash) (by rw [← Hz.out]) (by rw [← Hz.out]; exact ints_one _ _) ?_)
            refine bodyPost_ret (results_cell2_row rfl _ _ w.heap.size 38 Try.zeroCells38 (0, 0) _ rfl (setRow_heap _ _ (ints .u8 z128) _ _ _ A6.out) Try.underlying38 rfl (by rw [← Hz.out, ints_size]; exact sizeClash)) rfl ⟨by rw [Hz.out]; rfl, ?_⟩
            exact Below.setRow B6.out (Nat.le_refl _) _
          · rw [if_neg h4, if_neg h4]
            rw [decide_eq_false h4] at HE
            have HO : Hid (clO fl gl 0 n) := Lib.hid ⟨by omega, H3.out, by rw [subK_all hr.1, subK_all hs.1]; exact h4⟩
            have HRa := Lib.hid hr
            have HRb := Lib.hid hs
            have HFB := Lib.hid fb
            have HGB := Lib.hid gb
            have HLa := Lib.hid hr.1
            have HLb := Lib.hid hs.1
            clear h4 H3 hr hs fb gb
            generalize tkey (keyAt fl) 0 n = p at HK1 heq
            generalize tkey (keyAt gl) 0 n = q at HK2 heq
            go_enter Try.func80, Try.ntmps80
            go_wp2_with fail
            clear hW0
            refine (HK1.out _ B0.out).mono ?_
            rintro e w4 ⟨rfl, hb⟩
            have B4 := Lib.hid (below_call B0.out B0.out.size hb)
            have A4 := Lib.hid (keep_block A0.out hb)
            clear hb
            go_wp2_with fail
            refine (HK2.out _ B4.out).mono ?_
            rintro e w5 ⟨rfl, hb⟩
            have B5 := Lib.hid (below_call B4.out B4.out.size hb)
            have A5 := Lib.hid (keep_block A4.out hb)
            clear hb
            go_wp2_with fail
            refine (HE.out _ B5.out).mono ?_
            rintro e w6 ⟨rfl, hb⟩
            have B6 := Lib.hid (below_call B5.out B5.out.size hb)
            have A6 := Lib.hid (keep_block A5.out hb)
            clear hb B4 A4 B5 A5
            have L7 := laid_below w6 #[.int .i64 0, .int .i64 0] (spanA 0 n) 96
            have B7 := Lib.hid (below_call B6.out B6.out.size L7)
            have A7 := Lib.hid (keep_block A6.out L7)
            have H7 := Lib.hid (laid_new w6 #[.int .i64 0, .int .i64 0] (spanA 0 n) 96)
            have HWH : Hid (w.heap.size < w6.heap.size) := Lib.hid (Array.getElem?_eq_some_iff.1 A6.out).1
            clear L7
            go_wp2_with (refine wpList_store_row rfl 96 (.tmp 8) _ rfl (w6.heap.size) (spanA 0 n) rfl rfl 96 (#[.int .i64 0, .int .i64 0]) (heap_alloc_last _ _) sizeSpan rfl (spanA_one _ _) ?_)
            generalize (w6.alloc (.cells #[.int .i64 0, .int .i64 0] 96)).setRow w6.heap.size (spanA 0 n) = W7 at B7 A7 H7 ⊢
            generalize w6.heap.size = h at H7 HWH ⊢
            clear A6 B6 B0 A0
            try simp only [Act.put]
            obtain ⟨CK, hCK⟩ : ∃ CK, clK fl gl 0 n = CK := ⟨_, rfl⟩
            have HCK := Lib.hid hCK
            go_loopw [11] (fun _ wr => ∃ b l, b + l ≤ n ∧ clO fl gl b l ∧ clK fl gl b l = CK ∧ wr.heap[h]? = some (.cells (spanA b (b + l)) 96) ∧ wr.heap[w.heap.size]? = some (.cells (ints .u8 z128) 38) ∧ Below w.heap.size w wr) (fun _ wr => spanN wr (.pointer (some ⟨h, 0, none⟩)))
            case atStart => exact ⟨0, n, by omega, HO.out, hCK, by rw [Nat.zero_add]; exact H7.out, A7.out, B7.out⟩
            case round =>
              clear B7 A7 H7 HO hCK heq HK1 HK2 HE
              obtain ⟨b, l, hbl, hO, hC, hh, ha, hB⟩ := hrel
              have HC := Lib.hid hC
              have H8 := Lib.hid hh
              have A8 := Lib.hid ha
              have B8 := Lib.hid hB
              have h2 := clO_two hO
              have a1 := half_pos l
              have a2 := half_lt (n := l) (by omega)
              have Hparts := Lib.hid (fun W => parts_impl b (b + l) (by omega) (by omega) W)
              rw [show b + l - b = l by omega] at Hparts
              have HOO := Lib.hid hO
              have S1 := Lib.hid (fun U (hU : Below w.heap.size w U) => by
                have := span_impl aa ao n ca b (b + half l) fl (by omega) (by omega) hn hca hma HFB.out U (HRa.out.below hU)
                rwa [show b + half l - b = half l by omega] at this)
              have S2 := Lib.hid (fun U (hU : Below w.heap.size w U) => by
                have := span_impl aa ao n ca (b + half l) (b + l) fl (by omega) (by omega) hn hca hma HFB.out U (HRa.out.below hU)
                rwa [show b + l - (b + half l) = l - half l by omega] at this)
              have S3 := Lib.hid (fun U (hU : Below w.heap.size w U) => by
                have := span_impl ab bo n cb b (b + half l) gl (by omega) (by omega) hn hcb hmb HGB.out U (HRb.out.below hU)
                rwa [show b + half l - b = half l by omega] at this)
              have S4 := Lib.hid (fun U (hU : Below w.heap.size w U) => by
                have := span_impl ab bo n cb (b + half l) (b + l) gl (by omega) (by omega) hn hcb hmb HGB.out U (HRb.out.below hU)
                rwa [show b + l - (b + half l) = l - half l by omega] at this)
              have T1 := Lib.hid (tkey32 (b := b) HLa.out HFB.out (show 1 ≤ half l by omega) (by omega)).1
              have T2 := Lib.hid (tkey32 (b := b + half l) HLa.out HFB.out (show 1 ≤ l - half l by omega) (by omega)).1
              have T3 := Lib.hid (tkey32 (b := b) HLb.out HGB.out (show 1 ≤ half l by omega) (by omega)).1
              have T4 := Lib.hid (tkey32 (b := b + half l) HLb.out HGB.out (show 1 ≤ l - half l by omega) (by omega)).1
              have HE2 := Lib.hid (fun U (hU : Below w.heap.size w U) => equal_impl (some ⟨aa, ao + b * 32, none⟩) (some ⟨ab, bo + b * 32, none⟩) (half l) (half l) (ca - b) (cb - b) (subK fl b (half l)) (subK gl b (half l)) (by omega) (by omega) U (rdk_sub (HRa.out.below hU) b (half l) (by omega)) (rdk_sub (HRb.out.below hU) b (half l) (by omega)))
              have HU : Hid (clU fl gl b l → CK = clQ fl gl b l) := Lib.hid (fun h => by rw [← HC.out]; exact clK_here h2 h)
              have HNL : Hid (¬ clU fl gl b l → ¬ subK fl b (half l) = subK gl b (half l) → clO fl gl b (half l) ∧ clK fl gl b (half l) = CK) := Lib.hid (fun h h' => ⟨clO_left hO h h', by rw [← HC.out]; exact (clK_left h2 h h').symm⟩)
              have HNR : Hid (¬ clU fl gl b l → subK fl b (half l) = subK gl b (half l) → clO fl gl (b + half l) (l - half l) ∧ clK fl gl (b + half l) (l - half l) = CK) := Lib.hid (fun h h' => ⟨clO_right hO h h', by rw [← HC.out]; exact (clK_right h2 h h').symm⟩)
              have HUD : Hid (clU fl gl b l ↔ ¬ (tkey (keyAt fl) b (half l) = tkey (keyAt gl) b (half l) ∧ tkey (keyAt fl) (b + half l) (l - half l) = tkey (keyAt gl) (b + half l) (l - half l))) := Lib.hid (by unfold clU; exact Classical.not_and_iff_not_or_not.symm)
              unfold clQ at HU
              clear hh ha hB hO hC
              generalize tkey (keyAt fl) b (half l) = x at S1 T1 HU HUD
              generalize tkey (keyAt fl) (b + half l) (l - half l) = y at S2 T2 HU HUD
              generalize tkey (keyAt gl) b (half l) = u at S3 T3 HU HUD
              generalize tkey (keyAt gl) (b + half l) (l - half l) = v at S4 T4 HU HUD
              generalize clU fl gl b l = UU at HU HNL HNR HUD
              generalize hss : subK fl b (half l) = ss at HE2 HNL HNR
              generalize hst : subK gl b (half l) = st at HE2 HNL HNR
              clear hss hst
              generalize hm2 : half l = k at *
              have HC4 := Lib.hid (four_len T1.out T2.out T3.out T4.out)
              have HB := Lib.hid (built_clash x y u v T1.out T2.out T3.out T4.out)
              have HUN := Lib.hid (fun W => unlike_impl x y u v T1.out T2.out T3.out T4.out W)
              generalize hdd : decide (x = u ∧ y = v) = dd at HUN
              have HDD := Lib.hid hdd
              clear hdd
              generalize x ++ (y ++ (u ++ v)) = c4 at HU HC4 HB HUN
              have d1 : (b : Int) + (k : Int) ≤ (ca : Int) := by omega
              have d2 : (b : Int) + (k : Int) ≤ (cb : Int) := by omega
              have d3 : (0 : Int) ≤ (b : Int) := by omega
              have d4 : (0 : Int) ≤ (k : Int) := by omega
              have d5 : (b : Int) + (k : Int) ≤ 1048576 := by omega
              have d6 : (b : Int) ≤ (b : Int) + (k : Int) := by omega
              have d7 : b ≤ b + k := by omega
              have d8 : b + k ≤ ca := by omega
              have d9 : b + k ≤ cb := by omega
              have d10 : ¬ ca = b := by omega
              have d11 : ¬ cb = b := by omega
              have d12 : ¬ b + k < b := by omega
              have d20 : ((b : Int) + (k : Int)).toNat - b = k := by omega
              have d13 : ¬ ca < b + k := by omega
              have d14 : ¬ cb < b + k := by omega
              go_wp2_with (refine wpList_load_row rfl 96 (.tmp 8) rfl h rfl 96 (spanA b (b + l)) (0, 0) _ H8.out Try.underlying96 rfl sizeSpan ?_)
              refine (Hparts.out _).mono ?_
              rintro e w9 ⟨rfl, hb⟩
              have B9 := Lib.hid (below_call B8.out B8.out.size hb)
              have H9 := Lib.hid (keep_block H8.out hb)
              have A9 := Lib.hid (keep_block A8.out hb)
              clear hb
              have L10 := Lib.hid (laid2_below w9 #[.int .i64 0, .int .i64 0] (spanA b (b + k)) (spanA (b + k) (b + l)) 96)
              have F10 := Lib.hid (laid2_fst w9 #[.int .i64 0, .int .i64 0] (spanA b (b + k)) (spanA (b + k) (b + l)) 96)
              have N10 := Lib.hid (laid2_snd w9 #[.int .i64 0, .int .i64 0] (spanA b (b + k)) (spanA (b + k) (b + l)) 96)
              have B10 := Lib.hid (below_call B9.out B9.out.size L10.out)
              have H10 := Lib.hid (keep_block H9.out L10.out)
              have A10 := Lib.hid (keep_block A9.out L10.out)
              have HHX : Hid (h < w9.heap.size) := Lib.hid (Array.getElem?_eq_some_iff.1 H9.out).1
              go_upto_region 9 with (first | (refine wpList_store_row rfl 96 (.tmp 9) _ rfl (w9.heap.size) (spanA b (b + k)) rfl rfl 96 (#[.int .i64 0, .int .i64 0]) (heap_alloc2_old _ _ _) sizeSpan rfl (spanA_one _ _) ?_) | (refine wpList_store_row rfl 96 (.tmp 10) _ rfl (w9.heap.size + 1) (spanA (b + k) (b + l)) rfl rfl 96 (#[.int .i64 0, .int .i64 0]) ((setRow_other _ _ _ _ (by omega)).trans (heap_alloc2_new _ _ _)) sizeSpan rfl (spanA_one _ _) ?_))
              generalize (((w9.alloc (.cells #[.int .i64 0, .int .i64 0] 96)).alloc (.cells #[.int .i64 0, .int .i64 0] 96)).setRow w9.heap.size (spanA b (b + k))).setRow (w9.heap.size + 1) (spanA (b + k) (b + l)) = W10 at L10 F10 N10 B10 H10 A10 ⊢
              generalize w9.heap.size = h9 at F10 N10 HHX ⊢
              try simp only [Act.put]
              go_cut [11] (fun s11 wx => ∃ g : Nat, s11 = .pointer (some ⟨g, 0, none⟩) ∧ W10.heap.size ≤ g ∧ wx.heap[g]? = some (.cells (ints .u8 c4) 38) ∧ Below W10.heap.size W10 wx)
              case first =>
                refine wp_region_held_drew (S := Below (W10).heap.size (W10)) (by kernel_rfl) ((Below.refl _ _).drew) (fun hS => ?_)
                refine take_at (i := 0) (v := .slice (some ⟨aa, ao, none⟩) n ca) rfl rfl (by kernel_rfl) (by kernel_rfl) (by kernel_rfl) (fun _ _ _ h => h) (Or.inl ⟨by rfl, fun U hU => by go_simp⟩) hS ?_
                try simp only [List.setIfInBounds_toArray, List.set_cons_zero, List.set_cons_succ]
                refine take_at (i := 1) (v := .agg (spanA b (b + k))) rfl rfl (by kernel_rfl) (by kernel_rfl) (by kernel_rfl) (fun _ _ _ h => h) (yields_box (by rfl) 96 _ rfl (h9) rfl _ 96 _ F10.out Try.underlying96 rfl sizeSpan) hS ?_
                try simp only [List.setIfInBounds_toArray, List.set_cons_zero, List.set_cons_succ]
                refine take_at (i := 2) (v := .func (.func 46) #[] #[]) rfl rfl (by kernel_rfl) (by kernel_rfl) (by kernel_rfl) (fun _ _ _ h => h) (Or.inl ⟨by rfl, fun U hU => by go_simp⟩) hS ?_
                try simp only [List.setIfInBounds_toArray, List.set_cons_zero, List.set_cons_succ]
                refine take_at (i := 4) (v := .slice (some ⟨aa, ao, none⟩) n ca) rfl rfl (by kernel_rfl) (by kernel_rfl) (by kernel_rfl) (fun _ _ _ h => h) (Or.inl ⟨by rfl, fun U hU => by go_simp⟩) hS ?_
                try simp only [List.setIfInBounds_toArray, List.set_cons_zero, List.set_cons_succ]
                refine take_at (i := 5) (v := .agg (spanA (b + k) (b + l))) rfl rfl (by kernel_rfl) (by kernel_rfl) (by kernel_rfl) (fun _ _ _ h => h) (yields_box (by rfl) 96 _ rfl (h9 + 1) rfl _ 96 _ N10.out Try.underlying96 rfl sizeSpan) hS ?_
                try simp only [List.setIfInBounds_toArray, List.set_cons_zero, List.set_cons_succ]
                refine take_at (i := 6) (v := .func (.func 46) #[] #[]) rfl rfl (by kernel_rfl) (by kernel_rfl) (by kernel_rfl) (fun _ _ _ h => h) (Or.inl ⟨by rfl, fun U hU => by go_simp⟩) hS ?_
                try simp only [List.setIfInBounds_toArray, List.set_cons_zero, List.set_cons_succ]
                refine take_at (i := 8) (v := .slice (some ⟨ab, bo, none⟩) n cb) rfl rfl (by kernel_rfl) (by kernel_rfl) (by kernel_rfl) (fun _ _ _ h => h) (Or.inl ⟨by rfl, fun U hU => by go_simp⟩) hS ?_
                try simp only [List.setIfInBounds_toArray, List.set_cons_zero, List.set_cons_succ]
                refine take_at (i := 9) (v := .agg (spanA b (b + k))) rfl rfl (by kernel_rfl) (by kernel_rfl) (by kernel_rfl) (fun _ _ _ h => h) (yields_box (by rfl) 96 _ rfl (h9) rfl _ 96 _ F10.out Try.underlying96 rfl sizeSpan) hS ?_
                try simp only [List.setIfInBounds_toArray, List.set_cons_zero, List.set_cons_succ]
                refine take_at (i := 10) (v := .func (.func 46) #[] #[]) rfl rfl (by kernel_rfl) (by kernel_rfl) (by kernel_rfl) (fun _ _ _ h => h) (Or.inl ⟨by rfl, fun U hU => by go_simp⟩) hS ?_
                try simp only [List.setIfInBounds_toArray, List.set_cons_zero, List.set_cons_succ]
                refine take_at (i := 12) (v := .slice (some ⟨ab, bo, none⟩) n cb) rfl rfl (by kernel_rfl) (by kernel_rfl) (by kernel_rfl) (fun _ _ _ h => h) (Or.inl ⟨by rfl, fun U hU => by go_simp⟩) hS ?_
                try simp only [List.setIfInBounds_toArray, List.set_cons_zero, List.set_cons_succ]
                refine take_at (i := 13) (v := .agg (spanA (b + k) (b + l))) rfl rfl (by kernel_rfl) (by kernel_rfl) (by kernel_rfl) (fun _ _ _ h => h) (yields_box (by rfl) 96 _ rfl (h9 + 1) rfl _ 96 _ N10.out Try.underlying96 rfl sizeSpan) hS ?_
                try simp only [List.setIfInBounds_toArray, List.set_cons_zero, List.set_cons_succ]
                refine take_at (i := 14) (v := .func (.func 46) #[] #[]) rfl rfl (by kernel_rfl) (by kernel_rfl) (by kernel_rfl) (fun _ _ _ h => h) (Or.inl ⟨by rfl, fun U hU => by go_simp⟩) hS ?_
                try simp only [List.setIfInBounds_toArray, List.set_cons_zero, List.set_cons_succ]
                refine wpAnyH_ready (rs := [3, 17]) (by kernel_rfl) (by simp) ?_
                refine AllReadyH.cons rfl (fun KQ hK => ?_) (AllReadyH.cons rfl (fun KQ hK => ?_) AllReadyH.nil)
                · rw [if_pos (by rfl)]
                  go_simp
                  refine (S1.out _ (B10.out.trans (hS.mono B10.out.size))).mono ?_
                  rintro e u0 ⟨rfl, hb⟩
                  refine hK.out _ _ (below_call hS hS.size hb) (fun hS => ?_)
                  clear hb hK
                  refine wpAnyH_ready (rs := [7, 17]) (by kernel_rfl) (by simp) ?_
                  refine AllReadyH.cons rfl (fun KQ hK => ?_) (AllReadyH.cons rfl (fun KQ hK => ?_) AllReadyH.nil)
                  · rw [if_pos (by rfl)]
                    go_simp
                    refine (S2.out _ (B10.out.trans (hS.mono B10.out.size))).mono ?_
                    rintro e u1 ⟨rfl, hb⟩
                    refine hK.out _ _ (below_call hS hS.size hb) (fun hS => ?_)
                    clear hb hK
                    refine wpAnyH_ready (rs := [11, 17]) (by kernel_rfl) (by simp) ?_
                    refine AllReadyH.cons rfl (fun KQ hK => ?_) (AllReadyH.cons rfl (fun KQ hK => ?_) AllReadyH.nil)
                    · rw [if_pos (by rfl)]
                      go_simp
                      refine (S3.out _ (B10.out.trans (hS.mono B10.out.size))).mono ?_
                      rintro e u2 ⟨rfl, hb⟩
                      refine hK.out _ _ (below_call hS hS.size hb) (fun hS => ?_)
                      clear hb hK
                      refine wpAnyH_ready (rs := [15, 17]) (by kernel_rfl) (by simp) ?_
                      refine AllReadyH.cons rfl (fun KQ hK => ?_) (AllReadyH.cons rfl (fun KQ hK => ?_) AllReadyH.nil)
                      · rw [if_pos (by rfl)]
                        go_simp
                        refine (S4.out _ (B10.out.trans (hS.mono B10.out.size))).mono ?_
                        rintro e u3 ⟨rfl, hb⟩
                        refine hK.out _ _ (below_call hS hS.size hb) (fun hS => ?_)
                        clear hb hK
                        refine take_at (i := 16) (v := .agg (ints .u8 (c4))) rfl rfl (by kernel_rfl) (by kernel_rfl) (by kernel_rfl) (fun _ _ _ h => h) (yields_built (by rfl) 38 _ (ints .u8 (c4)) rfl (by simp only [List.map_toArray, List.map_cons, List.map_nil]; exact HB.out)) hS ?_
                        try simp only [List.setIfInBounds_toArray, List.set_cons_zero, List.set_cons_succ]
                        refine wpAnyH_ready (rs := [17]) (by kernel_rfl) (by simp) ?_
                        refine AllReadyH.cons rfl (fun KQ hK => ?_) AllReadyH.nil
                        rw [if_pos (by rfl)]
                        go_simp
                        have hg := new_block (t := 38) Hz.out hS
                        have hgg := hS.size
                        refine hK.out _ _ (hS.alloc hS.size _) (fun hS => ?_)
                        clear hK
                        refine wpAnyH_ready (rs := [18]) (by kernel_rfl) (by simp) ?_
                        refine AllReadyH.cons rfl (fun KQ hK => ?_) AllReadyH.nil
                        rw [if_pos (by rfl)]
                        refine wp_store_row (o := ⟨none, _, _, _, _, _⟩) 38 _ _ rfl _ (ints .u8 (c4)) rfl rfl 38 (ints .u8 z128) hg (by rw [ints_size, HC4.out]; exact sizeClash) (by rw [ints_size, ints_size, HC4.out]; rfl) (ints_one _ _) ?_
                        simp only [Act.put]
                        refine hK.out _ _ (Below.setRow hS hgg _) (fun hS => ?_)
                        clear hK
                        refine wpAnyH_done (by kernel_rfl) ?_ _
                        go_wp2_with fail
                        go_meet
                        exact ⟨_, rfl, hgg, setRow_heap _ _ _ _ _ _ hg, hS⟩
                      · rw [if_pos (by rfl)]
                        go_simp
                        have hg := new_block (t := 38) Hz.out hS
                        have hgg := hS.size
                        refine hK.out _ _ (hS.alloc hS.size _) (fun hS => ?_)
                        clear hK
                        refine wpAnyH_ready (rs := [15]) (by kernel_rfl) (by simp) ?_
                        refine AllReadyH.cons rfl (fun KQ hK => ?_) AllReadyH.nil
                        rw [if_pos (by rfl)]
                        go_simp
                        refine (S4.out _ (B10.out.trans (hS.mono B10.out.size))).mono ?_
                        rintro e u3 ⟨rfl, hb⟩
                        have hg := keep_block hg hb
                        refine hK.out _ _ (below_call hS hS.size hb) (fun hS => ?_)
                        clear hb hK
                        refine take_at (i := 16) (v := .agg (ints .u8 (c4))) rfl rfl (by kernel_rfl) (by kernel_rfl) (by kernel_rfl) (fun _ _ _ h => h) (yields_built (by rfl) 38 _ (ints .u8 (c4)) rfl (by simp only [List.map_toArray, List.map_cons, List.map_nil]; exact HB.out)) hS ?_
                        try simp only [List.setIfInBounds_toArray, List.set_cons_zero, List.set_cons_succ]
                        refine wpAnyH_ready (rs := [18]) (by kernel_rfl) (by simp) ?_
                        refine AllReadyH.cons rfl (fun KQ hK => ?_) AllReadyH.nil
                        rw [if_pos (by rfl)]
                        refine wp_store_row (o := ⟨none, _, _, _, _, _⟩) 38 _ _ rfl _ (ints .u8 (c4)) rfl rfl 38 (ints .u8 z128) hg (by rw [ints_size, HC4.out]; exact sizeClash) (by rw [ints_size, ints_size, HC4.out]; rfl) (ints_one _ _) ?_
                        simp only [Act.put]
                        refine hK.out _ _ (Below.setRow hS hgg _) (fun hS => ?_)
                        clear hK
                        refine wpAnyH_done (by kernel_rfl) ?_ _
                        go_wp2_with fail
                        go_meet
                        exact ⟨_, rfl, hgg, setRow_heap _ _ _ _ _ _ hg, hS⟩
                    · rw [if_pos (by rfl)]
                      go_simp
                      have hg := new_block (t := 38) Hz.out hS
                      have hgg := hS.size
                      refine hK.out _ _ (hS.alloc hS.size _) (fun hS => ?_)
                      clear hK
                      refine wpAnyH_ready (rs := [11]) (by kernel_rfl) (by simp) ?_
                      refine AllReadyH.cons rfl (fun KQ hK => ?_) AllReadyH.nil
                      rw [if_pos (by rfl)]
                      go_simp
                      refine (S3.out _ (B10.out.trans (hS.mono B10.out.size))).mono ?_
                      rintro e u2 ⟨rfl, hb⟩
                      have hg := keep_block hg hb
                      refine hK.out _ _ (below_call hS hS.size hb) (fun hS => ?_)
                      clear hb hK
                      refine wpAnyH_ready (rs := [15]) (by kernel_rfl) (by simp) ?_
                      refine AllReadyH.cons rfl (fun KQ hK => ?_) AllReadyH.nil
                      rw [if_pos (by rfl)]
                      go_simp
                      refine (S4.out _ (B10.out.trans (hS.mono B10.out.size))).mono ?_
                      rintro e u3 ⟨rfl, hb⟩
                      have hg := keep_block hg hb
                      refine hK.out _ _ (below_call hS hS.size hb) (fun hS => ?_)
                      clear hb hK
                      refine take_at (i := 16) (v := .agg (ints .u8 (c4))) rfl rfl (by kernel_rfl) (by kernel_rfl) (by kernel_rfl) (fun _ _ _ h => h) (yields_built (by rfl) 38 _ (ints .u8 (c4)) rfl (by simp only [List.map_toArray, List.map_cons, List.map_nil]; exact HB.out)) hS ?_
                      try simp only [List.setIfInBounds_toArray, List.set_cons_zero, List.set_cons_succ]
                      refine wpAnyH_ready (rs := [18]) (by kernel_rfl) (by simp) ?_
                      refine AllReadyH.cons rfl (fun KQ hK => ?_) AllReadyH.nil
                      rw [if_pos (by rfl)]
                      refine wp_store_row (o := ⟨none, _, _, _, _, _⟩) 38 _ _ rfl _ (ints .u8 (c4)) rfl rfl 38 (ints .u8 z128) hg (by rw [ints_size, HC4.out]; exact sizeClash) (by rw [ints_size, ints_size, HC4.out]; rfl) (ints_one _ _) ?_
                      simp only [Act.put]
                      refine hK.out _ _ (Below.setRow hS hgg _) (fun hS => ?_)
                      clear hK
                      refine wpAnyH_done (by kernel_rfl) ?_ _
                      go_wp2_with fail
                      go_meet
                      exact ⟨_, rfl, hgg, setRow_heap _ _ _ _ _ _ hg, hS⟩
                  · rw [if_pos (by rfl)]
                    go_simp
                    have hg := new_block (t := 38) Hz.out hS
                    have hgg := hS.size
                    refine hK.out _ _ (hS.alloc hS.size _) (fun hS => ?_)
                    clear hK
                    refine wpAnyH_ready (rs := [7]) (by kernel_rfl) (by simp) ?_
                    refine AllReadyH.cons rfl (fun KQ hK => ?_) AllReadyH.nil
                    rw [if_pos (by rfl)]
                    go_simp
                    refine (S2.out _ (B10.out.trans (hS.mono B10.out.size))).mono ?_
                    rintro e u1 ⟨rfl, hb⟩
                    have hg := keep_block hg hb
                    refine hK.out _ _ (below_call hS hS.size hb) (fun hS => ?_)
                    clear hb hK
                    refine wpAnyH_ready (rs := [11]) (by kernel_rfl) (by simp) ?_
                    refine AllReadyH.cons rfl (fun KQ hK => ?_) AllReadyH.nil
                    rw [if_pos (by rfl)]
                    go_simp
                    refine (S3.out _ (B10.out.trans (hS.mono B10.out.size))).mono ?_
                    rintro e u2 ⟨rfl, hb⟩
                    have hg := keep_block hg hb
                    refine hK.out _ _ (below_call hS hS.size hb) (fun hS => ?_)
                    clear hb hK
                    refine wpAnyH_ready (rs := [15]) (by kernel_rfl) (by simp) ?_
                    refine AllReadyH.cons rfl (fun KQ hK => ?_) AllReadyH.nil
                    rw [if_pos (by rfl)]
                    go_simp
                    refine (S4.out _ (B10.out.trans (hS.mono B10.out.size))).mono ?_
                    rintro e u3 ⟨rfl, hb⟩
                    have hg := keep_block hg hb
                    refine hK.out _ _ (below_call hS hS.size hb) (fun hS => ?_)
                    clear hb hK
                    refine take_at (i := 16) (v := .agg (ints .u8 (c4))) rfl rfl (by kernel_rfl) (by kernel_rfl) (by kernel_rfl) (fun _ _ _ h => h) (yields_built (by rfl) 38 _ (ints .u8 (c4)) rfl (by simp only [List.map_toArray, List.map_cons, List.map_nil]; exact HB.out)) hS ?_
                    try simp only [List.setIfInBounds_toArray, List.set_cons_zero, List.set_cons_succ]
                    refine wpAnyH_ready (rs := [18]) (by kernel_rfl) (by simp) ?_
                    refine AllReadyH.cons rfl (fun KQ hK => ?_) AllReadyH.nil
                    rw [if_pos (by rfl)]
                    refine wp_store_row (o := ⟨none, _, _, _, _, _⟩) 38 _ _ rfl _ (ints .u8 (c4)) rfl rfl 38 (ints .u8 z128) hg (by rw [ints_size, HC4.out]; exact sizeClash) (by rw [ints_size, ints_size, HC4.out]; rfl) (ints_one _ _) ?_
                    simp only [Act.put]
                    refine hK.out _ _ (Below.setRow hS hgg _) (fun hS => ?_)
                    clear hK
                    refine wpAnyH_done (by kernel_rfl) ?_ _
                    go_wp2_with fail
                    go_meet
                    exact ⟨_, rfl, hgg, setRow_heap _ _ _ _ _ _ hg, hS⟩
                · rw [if_pos (by rfl)]
                  go_simp
                  have hg := new_block (t := 38) Hz.out hS
                  have hgg := hS.size
                  refine hK.out _ _ (hS.alloc hS.size _) (fun hS => ?_)
                  clear hK
                  refine wpAnyH_ready (rs := [3]) (by kernel_rfl) (by simp) ?_
                  refine AllReadyH.cons rfl (fun KQ hK => ?_) AllReadyH.nil
                  rw [if_pos (by rfl)]
                  go_simp
                  refine (S1.out _ (B10.out.trans (hS.mono B10.out.size))).mono ?_
                  rintro e u0 ⟨rfl, hb⟩
                  have hg := keep_block hg hb
                  refine hK.out _ _ (below_call hS hS.size hb) (fun hS => ?_)
                  clear hb hK
                  refine wpAnyH_ready (rs := [7]) (by kernel_rfl) (by simp) ?_
                  refine AllReadyH.cons rfl (fun KQ hK => ?_) AllReadyH.nil
                  rw [if_pos (by rfl)]
                  go_simp
                  refine (S2.out _ (B10.out.trans (hS.mono B10.out.size))).mono ?_
                  rintro e u1 ⟨rfl, hb⟩
                  have hg := keep_block hg hb
                  refine hK.out _ _ (below_call hS hS.size hb) (fun hS => ?_)
                  clear hb hK
                  refine wpAnyH_ready (rs := [11]) (by kernel_rfl) (by simp) ?_
                  refine AllReadyH.cons rfl (fun KQ hK => ?_) AllReadyH.nil
                  rw [if_pos (by rfl)]
                  go_simp
                  refine (S3.out _ (B10.out.trans (hS.mono B10.out.size))).mono ?_
                  rintro e u2 ⟨rfl, hb⟩
                  have hg := keep_block hg hb
                  refine hK.out _ _ (below_call hS hS.size hb) (fun hS => ?_)
                  clear hb hK
                  refine wpAnyH_ready (rs := [15]) (by kernel_rfl) (by simp) ?_
                  refine AllReadyH.cons rfl (fun KQ hK => ?_) AllReadyH.nil
                  rw [if_pos (by rfl)]
                  go_simp
                  refine (S4.out _ (B10.out.trans (hS.mono B10.out.size))).mono ?_
                  rintro e u3 ⟨rfl, hb⟩
                  have hg := keep_block hg hb
                  refine hK.out _ _ (below_call hS hS.size hb) (fun hS => ?_)
                  clear hb hK
                  refine take_at (i := 16) (v := .agg (ints .u8 (c4))) rfl rfl (by kernel_rfl) (by kernel_rfl) (by kernel_rfl) (fun _ _ _ h => h) (yields_built (by rfl) 38 _ (ints .u8 (c4)) rfl (by simp only [List.map_toArray, List.map_cons, List.map_nil]; exact HB.out)) hS ?_
                  try simp only [List.setIfInBounds_toArray, List.set_cons_zero, List.set_cons_succ]
                  refine wpAnyH_ready (rs := [18]) (by kernel_rfl) (by simp) ?_
                  refine AllReadyH.cons rfl (fun KQ hK => ?_) AllReadyH.nil
                  rw [if_pos (by rfl)]
                  refine wp_store_row (o := ⟨none, _, _, _, _, _⟩) 38 _ _ rfl _ (ints .u8 (c4)) rfl rfl 38 (ints .u8 z128) hg (by rw [ints_size, HC4.out]; exact sizeClash) (by rw [ints_size, ints_size, HC4.out]; rfl) (ints_one _ _) ?_
                  simp only [Act.put]
                  refine hK.out _ _ (Below.setRow hS hgg _) (fun hS => ?_)
                  clear hK
                  refine wpAnyH_done (by kernel_rfl) ?_ _
                  go_wp2_with fail
                  go_meet
                  exact ⟨_, rfl, hgg, setRow_heap _ _ _ _ _ _ hg, hS⟩
              case rest =>
                obtain ⟨g, rfl, hgg, hG, hBX⟩ := hcut
                have B11 := Lib.hid (below_call B10.out B10.out.size hBX)
                have H11 := Lib.hid (keep_block H10.out hBX)
                have A11 := Lib.hid (keep_block A10.out hBX)
                have F11 := Lib.hid (keep_block F10.out hBX)
                have N11 := Lib.hid (keep_block N10.out hBX)
                have G11 := Lib.hid hG
                clear hG hBX hgg L10 F10 N10 B10 H10 A10 S1 S2 S3 S4 B9 H9 A9 B8 A8
                go_wp2_with (refine wpList_load_row rfl 38 (.tmp 11) rfl g rfl 38 (ints .u8 c4) (0, 0) _ G11.out Try.underlying38 rfl (by rw [ints_size, HC4.out]; exact sizeClash) ?_)
                refine (HUN.out _).mono ?_
                rintro e w12 ⟨rfl, hb⟩
                have B12 := Lib.hid (below_call B11.out B11.out.size hb)
                have H12 := Lib.hid (keep_block H11.out hb)
                have A12 := Lib.hid (keep_block A11.out hb)
                have F12 := Lib.hid (keep_block F11.out hb)
                have N12 := Lib.hid (keep_block N11.out hb)
                have G12 := Lib.hid (keep_block G11.out hb)
                clear hb
                cases dd with
                | false =>
                  have HF : Hid (CK = c4) := Lib.hid (HU.out (HUD.out.2 (of_decide_eq_false HDD.out)))
                  go_wp2_with (first | (refine wpList_load_row rfl 38 (.tmp 11) rfl g rfl 38 (ints .u8 c4) (0, 0) _ G12.out Try.underlying38 rfl (by rw [ints_size, HC4.out]; exact sizeClash) ?_) | (refine wpList_store_row rfl 38 _ _ rfl w.heap.size (ints .u8 c4) rfl rfl 38 (ints .u8 z128) A12.out (by rw [ints_size, HC4.out]; exact sizeClash) (by rw [ints_size, ints_size, HC4.out]; rfl) (ints_one _ _) ?_))
                  refine bodyPost_ret (results_cell2_row rfl _ _ w.heap.size 38 (ints .u8 c4) (0, 0) _ rfl (setRow_heap _ _ (ints .u8 z128) _ _ _ A12.out) Try.underlying38 rfl (by rw [ints_size, HC4.out]; exact sizeClash)) rfl ⟨by rw [HCK.out, HF.out]; rfl, ?_⟩
                  exact Below.setRow B12.out (Nat.le_refl _) _
                | true =>
                  have HN : Hid (¬ UU) := Lib.hid (fun h => HUD.out.1 h (of_decide_eq_true HDD.out))
                  have B13 := Lib.hid (Below.setRow (g := h) B12.out (by have := HWH.out; omega) (spanA (b + k) (b + l)))
                  have H13 := Lib.hid (setRow_heap w12 h (spanA b (b + l)) (spanA (b + k) (b + l)) _ _ H12.out)
                  have A13 := Lib.hid ((setRow_other w12 h w.heap.size (spanA (b + k) (b + l)) (by have := HWH.out; omega)).trans A12.out)
                  have F13 := Lib.hid ((setRow_other w12 h h9 (spanA (b + k) (b + l)) (by have := HHX.out; omega)).trans F12.out)
                  go_upto_region 13 with (first | (refine wpList_load_row rfl 96 (.tmp 10) rfl (h9 + 1) rfl 96 (spanA (b + k) (b + l)) (0, 0) _ N12.out Try.underlying96 rfl sizeSpan ?_) | (refine wpList_store_row rfl 96 (.tmp 8) _ rfl h (spanA (b + k) (b + l)) rfl rfl 96 (spanA b (b + l)) H12.out sizeSpan rfl (spanA_one _ _) ?_))
                  generalize w12.setRow h (spanA (b + k) (b + l)) = W13 at B13 H13 A13 F13 ⊢
                  try simp only [Act.put]
                  by_cases hs : ss = st
                  · rw [decide_eq_true hs] at HE2
                    have HR := Lib.hid (HNR.out HN.out hs)
                    clear hs
                    refine wp_region_held_drew (S := Below (W13).heap.size (W13)) (by kernel_rfl) ((Below.refl _ _).drew) (fun hS => ?_)
                    refine take_at (i := 0) (v := .slice (some ⟨aa, ao, none⟩) n ca) rfl rfl (by kernel_rfl) (by kernel_rfl) (by kernel_rfl) (fun _ _ _ h => h) (Or.inl ⟨by rfl, fun U hU => by go_simp⟩) hS ?_
                    try simp only [List.setIfInBounds_toArray, List.set_cons_zero, List.set_cons_succ]
                    refine take_at (i := 1) (v := .pointer (some ⟨h9, 0, none⟩)) rfl rfl (by kernel_rfl) (by kernel_rfl) (by kernel_rfl) (fun _ _ _ h => h) (Or.inl ⟨by rfl, fun U hU => by go_simp⟩) hS ?_
                    try simp only [List.setIfInBounds_toArray, List.set_cons_zero, List.set_cons_succ]
                    refine take_at (i := 2) (v := .int .i64 (b : Int)) rfl rfl (by kernel_rfl) (by kernel_rfl) (by kernel_rfl) (fun _ _ _ h => h) (Or.inl ⟨by rfl, fun U hU => by have cu := (cell_of_row U h9 0 _ _ _ (keep_block F13.out hU)).trans rfl; simp only [spanA] at cu; go_simp⟩) hS ?_
                    try simp only [List.setIfInBounds_toArray, List.set_cons_zero, List.set_cons_succ]
                    refine take_at (i := 3) (v := .pointer (some ⟨h9, 1, none⟩)) rfl rfl (by kernel_rfl) (by kernel_rfl) (by kernel_rfl) (fun _ _ _ h => h) (Or.inl ⟨by rfl, fun U hU => by go_simp⟩) hS ?_
                    try simp only [List.setIfInBounds_toArray, List.set_cons_zero, List.set_cons_succ]
                    refine take_at (i := 4) (v := .int .i64 ((b : Int) + (k : Int))) rfl rfl (by kernel_rfl) (by kernel_rfl) (by kernel_rfl) (fun _ _ _ h => h) (Or.inl ⟨by rfl, fun U hU => by have cu := (cell_of_row U h9 1 _ _ _ (keep_block F13.out hU)).trans rfl; simp only [spanA] at cu; go_simp⟩) hS ?_
                    try simp only [List.setIfInBounds_toArray, List.set_cons_zero, List.set_cons_succ]
                    refine take_at (i := 5) (v := .slice (some ⟨aa, ao + b * 32, none⟩) k (ca - b)) rfl rfl (by kernel_rfl) (by kernel_rfl) (by kernel_rfl) (fun _ _ _ h => h) (Or.inl ⟨by rfl, fun U hU => by go_simp⟩) hS ?_
                    try simp only [List.setIfInBounds_toArray, List.set_cons_zero, List.set_cons_succ]
                    refine take_at (i := 6) (v := .slice (some ⟨ab, bo, none⟩) n cb) rfl rfl (by kernel_rfl) (by kernel_rfl) (by kernel_rfl) (fun _ _ _ h => h) (Or.inl ⟨by rfl, fun U hU => by go_simp⟩) hS ?_
                    try simp only [List.setIfInBounds_toArray, List.set_cons_zero, List.set_cons_succ]
                    refine take_at (i := 7) (v := .pointer (some ⟨h9, 0, none⟩)) rfl rfl (by kernel_rfl) (by kernel_rfl) (by kernel_rfl) (fun _ _ _ h => h) (Or.inl ⟨by rfl, fun U hU => by go_simp⟩) hS ?_
                    try simp only [List.setIfInBounds_toArray, List.set_cons_zero, List.set_cons_succ]
                    refine take_at (i := 8) (v := .int .i64 (b : Int)) rfl rfl (by kernel_rfl) (by kernel_rfl) (by kernel_rfl) (fun _ _ _ h => h) (Or.inl ⟨by rfl, fun U hU => by have cu := (cell_of_row U h9 0 _ _ _ (keep_block F13.out hU)).trans rfl; simp only [spanA] at cu; go_simp⟩) hS ?_
                    try simp only [List.setIfInBounds_toArray, List.set_cons_zero, List.set_cons_succ]
                    refine take_at (i := 9) (v := .pointer (some ⟨h9, 1, none⟩)) rfl rfl (by kernel_rfl) (by kernel_rfl) (by kernel_rfl) (fun _ _ _ h => h) (Or.inl ⟨by rfl, fun U hU => by go_simp⟩) hS ?_
                    try simp only [List.setIfInBounds_toArray, List.set_cons_zero, List.set_cons_succ]
                    refine take_at (i := 10) (v := .int .i64 ((b : Int) + (k : Int))) rfl rfl (by kernel_rfl) (by kernel_rfl) (by kernel_rfl) (fun _ _ _ h => h) (Or.inl ⟨by rfl, fun U hU => by have cu := (cell_of_row U h9 1 _ _ _ (keep_block F13.out hU)).trans rfl; simp only [spanA] at cu; go_simp⟩) hS ?_
                    try simp only [List.setIfInBounds_toArray, List.set_cons_zero, List.set_cons_succ]
                    refine take_at (i := 11) (v := .slice (some ⟨ab, bo + b * 32, none⟩) k (cb - b)) rfl rfl (by kernel_rfl) (by kernel_rfl) (by kernel_rfl) (fun _ _ _ h => h) (Or.inl ⟨by rfl, fun U hU => by go_simp⟩) hS ?_
                    try simp only [List.setIfInBounds_toArray, List.set_cons_zero, List.set_cons_succ]
                    refine wpAnyH_ready (rs := [12]) (by kernel_rfl) (by simp) ?_
                    refine AllReadyH.cons rfl (fun KQ hK => ?_) AllReadyH.nil
                    rw [if_pos (by rfl)]
                    go_simp
                    refine (HE2.out _ (B13.out.trans (hS.mono B13.out.size))).mono ?_
                    rintro e u2 ⟨rfl, hb⟩
                    refine hK.out _ _ (below_call hS hS.size hb) (fun hS => ?_)
                    clear hb hK
                    refine take_at (i := 13) (v := .bool false) rfl rfl (by kernel_rfl) (by kernel_rfl) (by kernel_rfl) (fun _ _ _ h => h) (Or.inl ⟨by rfl, fun U hU => by go_simp⟩) hS ?_
                    try simp only [List.setIfInBounds_toArray, List.set_cons_zero, List.set_cons_succ]
                    refine wpAnyH_done (by kernel_rfl) ?_ _
                    go_wp2_with fail
                    go_roundw
                    case rel => exact ⟨b + k, l - k, by omega, HR.out.1, HR.out.2, by rw [show b + k + (l - k) = b + l by omega]; exact keep_block H13.out hS, keep_block A13.out hS, B13.out.trans (hS.mono B13.out.size)⟩
                    case measure => rw [spanN_of H8.out]; rw [spanN_of2 (by omega) (keep_block H13.out hS)]; omega
                  · rw [decide_eq_false hs] at HE2
                    have HL := Lib.hid (HNL.out HN.out hs)
                    clear hs
                    refine wp_region_held_drew (S := Below (W13).heap.size (W13)) (by kernel_rfl) ((Below.refl _ _).drew) (fun hS => ?_)
                    refine take_at (i := 0) (v := .slice (some ⟨aa, ao, none⟩) n ca) rfl rfl (by kernel_rfl) (by kernel_rfl) (by kernel_rfl) (fun _ _ _ h => h) (Or.inl ⟨by rfl, fun U hU => by go_simp⟩) hS ?_
                    try simp only [List.setIfInBounds_toArray, List.set_cons_zero, List.set_cons_succ]
                    refine take_at (i := 1) (v := .pointer (some ⟨h9, 0, none⟩)) rfl rfl (by kernel_rfl) (by kernel_rfl) (by kernel_rfl) (fun _ _ _ h => h) (Or.inl ⟨by rfl, fun U hU => by go_simp⟩) hS ?_
                    try simp only [List.setIfInBounds_toArray, List.set_cons_zero, List.set_cons_succ]
                    refine take_at (i := 2) (v := .int .i64 (b : Int)) rfl rfl (by kernel_rfl) (by kernel_rfl) (by kernel_rfl) (fun _ _ _ h => h) (Or.inl ⟨by rfl, fun U hU => by have cu := (cell_of_row U h9 0 _ _ _ (keep_block F13.out hU)).trans rfl; simp only [spanA] at cu; go_simp⟩) hS ?_
                    try simp only [List.setIfInBounds_toArray, List.set_cons_zero, List.set_cons_succ]
                    refine take_at (i := 3) (v := .pointer (some ⟨h9, 1, none⟩)) rfl rfl (by kernel_rfl) (by kernel_rfl) (by kernel_rfl) (fun _ _ _ h => h) (Or.inl ⟨by rfl, fun U hU => by go_simp⟩) hS ?_
                    try simp only [List.setIfInBounds_toArray, List.set_cons_zero, List.set_cons_succ]
                    refine take_at (i := 4) (v := .int .i64 ((b : Int) + (k : Int))) rfl rfl (by kernel_rfl) (by kernel_rfl) (by kernel_rfl) (fun _ _ _ h => h) (Or.inl ⟨by rfl, fun U hU => by have cu := (cell_of_row U h9 1 _ _ _ (keep_block F13.out hU)).trans rfl; simp only [spanA] at cu; go_simp⟩) hS ?_
                    try simp only [List.setIfInBounds_toArray, List.set_cons_zero, List.set_cons_succ]
                    refine take_at (i := 5) (v := .slice (some ⟨aa, ao + b * 32, none⟩) k (ca - b)) rfl rfl (by kernel_rfl) (by kernel_rfl) (by kernel_rfl) (fun _ _ _ h => h) (Or.inl ⟨by rfl, fun U hU => by go_simp⟩) hS ?_
                    try simp only [List.setIfInBounds_toArray, List.set_cons_zero, List.set_cons_succ]
                    refine take_at (i := 6) (v := .slice (some ⟨ab, bo, none⟩) n cb) rfl rfl (by kernel_rfl) (by kernel_rfl) (by kernel_rfl) (fun _ _ _ h => h) (Or.inl ⟨by rfl, fun U hU => by go_simp⟩) hS ?_
                    try simp only [List.setIfInBounds_toArray, List.set_cons_zero, List.set_cons_succ]
                    refine take_at (i := 7) (v := .pointer (some ⟨h9, 0, none⟩)) rfl rfl (by kernel_rfl) (by kernel_rfl) (by kernel_rfl) (fun _ _ _ h => h) (Or.inl ⟨by rfl, fun U hU => by go_simp⟩) hS ?_
                    try simp only [List.setIfInBounds_toArray, List.set_cons_zero, List.set_cons_succ]
                    refine take_at (i := 8) (v := .int .i64 (b : Int)) rfl rfl (by kernel_rfl) (by kernel_rfl) (by kernel_rfl) (fun _ _ _ h => h) (Or.inl ⟨by rfl, fun U hU => by have cu := (cell_of_row U h9 0 _ _ _ (keep_block F13.out hU)).trans rfl; simp only [spanA] at cu; go_simp⟩) hS ?_
                    try simp only [List.setIfInBounds_toArray, List.set_cons_zero, List.set_cons_succ]
                    refine take_at (i := 9) (v := .pointer (some ⟨h9, 1, none⟩)) rfl rfl (by kernel_rfl) (by kernel_rfl) (by kernel_rfl) (fun _ _ _ h => h) (Or.inl ⟨by rfl, fun U hU => by go_simp⟩) hS ?_
                    try simp only [List.setIfInBounds_toArray, List.set_cons_zero, List.set_cons_succ]
                    refine take_at (i := 10) (v := .int .i64 ((b : Int) + (k : Int))) rfl rfl (by kernel_rfl) (by kernel_rfl) (by kernel_rfl) (fun _ _ _ h => h) (Or.inl ⟨by rfl, fun U hU => by have cu := (cell_of_row U h9 1 _ _ _ (keep_block F13.out hU)).trans rfl; simp only [spanA] at cu; go_simp⟩) hS ?_
                    try simp only [List.setIfInBounds_toArray, List.set_cons_zero, List.set_cons_succ]
                    refine take_at (i := 11) (v := .slice (some ⟨ab, bo + b * 32, none⟩) k (cb - b)) rfl rfl (by kernel_rfl) (by kernel_rfl) (by kernel_rfl) (fun _ _ _ h => h) (Or.inl ⟨by rfl, fun U hU => by go_simp⟩) hS ?_
                    try simp only [List.setIfInBounds_toArray, List.set_cons_zero, List.set_cons_succ]
                    refine wpAnyH_ready (rs := [12]) (by kernel_rfl) (by simp) ?_
                    refine AllReadyH.cons rfl (fun KQ hK => ?_) AllReadyH.nil
                    rw [if_pos (by rfl)]
                    go_simp
                    refine (HE2.out _ (B13.out.trans (hS.mono B13.out.size))).mono ?_
                    rintro e u2 ⟨rfl, hb⟩
                    refine hK.out _ _ (below_call hS hS.size hb) (fun hS => ?_)
                    clear hb hK
                    refine take_at (i := 13) (v := .bool true) rfl rfl (by kernel_rfl) (by kernel_rfl) (by kernel_rfl) (fun _ _ _ h => h) (Or.inl ⟨by rfl, fun U hU => by go_simp⟩) hS ?_
                    try simp only [List.setIfInBounds_toArray, List.set_cons_zero, List.set_cons_succ]
                    refine wpAnyH_done (by kernel_rfl) ?_ _
                    have B14 := Lib.hid (Below.setRow (g := h) (B13.out.trans (hS.mono B13.out.size)) (by have := HWH.out; omega) (spanA b (b + k)))
                    have F14 := Lib.hid (keep_block F13.out hS)
                    have H14 := Lib.hid (keep_block H13.out hS)
                    have H15 := Lib.hid (setRow_heap _ h (spanA (b + k) (b + l)) (spanA b (b + k)) _ _ (keep_block H13.out hS))
                    have A14 := Lib.hid ((setRow_other _ h w.heap.size (spanA b (b + k)) (by have := HWH.out; omega)).trans (keep_block A13.out hS))
                    clear hS
                    go_wp2_with (first | (refine wpList_load_row rfl 96 (.tmp 9) rfl h9 rfl 96 (spanA b (b + k)) (0, 0) _ F14.out Try.underlying96 rfl sizeSpan ?_) | (refine wpList_store_row rfl 96 (.tmp 8) _ rfl h (spanA b (b + k)) rfl rfl 96 (spanA (b + k) (b + l)) H14.out sizeSpan rfl (spanA_one _ _) ?_))
                    try simp only [Act.put, List.setIfInBounds_toArray, List.set_cons_zero, List.set_cons_succ]
                    go_roundw
                    case rel => exact ⟨b, k, by omega, HL.out.1, HL.out.2, H15.out, A14.out, B14.out⟩
                    case measure => rw [spanN_of H8.out]; rw [spanN_of2 (by omega) H15.out]; omega
        · have hor : n ≠ n ∨ n = 0 ∨ tkey (keyAt fl) 0 n ≠ tkey (keyAt gl) 0 n := Or.inr (Or.inr h3)
          rw [if_pos hor, if_pos hor]
          rw [decide_eq_false h3] at heq
          clear hor h3
          generalize tkey (keyAt fl) 0 n = p at HK1 heq
          generalize tkey (keyAt gl) 0 n = q at HK2 heq
          go_enter Try.func80, Try.ntmps80
          go_wp2_with fail
          clear hW0
          refine (HK1.out _ B0.out).mono ?_
          rintro e w4 ⟨rfl, hb⟩
          have B4 := Lib.hid (below_call B0.out B0.out.size hb)
          have A4 := Lib.hid (keep_block A0.out hb)
          clear hb
          go_wp2_with fail
          refine (HK2.out _ B4.out).mono ?_
          rintro e w5 ⟨rfl, hb⟩
          have B5 := Lib.hid (below_call B4.out B4.out.size hb)
          have A5 := Lib.hid (keep_block A4.out hb)
          clear hb
          go_wp2_with (refine wpList_store_row rfl 38 _ _ rfl w.heap.size Try.zeroCells38 rfl rfl 38 (ints .u8 z128) A5.out (by rw [← Hz.out, ints_size]; exact sizeClash) (by rw [← Hz.out]) (by rw [← Hz.out]; exact ints_one _ _) ?_)
          refine bodyPost_ret (results_cell2_row rfl _ _ w.heap.size 38 Try.zeroCells38 (0, 0) _ rfl (setRow_heap _ _ (ints .u8 z128) _ _ _ A5.out) Try.underlying38 rfl (by rw [← Hz.out, ints_size]; exact sizeClash)) rfl ⟨by rw [Hz.out]; rfl, ?_⟩
          exact Below.setRow B5.out (Nat.le_refl _) _
    · rw [if_pos (Or.inl h1), if_pos (Or.inl h1)]
      have k3 : ¬ (n : Int) = (m : Int) := by omega
      go_enter Try.func80, Try.ntmps80
      go_wp2_with (refine wpList_store_row rfl 38 _ _ rfl w.heap.size Try.zeroCells38 rfl rfl 38 (ints .u8 z128) A0.out (by rw [← Hz.out, ints_size]; exact sizeClash) (by rw [← Hz.out]) (by rw [← Hz.out]; exact ints_one _ _) ?_)
      refine bodyPost_ret (results_cell2_row rfl _ _ w.heap.size 38 Try.zeroCells38 (0, 0) _ rfl (setRow_heap _ _ (ints .u8 z128) _ _ _ A0.out) Try.underlying38 rfl (by rw [← Hz.out, ints_size]; exact sizeClash)) rfl ⟨by rw [Hz.out]; rfl, ?_⟩
      exact Below.setRow B0.out (Nat.le_refl _) _
set_option maxRecDepth 100000 in
set_option maxHeartbeats 2000000 in
theorem cl_impl (a b : Option Addr) (n m ca cb : Nat) (fl gl : List Int) (hn : n ≤ 1048576) (hm : m ≤ 1048576) (hca : n ≤ ca) (hcb : m ≤ cb) (hma : ca ≤ maxLen) (hmb : cb ≤ maxLen) (fb : ∀ z ∈ fl, 0 ≤ z ∧ z ≤ 255) (gb : ∀ z ∈ gl, 0 ≤ z ∧ z ≤ 255) (w : World) (hr : RdK w a n fl) (hs : RdK w b m gl) :
    Calls Try.prog 27 #[.slice a n ca, .slice b m cb] w fun e w' => e = .returned (.tuple #[.agg (ints .u8 (clV n m fl gl)), .int .i64 (clE n m fl gl)]) ∧ Below w.heap.size w w' := by
  have Hz := Lib.hid z128_ints
  obtain ⟨x, y, u, v, hc, hx, hy, hu, hv⟩ := clV_size hr.1 hs.1 fb gb
  have HVL : Hid ((clV n m fl gl).length = 128) := Lib.hid (by rw [hc]; exact four_len hx hy hu hv)
  clear hc hx hy hu hv
  have A0 := Lib.hid (heap_alloc_last w (.cells (ints .u8 z128) 38))
  have B0 := Lib.hid ((Below.refl w.heap.size w).alloc (Nat.le_refl _) (.cells (ints .u8 z128) 38))
  obtain ⟨W0, hW0⟩ : ∃ W0, w.alloc (.cells (ints .u8 z128) 38) = W0 := ⟨_, rfl⟩
  rw [hW0] at A0 B0
  rw [Hz.out] at hW0
  have HC := Lib.hid (clf_impl a b n m ca cb fl gl hn hm hca hcb hma hmb fb gb W0 (hr.below B0.out) (hs.below B0.out))
  clear hr hs fb gb
  generalize clV n m fl gl = V at HVL HC ⊢
  generalize clE n m fl gl = E at HC ⊢
  go_enter Try.func27, Try.ntmps27
  go_wp2_with fail
  clear hW0
  refine HC.out.mono ?_
  rintro e w1 ⟨rfl, hb⟩
  have B1 := Lib.hid (below_call B0.out B0.out.size hb)
  have A1 := Lib.hid (keep_block A0.out hb)
  clear hb
  go_wp2_with (refine wpList_store_row rfl 38 _ _ rfl w.heap.size (ints .u8 V) rfl rfl 38 (ints .u8 z128) A1.out (by rw [ints_size, HVL.out]; exact sizeClash) (by rw [ints_size, ints_size, HVL.out]; rfl) (ints_one _ _) ?_)
  refine bodyPost_ret (results_cell2_row rfl _ _ w.heap.size 38 (ints .u8 V) (0, 0) _ rfl (setRow_heap _ _ (ints .u8 z128) _ _ _ A1.out) Try.underlying38 rfl (by rw [ints_size, HVL.out]; exact sizeClash)) rfl ⟨rfl, ?_⟩
  exact Below.setRow B1.out (Nat.le_refl _) _
end Go.Proofs.Ytcbcfjflaplkoaa
