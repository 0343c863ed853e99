/- ClashOf, by the specification. Written by wip/gen/cll.py. -/
import Derived.Test.YtcbcfjflaplkoaaClS
namespace Go.Proofs.Ytcbcfjflaplkoaa
open Go.ChangeShapes Go.WideShapes Go.ChangeAt Go.RowKit
set_option linter.unusedVariables false
set_option linter.unusedSimpArgs false
set_option maxRecDepth 100000 in
set_option maxHeartbeats 8000000 in
theorem cl_spec (a b : Option Addr) (n m ca cb : Nat) (fl gl : List Int) (hn : n ≤ 1048576) (hm : m ≤ 1048576) (hca : n ≤ ca) (hcb : m ≤ cb) (hma : ca ≤ maxLen) (hmb : cb ≤ maxLen) (fb : ∀ z ∈ fl, 0 ≤ z ∧ z ≤ 255) (gb : ∀ z ∈ gl, 0 ≤ z ∧ z ≤ 255) (w : World) (hr : RdK w a n fl) (hs : RdK w b m gl) :
    Calls Try.prog 34 #[.slice a n ca, .slice b m cb] w fun e w' => e = .returned (.tuple #[.agg (ints .u8 (clV n m fl gl)), .int .i64 (clE n m fl gl)]) ∧ Below w.heap.size w w' := by
  unfold clV clE
  have Hz := Lib.hid z128_ints
  have A0 := Lib.hid (heap_alloc_last w (.cells (ints .u8 z128) 38))
  have B0 := Lib.hid ((Below.refl w.heap.size w).alloc (Nat.le_refl _) (.cells (ints .u8 z128) 38))
  obtain ⟨W0, hW0⟩ : ∃ W0, w.alloc (.cells (ints .u8 z128) 38) = W0 := ⟨_, rfl⟩
  rw [hW0] at A0 B0
  rw [Hz.out] at hW0
  have n0 : (0 : Int) ≤ (n : Int) := by omega
  have n1 : (n : Int) ≤ 1048576 := by omega
  have m0 : (0 : Int) ≤ (m : Int) := by omega
  have m1 : (m : Int) ≤ 1048576 := by omega
  by_cases h : 256 < n ∨ 256 < m
  · rw [if_pos h, if_pos h]
    by_cases h1 : 256 < n
    · have k1 : (256 : Int) < (n : Int) := by omega
      go_enter Try.func34, Try.ntmps34
      go_wp2_with (refine wpList_store_row rfl 38 _ _ rfl w.heap.size Try.zeroCells38 rfl rfl 38 (ints .u8 z128) A0.out (by rw [← Hz.out, ints_size]; exact sizeClash) (by rw [← Hz.out]) (by rw [← Hz.out]; exact ints_one _ _) ?_)
      refine bodyPost_ret (results_cell2_row rfl _ _ w.heap.size 38 Try.zeroCells38 (0, 0) _ rfl (setRow_heap _ _ (ints .u8 z128) _ _ _ A0.out) Try.underlying38 rfl (by rw [← Hz.out, ints_size]; exact sizeClash)) rfl ⟨by rw [Hz.out]; rfl, ?_⟩
      exact Below.setRow B0.out (Nat.le_refl _) _
    · have k1 : ¬ (256 : Int) < (n : Int) := by omega
      have k2 : (256 : Int) < (m : Int) := by omega
      go_enter Try.func34, Try.ntmps34
      go_wp2_with (refine wpList_store_row rfl 38 _ _ rfl w.heap.size Try.zeroCells38 rfl rfl 38 (ints .u8 z128) A0.out (by rw [← Hz.out, ints_size]; exact sizeClash) (by rw [← Hz.out]) (by rw [← Hz.out]; exact ints_one _ _) ?_)
      refine bodyPost_ret (results_cell2_row rfl _ _ w.heap.size 38 Try.zeroCells38 (0, 0) _ rfl (setRow_heap _ _ (ints .u8 z128) _ _ _ A0.out) Try.underlying38 rfl (by rw [← Hz.out, ints_size]; exact sizeClash)) rfl ⟨by rw [Hz.out]; rfl, ?_⟩
      exact Below.setRow B0.out (Nat.le_refl _) _
  · rw [if_neg h, if_neg h]
    have k1 : ¬ (256 : Int) < (n : Int) := by omega
    have k2 : ¬ (256 : Int) < (m : Int) := by omega
    by_cases h2 : n = 0
    · subst h2
      rw [if_pos (Or.inr (Or.inl rfl)), if_pos (Or.inr (Or.inl rfl))]
      go_enter Try.func34, Try.ntmps34
      go_wp2_with (refine wpList_store_row rfl 38 _ _ rfl w.heap.size Try.zeroCells38 rfl rfl 38 (ints .u8 z128) A0.out (by rw [← Hz.out, ints_size]; exact sizeClash) (by rw [← Hz.out]) (by rw [← Hz.out]; exact ints_one _ _) ?_)
      refine bodyPost_ret (results_cell2_row rfl _ _ w.heap.size 38 Try.zeroCells38 (0, 0) _ rfl (setRow_heap _ _ (ints .u8 z128) _ _ _ A0.out) Try.underlying38 rfl (by rw [← Hz.out, ints_size]; exact sizeClash)) rfl ⟨by rw [Hz.out]; rfl, ?_⟩
      exact Below.setRow B0.out (Nat.le_refl _) _
    · have k3 : ¬ (n : Int) = 0 := by omega
      have k3' : ((n : Int) == 0) = false := beq_eq_false_iff_ne.2 k3
      by_cases h1 : n = m
      · subst h1
        obtain ⟨aa, ao, rfl⟩ := hr.form (by omega)
        obtain ⟨ab, bo, rfl⟩ := hs.form (by omega)
        have HK1 := Lib.hid (fun U (hU : Below w.heap.size w U) => key_spec n aa ao ca fl U (by omega) hn hca hma fb (hr.below hU))
        have HK2 := Lib.hid (fun U (hU : Below w.heap.size w U) => key_spec n ab bo cb gl U (by omega) hn hcb hmb gb (hs.below hU))
        have HT1 := Lib.hid (tkey32 (b := 0) hr.1 fb (show 1 ≤ n by omega) (by omega))
        have HT2 := Lib.hid (tkey32 (b := 0) hs.1 gb (show 1 ≤ n by omega) (by omega))
        have heq := fun U => eqlIn2 (tkey (keyAt fl) 0 n) (tkey (keyAt gl) 0 n) HT1.out.1 HT2.out.1 U
        by_cases h3 : tkey (keyAt fl) 0 n = tkey (keyAt gl) 0 n
        · have HE := Lib.hid (fun U (hU : Below w.heap.size w U) => lists_spec (some ⟨aa, ao, none⟩) (some ⟨ab, bo, none⟩) n n ca cb fl gl hn hn U (hr.below hU) (hs.below hU))
          have hor : ¬ (n ≠ n ∨ n = 0 ∨ tkey (keyAt fl) 0 n ≠ tkey (keyAt gl) 0 n) := by rintro (e | e | e); exact e rfl; exact h2 e; exact e h3
          rw [if_neg hor, if_neg hor]
          clear hor
          rw [decide_eq_true h3] at heq
          have H3 := Lib.hid h3
          clear h3
          by_cases h4 : fl = gl
          · rw [if_pos h4, if_pos h4]
            rw [decide_eq_true h4] at HE
            clear h4 H3
            generalize tkey (keyAt fl) 0 n = p at HK1 heq
            generalize tkey (keyAt gl) 0 n = q at HK2 heq
            go_enter Try.func34, Try.ntmps34
            go_wp2_with fail
            clear hW0
            refine (HK1.out _ B0.out).mono ?_
            rintro e w4 ⟨rfl, hb⟩
            have B4 := Lib.hid (below_call B0.out B0.out.size hb)
            have A4 := Lib.hid (keep_block A0.out hb)
            clear hb
            go_wp2_with fail
            refine (HK2.out _ B4.out).mono ?_
            rintro e w5 ⟨rfl, hb⟩
            have B5 := Lib.hid (below_call B4.out B4.out.size hb)
            have A5 := Lib.hid (keep_block A4.out hb)
            clear hb
            go_wp2_with fail
            refine (HE.out _ B5.out).mono ?_
            rintro e w6 ⟨rfl, hb⟩
            have B6 := Lib.hid (below_call B5.out B5.out.size hb)
            have A6 := Lib.hid (keep_block A5.out hb)
            clear hb B4 A4 B5 A5
            go_wp2_with (refine wpList_store_row rfl 38 _ _ rfl w.heap.size Try.zeroCells38 rfl rfl 38 (ints .u8 z128) A6.out (by rw [← Hz.out, ints_size]; exact sizeClash) (by rw [← Hz.out]) (by rw [← Hz.out]; exact ints_one _ _) ?_)
            refine bodyPost_ret (results_cell2_row rfl _ _ w.heap.size 38 Try.zeroCells38 (0, 0) _ rfl (setRow_heap _ _ (ints .u8 z128) _ _ _ A6.out) Try.underlying38 rfl (by rw [← Hz.out, ints_size]; exact sizeClash)) rfl ⟨by rw [Hz.out]; rfl, ?_⟩
            exact Below.setRow B6.out (Nat.le_refl _) _
          · rw [if_neg h4, if_neg h4]
            rw [decide_eq_false h4] at HE
            have HO : clO fl gl 0 n := ⟨by omega, H3.out, by rw [subK_all hr.1, subK_all hs.1]; exact h4⟩
            have HCL := Lib.hid (fun U (hU : Below w.heap.size w U) => by
              have := clash_spec w aa ao ab bo n fl gl hn hr hs fb gb n 0 ca cb U (by omega) hca hcb hma hmb HO hU
              rwa [Nat.zero_mul, Nat.add_zero, Nat.add_zero] at this)
            have HVL : Hid ((clK fl gl 0 n).length = 128) := Lib.hid (by
              obtain ⟨x, y, u, v, hc, hx, hy, hu, hv, _⟩ := clK_is hr.1 hs.1 fb gb n 0 (by omega) HO
              rw [hc]; exact four_len hx.1 hy.1 hu.1 hv.1)
            clear h4 H3 hr hs fb gb HO
            generalize tkey (keyAt fl) 0 n = p at HK1 heq
            generalize tkey (keyAt gl) 0 n = q at HK2 heq
            generalize clK fl gl 0 n = CK at HCL HVL ⊢
            go_enter Try.func34, Try.ntmps34
            go_wp2_with fail
            clear hW0
            refine (HK1.out _ B0.out).mono ?_
            rintro e w4 ⟨rfl, hb⟩
            have B4 := Lib.hid (below_call B0.out B0.out.size hb)
            have A4 := Lib.hid (keep_block A0.out hb)
            clear hb
            go_wp2_with fail
            refine (HK2.out _ B4.out).mono ?_
            rintro e w5 ⟨rfl, hb⟩
            have B5 := Lib.hid (below_call B4.out B4.out.size hb)
            have A5 := Lib.hid (keep_block A4.out hb)
            clear hb
            go_wp2_with fail
            refine (HE.out _ B5.out).mono ?_
            rintro e w6 ⟨rfl, hb⟩
            have B6 := Lib.hid (below_call B5.out B5.out.size hb)
            have A6 := Lib.hid (keep_block A5.out hb)
            clear hb B4 A4 B5 A5
            go_wp2_with fail
            refine (HCL.out _ B6.out).mono ?_
            rintro e w7 ⟨rfl, hb⟩
            have B7 := Lib.hid (below_call B6.out B6.out.size hb)
            have A7 := Lib.hid (keep_block A6.out hb)
            clear hb
            go_wp2_with (refine wpList_store_row rfl 38 _ _ rfl w.heap.size (ints .u8 CK) rfl rfl 38 (ints .u8 z128) A7.out (by rw [ints_size, HVL.out]; exact sizeClash) (by rw [ints_size, ints_size, HVL.out]; rfl) (ints_one _ _) ?_)
            refine bodyPost_ret (results_cell2_row rfl _ _ w.heap.size 38 (ints .u8 CK) (0, 0) _ rfl (setRow_heap _ _ (ints .u8 z128) _ _ _ A7.out) Try.underlying38 rfl (by rw [ints_size, HVL.out]; exact sizeClash)) rfl ⟨rfl, ?_⟩
            exact Below.setRow B7.out (Nat.le_refl _) _
        · have hor : n ≠ n ∨ n = 0 ∨ tkey (keyAt fl) 0 n ≠ tkey (keyAt gl) 0 n := Or.inr (Or.inr h3)
          rw [if_pos hor, if_pos hor]
          rw [decide_eq_false h3] at heq
          clear hor h3
          generalize tkey (keyAt fl) 0 n = p at HK1 heq
          generalize tkey (keyAt gl) 0 n = q at HK2 heq
          go_enter Try.func34, Try.ntmps34
          go_wp2_with fail
          clear hW0
          refine (HK1.out _ B0.out).mono ?_
          rintro e w4 ⟨rfl, hb⟩
          have B4 := Lib.hid (below_call B0.out B0.out.size hb)
          have A4 := Lib.hid (keep_block A0.out hb)
          clear hb
          go_wp2_with fail
          refine (HK2.out _ B4.out).mono ?_
          rintro e w5 ⟨rfl, hb⟩
          have B5 := Lib.hid (below_call B4.out B4.out.size hb)
          have A5 := Lib.hid (keep_block A4.out hb)
          clear hb
          go_wp2_with (refine wpList_store_row rfl 38 _ _ rfl w.heap.size Try.zeroCells38 rfl rfl 38 (ints .u8 z128) A5.out (by rw [← Hz.out, ints_size]; exact sizeClash) (by rw [← Hz.out]) (by rw [← Hz.out]; exact ints_one _ _) ?_)
          refine bodyPost_ret (results_cell2_row rfl _ _ w.heap.size 38 Try.zeroCells38 (0, 0) _ rfl (setRow_heap _ _ (ints .u8 z128) _ _ _ A5.out) Try.underlying38 rfl (by rw [← Hz.out, ints_size]; exact sizeClash)) rfl ⟨by rw [Hz.out]; rfl, ?_⟩
          exact Below.setRow B5.out (Nat.le_refl _) _
      · rw [if_pos (Or.inl h1), if_pos (Or.inl h1)]
        have k4 : ¬ (n : Int) = (m : Int) := by omega
        go_enter Try.func34, Try.ntmps34
        go_wp2_with (refine wpList_store_row rfl 38 _ _ rfl w.heap.size Try.zeroCells38 rfl rfl 38 (ints .u8 z128) A0.out (by rw [← Hz.out, ints_size]; exact sizeClash) (by rw [← Hz.out]) (by rw [← Hz.out]; exact ints_one _ _) ?_)
        refine bodyPost_ret (results_cell2_row rfl _ _ w.heap.size 38 Try.zeroCells38 (0, 0) _ rfl (setRow_heap _ _ (ints .u8 z128) _ _ _ A0.out) Try.underlying38 rfl (by rw [← Hz.out, ints_size]; exact sizeClash)) rfl ⟨by rw [Hz.out]; rfl, ?_⟩
        exact Below.setRow B0.out (Nat.le_refl _) _
end Go.Proofs.Ytcbcfjflaplkoaa
