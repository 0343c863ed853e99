/- The statement on CheckRange: its walk. Written by wip/gen/crs.py. -/
import Derived.Test.YtjcfpfegabnnlaaToldS
import Derived.Test.YtjcfpfegabnnlaaCrI
import Derived.Test.YtjcfpfegabnnlaaPeakS
namespace Go.Proofs.Ytjcfpfegabnnlaa
open Go.ChangeShapes Go.WideShapes Go.ChangeAt Go.RowKit
set_option linter.unusedVariables false
set_option linter.unusedSimpArgs false
theorem rdk_some0 {w : World} {a : Option Addr} {n : Nat} {fl : List Int} (hr : RdK w a n fl) : ∃ blk off, (0 < n → a = some ⟨blk, off + 0 * 32, none⟩) ∧ RdK w (some ⟨blk, off, none⟩) n fl := by
  by_cases h : 0 < n
  · obtain ⟨b, o, rfl⟩ := hr.form h
    exact ⟨b, o, fun _ => by rw [Nat.zero_mul, Nat.add_zero], hr⟩
  · exact ⟨0, 0, fun h' => absurd h' h, hr.1, Or.inl (by omega)⟩
set_option maxRecDepth 100000 in
set_option maxHeartbeats 4000000 in
theorem cr_spec (root : List Int) (al ap : Option Addr) (c cc P cp : Nat) (n i : Int) (lv fl : List Int) (hR : root.length = 32) (hc : c ≤ 1048576) (hP : P ≤ 1048576) (hcc : c ≤ cc) (hm : cc ≤ maxLen) (hpc : P ≤ cp) (hm2 : cp ≤ maxLen) (fbl : ∀ z ∈ lv, 0 ≤ z ∧ z ≤ 255) (fbp : ∀ z ∈ fl, 0 ≤ z ∧ z ≤ 255) (w : World) (hl : RdK w al c lv) (hp : RdK w ap P fl) :
    Calls Try.prog 34 #[.agg (ints .u8 root), .int .i64 n, .int .i64 i, .slice al c cc, .slice ap P cp] w fun x w' => x = .returned (.tuple #[.bool (crV root n i c P lv fl), .int .i64 (crE n i c P)]) ∧ Below w.heap.size w w' := by
  unfold crV crE
  have A0 := Lib.hid (heap_alloc_last w (.cells (ints .u8 root) 23))
  have B0 := Lib.hid ((Below.refl w.heap.size w).alloc (Nat.le_refl _) (.cells (ints .u8 root) 23))
  obtain ⟨W1, hW1⟩ : ∃ W1, w.alloc (.cells (ints .u8 root) 23) = W1 := ⟨_, rfl⟩
  have HSZ : Hid (W1.heap.size = w.heap.size + 1) := Lib.hid (by rw [← hW1]; simp)
  rw [hW1] at A0 B0
  have hc0 : (0 : Int) ≤ (c : Int) := by omega
  by_cases h : 256 < c ∨ 256 < P
  · rw [if_pos h, if_pos h]
    by_cases h1 : 256 < c
    · have k1 : (256 : Int) < (c : Int) := by omega
      go_enter Try.func34, Try.ntmps34
      go_wp2_with fail
      go_ret2
      exact ⟨rfl, B0.out⟩
    · have k1 : ¬ (256 : Int) < (c : Int) := by omega
      have k2 : (256 : Int) < (P : Int) := by omega
      go_enter Try.func34, Try.ntmps34
      go_wp2_with fail
      go_ret2
      exact ⟨rfl, B0.out⟩
  · rw [if_neg h, if_neg h]
    have k1 : ¬ (256 : Int) < (c : Int) := by omega
    have k2 : ¬ (256 : Int) < (P : Int) := by omega
    have k1' : (c : Int) ≤ 256 := by omega
    by_cases h2 : 1 ≤ n ∧ n ≤ 256
    · have Ha := Lib.hid (fun U => in_true n 1 256 h2.1 h2.2 U)
      have g1 := h2.1
      have g2 := h2.2
      by_cases h3 : 1 ≤ c
      · have k3 : ((c : Int) == 0) = false := by rw [beq_eq_false_iff_ne]; omega
        by_cases h4 : 0 ≤ i ∧ i ≤ n - (c : Int)
        · rw [if_pos (show crC n i c from ⟨g1, g2, h3, h4.1, by omega⟩), if_pos (show crC n i c from ⟨g1, g2, h3, h4.1, by omega⟩)]
          have Hb := Lib.hid (fun U => in_true i 0 (n - (c : Int)) h4.1 h4.2 U)
          obtain ⟨n', rfl⟩ := Int.eq_ofNat_of_zero_le (show 0 ≤ n by omega)
          obtain ⟨i', rfl⟩ := Int.eq_ofNat_of_zero_le h4.1
          obtain ⟨blk, off, rfl⟩ := hl.form h3
          obtain ⟨pb, po, hA, hp2⟩ := rdk_some0 hp
          rw [Int.toNat_natCast, Int.toNat_natCast]
          have Ht := Lib.hid (told_spec w blk off c cc pb po P n' i' lv fl (by omega) (by omega) hcc hm hP hl hp2 fbl fbp n' 0 0 P cp ap W1 (by omega) (by omega) (by omega) hA hpc hm2 B0.out)
          rw [show (i' : Int) - ((0 : Nat) : Int) = (i' : Int) by omega] at Ht
          have HR := Lib.hid hR
          have Hz := Lib.hid z32_ints
          unfold crB
          clear hl hp hp2 hA fbl fbp h4 h2
          generalize kgen (kdR i' c) (lfR lv i') (keyAt fl) n' 0 0 = K at Ht ⊢
          generalize need (kdR i' c) n' 0 = nd at Ht ⊢
          go_enter Try.func34, Try.ntmps34
          go_wp2_with fail
          refine (Ha.out _).mono ?_
          rintro x w5 ⟨rfl, rfl⟩
          go_wp2_with fail
          refine (Hb.out _).mono ?_
          rintro x w5 ⟨rfl, rfl⟩
          go_wp2_with fail
          clear hW1
          refine Ht.out.mono ?_
          rintro x w5 ⟨hb5, hT⟩
          have B5 := Lib.hid (below_call B0.out B0.out.size hb5)
          have A5 := Lib.hid (keep_block A0.out hb5)
          clear hb5
          rcases hT with ⟨hle, A', C', rfl, hK, _, _, _⟩ | ⟨hlt, k, A', m', C', hK, rfl⟩
          · have HK := Lib.hid hK
            have L6 := Lib.hid (laid_below w5 (ints .u8 z32) (ints .u8 K) 23)
            have N6 := Lib.hid (laid_new w5 (ints .u8 z32) (ints .u8 K) 23)
            have R6 := Lib.hid (laid_old (ints .u8 z32) (ints .u8 K) 23 A5.out)
            have B6 := Lib.hid (below_call B5.out B5.out.size L6.out)
            have hq := fun U => eqlKey K root HK.out.1 HR.out U
            by_cases h6 : P = nd
            · subst h6
              have k7 : P - P = 0 := Nat.sub_self P
              rw [k7]
              go_wp2_with (first | (refine wpList_store_row rfl 23 (.tmp 12) _ rfl w5.heap.size (ints .u8 K) rfl rfl 23 (ints .u8 z32) (by rw [Hz.out]; exact heap_alloc_last _ _) (by rw [ints_size, HK.out.1]; exact sizeKey) (by rw [ints_size, ints_size, HK.out.1]; rfl) (ints_one _ _) ?_) | (refine wpList_load_row_g (by rfl) 23 (.tmp 12) rfl w5.heap.size rfl 23 (ints .u8 K) (0, 0) _ (by rw [← Hz.out]; exact N6.out) Try.underlying23 rfl (by rw [ints_size, HK.out.1]; exact sizeKey) ?_) | (refine wpList_load_row_g (by rfl) 23 (.tmp 5) rfl w.heap.size rfl 23 (ints .u8 root) (0, 0) _ (by rw [← Hz.out]; exact R6.out) Try.underlying23 rfl (by rw [ints_size, HR.out]; exact sizeKey) ?_))
              go_ret2
              exact ⟨by simp, by rw [← Hz.out]; exact B6.out⟩
            · have k7 : (((P - nd : Nat) : Int) == 0) = false := by rw [beq_eq_false_iff_ne]; omega
              go_wp2_with (refine wpList_store_row rfl 23 (.tmp 12) _ rfl w5.heap.size (ints .u8 K) rfl rfl 23 (ints .u8 z32) (by rw [Hz.out]; exact heap_alloc_last _ _) (by rw [ints_size, HK.out.1]; exact sizeKey) (by rw [ints_size, ints_size, HK.out.1]; rfl) (ints_one _ _) ?_)
              go_ret2
              exact ⟨by simp [h6], by rw [← Hz.out]; exact B6.out⟩
          · have HK := Lib.hid hK
            have B6 := Lib.hid (below_call B5.out B5.out.size (laid_below w5 (ints .u8 z32) (ints .u8 k) 23))
            have h6 : ¬ P = nd := by omega
            go_wp2_with (refine wpList_store_row rfl 23 (.tmp 12) _ rfl w5.heap.size (ints .u8 k) rfl rfl 23 (ints .u8 z32) (by rw [Hz.out]; exact heap_alloc_last _ _) (by rw [ints_size, HK.out.1]; exact sizeKey) (by rw [ints_size, ints_size, HK.out.1]; rfl) (ints_one _ _) ?_)
            go_ret2
            exact ⟨by simp [h6], by rw [← Hz.out]; exact B6.out⟩
        · rw [if_neg (fun hh => h4 ⟨hh.2.2.2.1, by have := hh.2.2.2.2; omega⟩), if_neg (fun hh => h4 ⟨hh.2.2.2.1, by have := hh.2.2.2.2; omega⟩)]
          have Hb := Lib.hid (fun U => in_false i 0 (n - (c : Int)) h4 U)
          go_enter Try.func34, Try.ntmps34
          go_wp2_with fail
          refine (Ha.out _).mono ?_
          rintro x w5 ⟨rfl, rfl⟩
          go_wp2_with fail
          refine (Hb.out _).mono ?_
          rintro x w5 ⟨rfl, rfl⟩
          go_wp2_with fail
          go_ret2
          exact ⟨rfl, B0.out⟩
      · rw [if_neg (fun hh => h3 hh.2.2.1), if_neg (fun hh => h3 hh.2.2.1)]
        have k3 : ((c : Int) == 0) = true := by rw [beq_iff_eq]; omega
        go_enter Try.func34, Try.ntmps34
        go_wp2_with fail
        refine (Ha.out _).mono ?_
        rintro x w5 ⟨rfl, rfl⟩
        go_wp2_with fail
        go_ret2
        exact ⟨rfl, B0.out⟩
    · rw [if_neg (fun hh => h2 ⟨hh.1, hh.2.1⟩), if_neg (fun hh => h2 ⟨hh.1, hh.2.1⟩)]
      have Ha := Lib.hid (fun U => in_false n 1 256 h2 U)
      go_enter Try.func34, Try.ntmps34
      go_wp2_with fail
      refine (Ha.out _).mono ?_
      rintro x w5 ⟨rfl, rfl⟩
      go_wp2_with fail
      go_ret2
      exact ⟨rfl, B0.out⟩
end Go.Proofs.Ytjcfpfegabnnlaa
namespace Go.Proofs.Ytjcfpfegabnnlaa
open Go.ChangeShapes Go.WideShapes Go.ChangeAt Go.RowKit
set_option linter.unusedVariables false
set_option linter.unusedSimpArgs false
set_option maxRecDepth 100000 in
set_option maxHeartbeats 4000000 in
theorem crl_in (root : List Int) (al ap : Option Addr) (c cc P cp : Nat) (n i : Int) (lv fl : List Int) (V : Bool) (E : Int) (hR : root.length = 32) (hc : c ≤ 1048576) (hP : c + P ≤ 1048576) (w : World) (hl : RdK w al c lv) (hp : RdK w ap P fl)
    (hs : ∀ (U : World) a b, RdK U a c lv → RdK U b P fl → Calls Try.prog 34 #[.agg (ints .u8 root), .int .i64 n, .int .i64 i, .slice a c c, .slice b P P] U fun x w' => x = .returned (.tuple #[.bool V, .int .i64 E]) ∧ Below U.heap.size U w')
    (hi : ∀ (U : World) a b, RdK U a c lv → RdK U b P fl → Calls Try.prog 35 #[.agg (ints .u8 root), .int .i64 n, .int .i64 i, .slice a c c, .slice b P P] U fun x w' => x = .returned (.tuple #[.bool V, .int .i64 E]) ∧ Below U.heap.size U w') :
    Calls Try.prog 9 #[.agg (ints .u8 root), .int .i64 n, .int .i64 i, .slice al c cc, .slice ap P cp] w fun e w' => e = .returned (.bool true) ∧ Below w.heap.size w w' := by
  have HR := Lib.hid hR
  have HL := Lib.hid hl
  have HP := Lib.hid hp
  have Ll := Lib.hid hl.1
  have Lp := Lib.hid hp.1
  have Hs := Lib.hid hs
  have Hi := Lib.hid hi
  have A0 := Lib.hid (heap_alloc_last w (.cells (ints .u8 root) 22))
  have B0 := Lib.hid ((Below.refl w.heap.size w).alloc (Nat.le_refl _) (.cells (ints .u8 root) 22))
  clear hl hp hs hi
  go_enter Try.func9, Try.ntmps9
  go_wp2_with fail
  generalize w.alloc (.cells (ints .u8 root) 22) = W1 at A0 B0 ⊢
  refine (szKS_in al c cc 1048576 (by omega) (by omega) (by omega) _).mono ?_
  rintro e v0 ⟨rfl, rfl⟩
  have k1 : ¬ (1048576 : Int) - (c : Int) < 0 := by omega
  go_wp2_with fail
  refine (szKS_in ap P cp ((1048576 : Int) - (c : Int)) (by omega) (by omega) (by omega) _).mono ?_
  rintro e v0 ⟨rfl, rfl⟩
  have k2 : ¬ (1048576 : Int) - (c : Int) - (P : Int) < 0 := by omega
  go_wp2_with (refine wpList_load_row rfl 22 (.tmp 5) rfl w.heap.size rfl 22 (ints .u8 root) (0, 0) _ A0.out Try.underlying22 rfl (by rw [ints_size, HR.out]; exact sizeA32) ?_)
  refine (toKey_ root HR.out _).mono ?_
  rintro e w2 ⟨rfl, hb⟩
  have B2 := Lib.hid (below_call B0.out B0.out.size hb)
  have A2 := Lib.hid (keep_block A0.out hb)
  clear hb
  go_wp2_with fail
  refine (toKS al c cc lv hc _ (HL.out.below B2.out)).mono ?_
  rintro e w3 ⟨rfl, hg, hb⟩
  have B3 := Lib.hid (below_call B2.out B2.out.size hb)
  have A3 := Lib.hid (keep_block A2.out hb)
  have X3 := Lib.hid hg
  clear hg hb
  generalize w2.heap.size = x3 at X3 ⊢
  go_wp2_with fail
  refine (toKS ap P cp fl (by omega) _ (HP.out.below B3.out)).mono ?_
  rintro e w4 ⟨rfl, hg, hb⟩
  have B4 := Lib.hid (below_call B3.out B3.out.size hb)
  have A4 := Lib.hid (keep_block A3.out hb)
  have X4 := Lib.hid (keep_block X3.out hb)
  have Y4 := Lib.hid hg
  clear hg hb
  generalize w3.heap.size = y4 at Y4 ⊢
  go_wp2_with fail
  refine (Hs.out _ _ _ (RdK.row Ll.out X4.out) (RdK.row Lp.out Y4.out)).mono ?_
  rintro e w5 ⟨rfl, hb⟩
  have B5 := Lib.hid (below_call B4.out B4.out.size hb)
  have A5 := Lib.hid (keep_block A4.out hb)
  clear hb X4 Y4 X3
  go_wp2_with fail
  refine (toKS al c cc lv hc _ (HL.out.below B5.out)).mono ?_
  rintro e w6 ⟨rfl, hg, hb⟩
  have B6 := Lib.hid (below_call B5.out B5.out.size hb)
  have A6 := Lib.hid (keep_block A5.out hb)
  have X6 := Lib.hid hg
  clear hg hb
  generalize w5.heap.size = x6 at X6 ⊢
  go_wp2_with fail
  refine (toKS ap P cp fl (by omega) _ (HP.out.below B6.out)).mono ?_
  rintro e w7 ⟨rfl, hg, hb⟩
  have B7 := Lib.hid (below_call B6.out B6.out.size hb)
  have A7 := Lib.hid (keep_block A6.out hb)
  have X7 := Lib.hid (keep_block X6.out hb)
  have Y7 := Lib.hid hg
  clear hg hb
  generalize w6.heap.size = y7 at Y7 ⊢
  go_wp2_with (refine wpList_load_row rfl 22 (.tmp 5) rfl w.heap.size rfl 22 (ints .u8 root) (0, 0) _ A7.out Try.underlying22 rfl (by rw [ints_size, HR.out]; exact sizeA32) ?_)
  refine (toKey_ root HR.out _).mono ?_
  rintro e w8 ⟨rfl, hb⟩
  have B8 := Lib.hid (below_call B7.out B7.out.size hb)
  have X8 := Lib.hid (keep_block X7.out hb)
  have Y8 := Lib.hid (keep_block Y7.out hb)
  clear hb
  go_wp2_with fail
  refine (Hi.out _ _ _ (RdK.row Ll.out X8.out) (RdK.row Lp.out Y8.out)).mono ?_
  rintro e w9 ⟨rfl, hb⟩
  have B9 := Lib.hid (below_call B8.out B8.out.size hb)
  have X9 := Lib.hid (keep_block X8.out hb)
  have Y9 := Lib.hid (keep_block Y8.out hb)
  clear hb
  go_wp2_with fail
  refine (toKS al c cc lv hc _ (HL.out.below B9.out)).mono ?_
  rintro e w10 ⟨rfl, hg, hb⟩
  have B10 := Lib.hid (below_call B9.out B9.out.size hb)
  have X10 := Lib.hid (keep_block X9.out hb)
  have Y10 := Lib.hid (keep_block Y9.out hb)
  have Z10 := Lib.hid hg
  clear hg hb
  generalize w9.heap.size = z10 at Z10 ⊢
  go_wp2_with fail
  refine (eqKS _ _ c c c lv hc _ (RdK.row Ll.out X10.out) (RdK.row Ll.out Z10.out)).mono ?_
  rintro e w11 ⟨rfl, hb⟩
  have B11 := Lib.hid (below_call B10.out B10.out.size hb)
  have Y11 := Lib.hid (keep_block Y10.out hb)
  clear hb
  go_wp2_with fail
  refine (toKS ap P cp fl (by omega) _ (HP.out.below B11.out)).mono ?_
  rintro e w12 ⟨rfl, hg, hb⟩
  have B12 := Lib.hid (below_call B11.out B11.out.size hb)
  have Y12 := Lib.hid (keep_block Y11.out hb)
  have Z12 := Lib.hid hg
  clear hg hb
  generalize w11.heap.size = z12 at Z12 ⊢
  go_wp2_with fail
  refine (eqKS _ _ P P P fl (by omega) _ (RdK.row Lp.out Y12.out) (RdK.row Lp.out Z12.out)).mono ?_
  rintro e w13 ⟨rfl, hb⟩
  have B13 := Lib.hid (below_call B12.out B12.out.size hb)
  clear hb
  go_wp2
  go_ret
  exact ⟨rfl, B13.out⟩
set_option maxRecDepth 100000 in
set_option maxHeartbeats 1000000 in
theorem crl_out (root : List Int) (al ap : Option Addr) (c cc P cp : Nat) (n i : Int) (h1 : c ≤ maxLen) (h2 : P ≤ maxLen) (hn : ¬ c + P ≤ 1048576) (w : World) :
    Calls Try.prog 9 #[.agg (ints .u8 root), .int .i64 n, .int .i64 i, .slice al c cc, .slice ap P cp] w fun e w' => e = .returned (.bool true) ∧ Below w.heap.size w w' := by
  unfold maxLen at h1 h2
  have B0 := Lib.hid ((Below.refl w.heap.size w).alloc (Nat.le_refl _) (.cells (ints .u8 root) 22))
  by_cases hc : c ≤ 1048576
  · go_enter Try.func9, Try.ntmps9
    go_wp2_with fail
    refine (szKS_in al c cc 1048576 (by omega) (by omega) (by omega) _).mono ?_
    rintro e v0 ⟨rfl, rfl⟩
    have k1 : ¬ (1048576 : Int) - (c : Int) < 0 := by omega
    go_wp2_with fail
    refine (szKS_out ap P cp ((1048576 : Int) - (c : Int)) (by omega) (by omega) h2 (by omega) _).mono ?_
    rintro e v0 ⟨rfl, rfl⟩
    go_wp2
    go_ret
    exact ⟨rfl, B0.out⟩
  · go_enter Try.func9, Try.ntmps9
    go_wp2_with fail
    refine (szKS_out al c cc 1048576 (by omega) (by omega) h1 (by omega) _).mono ?_
    rintro e v0 ⟨rfl, rfl⟩
    go_wp2
    go_ret
    exact ⟨rfl, B0.out⟩
theorem FnExactCheckRange_walk (root : List Int) (n i : Int) (al : Option Addr) (c cc : Nat) (lv : List Int) (ap : Option Addr) (P cp : Nat) (fl : List Int) (w : World) (hR : root.length = 32) (fR : ∀ z ∈ root, (Lit.int .u8 z).wf = true) (f1 : (Lit.int .i64 n).wf = true) (f2 : (Lit.int .i64 i).wf = true) (fl1 : IsKeys w al c lv) (fl2 : IsKeys w ap P fl) :
    Calls Try.prog 9 #[.agg (ints .u8 root), .int .i64 n, .int .i64 i, .slice al c cc, .slice ap P cp] w fun e w' => e = .returned (.bool true) ∧ Below w.heap.size w w' := by
  by_cases h : c + P ≤ 1048576
  · exact crl_in root al ap c cc P cp n i lv fl (crV root n i c P lv fl) (crE n i c P) hR (by omega) h w fl1.2.1 fl2.2.1
      (fun U a b ha hb => cr_spec root a b c c P P n i lv fl hR (by omega) (by omega) (Nat.le_refl _) (by unfold maxLen; omega) (Nat.le_refl _) (by unfold maxLen; omega) fl1.2.2 fl2.2.2 U ha hb)
      (fun U a b ha hb => cr_impl root a b c c P P n i lv fl hR (by omega) (by omega) (Nat.le_refl _) (by unfold maxLen; omega) fl1.2.2 fl2.2.2 U ha hb)
  · exact crl_out root al ap c cc P cp n i fl1.1 fl2.1 h w
end Go.Proofs.Ytjcfpfegabnnlaa
