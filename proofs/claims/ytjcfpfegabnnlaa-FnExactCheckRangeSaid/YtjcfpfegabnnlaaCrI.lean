/- CheckRange, by the program. Written by wip/gen/cri.py. -/
import Derived.Test.YtjcfpfegabnnlaaTellR
import Derived.Test.YtjcfpfegabnnlaaEq
import Derived.Test.YtjcfpfegabnnlaaDepth
namespace Go.Proofs.Ytjcfpfegabnnlaa
open Go.ChangeShapes Go.WideShapes Go.ChangeAt Go.RowKit
set_option linter.unusedVariables false
set_option linter.unusedSimpArgs false
theorem kdR_one (i c b : Nat) : kdR i c b 1 ≤ 1 := by
  unfold kdR
  split
  · omega
  · simp
def crB (root : List Int) (n i c P : Nat) (lv fl : List Int) : Bool := decide (P = need (kdR i c) n 0) && decide (kgen (kdR i c) (lfR lv i) (keyAt fl) n 0 0 = root)
def crC (n i : Int) (c : Nat) : Prop := 1 ≤ n ∧ n ≤ 256 ∧ 1 ≤ c ∧ 0 ≤ i ∧ i + (c : Int) ≤ n
instance (n i : Int) (c : Nat) : Decidable (crC n i c) := by unfold crC; infer_instance
def crE (n i : Int) (c P : Nat) : Int := if 256 < c ∨ 256 < P then 3 else if crC n i c then 0 else 2
def crV (root : List Int) (n i : Int) (c P : Nat) (lv fl : List Int) : Bool := if 256 < c ∨ 256 < P then false else if crC n i c then crB root n.toNat i.toNat c P lv fl else false
theorem cr_val (root lv fl : List Int) (n i c P : Nat) (h1 : 1 ≤ n) : (!(walkT (tlG (kdR i c) (lfR lv i) fl) n 0 (P, false)).2.2 && decide ((walkT (tlG (kdR i c) (lfR lv i) fl) n 0 (P, false)).2.1 = 0) && decide ((walkT (tlG (kdR i c) (lfR lv i) fl) n 0 (P, false)).1 = root)) = crB root n i c P lv fl := by
  have W := walkT_gen (lf := lfR lv i) (fl := fl) (kdR_one i c) n 0 P false h1
  unfold crB
  by_cases h : need (kdR i c) n 0 ≤ P
  · rw [W.1 h]
    by_cases h2 : P = need (kdR i c) n 0
    · rw [← h2, Nat.sub_self]
      simp
    · have h3 : ¬ P - need (kdR i c) n 0 = 0 := by omega
      simp [h2, h3]
  · rw [W.2 (by omega)]
    have h2 : ¬ P = need (kdR i c) n 0 := by omega
    simp [h2]
theorem wpList_load_row_g {P : Program} {ops : Array Oper} {rest : List Oper} {o : Oper} {a : Act} {w : World} {Q : Exit → Act → World → Prop} (hw : Region.wanted o (yielded ops a.tmps) = true) (ty : TypeId) (x : Operand) (ho : o.op = .load ty x)
    (g : Nat) (hx : a.eval x = .pointer (some ⟨g, 0, none⟩)) (t : TypeId) (cs : Array Value) (fr : Nat × Nat) (d : TypeDesc) (hg : w.heap[g]? = some (.cells cs t fr))
    (hu : P.underlying ty = some d) (hd : (match d with | .struct _ | .array _ _ => true | _ => false) = true) (hi : (P.info? ty).map (·.size) = some cs.size)
    (h : wpList P ops Q rest (a.put o.dst (.agg cs)) w) : wpList P ops Q (o :: rest) a w :=
  wpList_step fun _ hK => by rw [if_pos hw]; exact wp_load_row ty x ho g hx t cs fr d hg hu hd hi (hK _ _ h)
theorem eqlKey (a b : List Int) (ha : a.length = 32) (hb : b.length = 32) (W : World) : (binOp .eql 23 (.agg (ints .u8 a)) (.agg (ints .u8 b))).run Try.prog W = .ok (.bool (decide (a = b))) W :=
  run_eql_ints Try.underlying23 Try.underlying5 (by kernel_rfl) a b ha hb W
set_option maxRecDepth 100000 in
set_option maxHeartbeats 8000000 in
theorem cr_impl (root : List Int) (al ap : Option Addr) (c cc P cp : Nat) (n i : Int) (lv fl : List Int) (hR : root.length = 32) (hc : c ≤ 1048576) (hP : P ≤ 1048576) (hcc : c ≤ cc) (hm : cc ≤ maxLen) (fbl : ∀ z ∈ lv, 0 ≤ z ∧ z ≤ 255) (fbp : ∀ z ∈ fl, 0 ≤ z ∧ z ≤ 255) (w : World) (hl : RdK w al c lv) (hp : RdK w ap P fl) :
    Calls Try.prog 35 #[.agg (ints .u8 root), .int .i64 n, .int .i64 i, .slice al c cc, .slice ap P cp] w fun x w' => x = .returned (.tuple #[.bool (crV root n i c P lv fl), .int .i64 (crE n i c P)]) ∧ Below w.heap.size w w' := by
  unfold crV crE
  have A0 := Lib.hid (heap3_0 w (.cells (ints .u8 root) 23) (.cells #[.int .i64 i] 2) (.cells #[.slice al c cc] 35))
  have A1 := Lib.hid (heap3_1 w (.cells (ints .u8 root) 23) (.cells #[.int .i64 i] 2) (.cells #[.slice al c cc] 35))
  have A2 := Lib.hid (heap3_2 w (.cells (ints .u8 root) 23) (.cells #[.int .i64 i] 2) (.cells #[.slice al c cc] 35))
  have B3 := Lib.hid ((((Below.refl w.heap.size w).alloc (Nat.le_refl _) (.cells (ints .u8 root) 23)).alloc (by simp) (.cells #[.int .i64 i] 2)).alloc (by simp; omega) (.cells #[.slice al c cc] 35))
  obtain ⟨W3, hW3⟩ : ∃ W3, ((w.alloc (.cells (ints .u8 root) 23)).alloc (.cells #[.int .i64 i] 2)).alloc (.cells #[.slice al c cc] 35) = W3 := ⟨_, rfl⟩
  have HSZ : Hid (W3.heap.size = w.heap.size + 1 + 1 + 1) := Lib.hid (by rw [← hW3]; simp)
  rw [hW3] at A0 A1 A2 B3
  have ci := cell_of_one A1.out
  have cl := cell_of_one A2.out
  have hc0 : (0 : Int) ≤ (c : Int) := by omega
  by_cases h : 256 < c ∨ 256 < P
  · rw [if_pos h, if_pos h]
    by_cases h1 : 256 < c
    · have k1 : (256 : Int) < (c : Int) := by omega
      go_enter Try.func35, Try.ntmps35
      go_wp2_with fail
      go_ret2
      exact ⟨rfl, B3.out⟩
    · have k1 : ¬ (256 : Int) < (c : Int) := by omega
      have k2 : (256 : Int) < (P : Int) := by omega
      go_enter Try.func35, Try.ntmps35
      go_wp2_with fail
      go_ret2
      exact ⟨rfl, B3.out⟩
  · rw [if_neg h, if_neg h]
    have k1 : ¬ (256 : Int) < (c : Int) := by omega
    have k2 : ¬ (256 : Int) < (P : Int) := by omega
    have k1' : (c : Int) ≤ 256 := by omega
    have k2' : (P : Int) ≤ 256 := by omega
    have A3 := Lib.hid (heap_alloc_last W3 (.cells #[.int .i64 (c : Int)] 2))
    have B4 := Lib.hid ((Below.refl W3.heap.size W3).alloc (Nat.le_refl _) (.cells #[.int .i64 (c : Int)] 2))
    obtain ⟨W4, hW4⟩ : ∃ W4, W3.alloc (.cells #[.int .i64 (c : Int)] 2) = W4 := ⟨_, rfl⟩
    have HSZ4 : Hid (W4.heap.size = W3.heap.size + 1) := Lib.hid (by rw [← hW4]; simp)
    rw [hW4] at A3 B4
    have C1 := Lib.hid (keep_block A1.out B4.out)
    have C2 := Lib.hid (keep_block A2.out B4.out)
    have C0 := Lib.hid (keep_block A0.out B4.out)
    have B4w := Lib.hid (B3.out.trans (B4.out.mono B3.out.size))
    have ci4 := cell_of_one C1.out
    have cl4 := cell_of_one C2.out
    have cc4 := cell_of_one A3.out
    by_cases h2 : isLf n i
    · have Hlf := Lib.hid (fun U => leaf_yes n i h2 U)
      have g1 : (0 : Int) ≤ i := h2.2.1
      have g2 : i < n := h2.2.2
      have g3 : n ≤ 256 := h2.1
      by_cases h3 : 1 ≤ c
      · have k3 : ¬ (c : Int) < 1 := by omega
        by_cases h4 : i + (c : Int) ≤ n
        · rw [if_pos (show crC n i c from ⟨by omega, g3, h3, g1, h4⟩), if_pos (show crC n i c from ⟨by omega, g3, h3, g1, h4⟩)]
          have k4 : ¬ n - i < (c : Int) := by omega
          obtain ⟨n', rfl⟩ := Int.eq_ofNat_of_zero_le (show 0 ≤ n by omega)
          obtain ⟨i', rfl⟩ := Int.eq_ofNat_of_zero_le g1
          obtain ⟨blk, off, rfl⟩ := hl.form h3
          rw [Int.toNat_natCast, Int.toNat_natCast]
          have HBK : Hid (blk < w.heap.size) := Lib.hid (by
            rcases hl.2 with h0 | ⟨b', o', e, hlt, _⟩
            · omega
            · cases e; exact hlt)
          have HL4 := Lib.hid (hl.below B4w.out)
          have Hnr := Lib.hid (newReader_impl ap P cp fl hP W4 (hp.below B4w.out))
          have HV := Lib.hid (cr_val root lv fl n' i' c P (by omega))
          have Htr := Lib.hid (fun (g r kb : Nat) (U : World) (PP : RangeP g r (w.heap.size + 1) W3.heap.size kb (w.heap.size + 1 + 1) blk U.heap.size) hI => tree_impl (rangeTells g r (w.heap.size + 1) W3.heap.size kb (w.heap.size + 1 + 1) blk off i' c cc U.heap.size n' fl lv PP (by omega) (by omega) hcc hm fbp fbl) n' (P, false) U (by omega) (Nat.le_refl _) (Nat.le_refl _) hI)
          have HR := Lib.hid hR
          have HP := Lib.hid hP
          generalize walkT (tlG (kdR i' c) (lfR lv i') fl) n' 0 (P, false) = v at HV Htr
          clear hl hp fbl fbp
          generalize crB root n' i' c P lv fl = V at HV ⊢
          go_enter Try.func35, Try.ntmps35
          go_wp2_with fail
          refine (Hlf.out _).mono ?_
          rintro x w5 ⟨rfl, rfl⟩
          go_wp2_with fail
          refine Hnr.out.mono ?_
          rintro x w5 ⟨g, r, rfl, hrd, hg1, hr2, hb5⟩
          have B5 := Lib.hid hb5
          have BW5 := Lib.hid (B4w.out.trans (hb5.mono B4w.out.size))
          have RD5 := Lib.hid hrd
          have HG := Lib.hid hg1
          have HRL := Lib.hid hr2
          clear hrd hg1 hr2 hb5
          have L6 := Lib.hid ((Below.refl w5.heap.size w5).alloc (Nat.le_refl _) (.cells #[.pointer (some ⟨r, 0, none⟩)] 93))
          have K6 := Lib.hid (heap_alloc_last w5 (.cells #[.pointer (some ⟨r, 0, none⟩)] 93))
          have HT := Lib.hid (Htr.out g r w5.heap.size (w5.alloc (.cells #[.pointer (some ⟨r, 0, none⟩)] 93)) (by
            have e1 := HSZ.out; have e2 := HSZ4.out; have e3 := HG.out; have e4 := HRL.out; have e5 := RD5.out.lt; have e6 := HBK.out; have e7 := B5.out.size
            exact ⟨by simp; omega, by simp; omega, ⟨by simp; omega, by omega, by omega⟩, ⟨by simp; omega, by omega, by omega⟩, ⟨by simp, by omega, by omega⟩, ⟨by simp; omega, by omega, by omega⟩, ⟨by simp; omega, by omega, by omega⟩⟩)
            ⟨RD5.out.below L6.out, HP.out, keep_block (keep_block C1.out B5.out) L6.out, keep_block (keep_block A3.out B5.out) L6.out, K6.out, keep_block (keep_block C2.out B5.out) L6.out, (HL4.out.below B5.out).below L6.out⟩)
          go_wp2_with fail
          refine HT.out.mono ?_
          rintro x w7 ⟨rfl, hk7, hI7, hb7⟩
          have HK7 := Lib.hid hk7
          have I7 := Lib.hid hI7
          have B7 := Lib.hid ((BW5.out.trans (L6.out.mono BW5.out.size)).trans (hb7.below (C := w.heap.size) (by have := BW5.out.size; simp; omega) (fun k hk => by have := HG.out; have := HSZ.out; have := HSZ4.out; have := RD5.out.lt; rcases hk with hk | hk <;> omega)))
          have R7 := Lib.hid (hb7.hold (g := w.heap.size) (fun hk => by have := HG.out; have := HSZ.out; have := HSZ4.out; have := RD5.out.lt; rcases hk with hk | hk <;> omega) (keep_block (keep_block C0.out B5.out) L6.out))
          clear hk7 hI7 hb7 HT
          have L8 := Lib.hid (laid_below w7 (ints .u8 z32) (ints .u8 v.1) 23)
          have N8 := Lib.hid (laid_new w7 (ints .u8 z32) (ints .u8 v.1) 23)
          have R8 := Lib.hid (laid_old (ints .u8 z32) (ints .u8 v.1) 23 R7.out)
          have K8 := Lib.hid (laid_old (ints .u8 z32) (ints .u8 v.1) 23 I7.out.bk)
          have RD8 := Lib.hid (I7.out.rd.below L8.out)
          have B8 := Lib.hid (below_call B7.out B7.out.size L8.out)
          have Hz := Lib.hid z32_ints
          have ck := cell_of_one K8.out
          rw [Hz.out] at ck
          go_wp2_with (refine wpList_store_row rfl 23 (.tmp 14) _ rfl w7.heap.size (ints .u8 v.1) rfl rfl 23 (ints .u8 z32) (by rw [Hz.out]; exact heap_alloc_last _ _) (by rw [ints_size, HK7.out.1]; exact sizeKey) (by rw [ints_size, ints_size, HK7.out.1]; rfl) (ints_one _ _) ?_)
          rw [← Hz.out]
          clear ck
          generalize (w7.alloc (.cells (ints .u8 z32) 23)).setRow w7.heap.size (ints .u8 v.1) = W8 at L8 N8 R8 K8 RD8 B8 ⊢
          refine (used_impl g r v.2.1 v.2.2 fl W8 RD8.out).mono ?_
          rintro x w9 ⟨rfl, rfl⟩
          have hq := fun U => eqlKey v.1 root HK7.out.1 HR.out U
          have HVV := HV.out
          generalize (!v.2.2 && decide (v.2.1 = 0)) = u at HVV ⊢
          cases u with
          | true =>
            go_wp2_with (first | (refine wpList_load_row_g (by rfl) 23 (.tmp 14) rfl w7.heap.size rfl 23 (ints .u8 v.1) (0, 0) _ N8.out Try.underlying23 rfl (by rw [ints_size, HK7.out.1]; exact sizeKey) ?_) | (refine wpList_load_row_g (by rfl) 23 (.tmp 5) rfl w.heap.size rfl 23 (ints .u8 root) (0, 0) _ R8.out Try.underlying23 rfl (by rw [ints_size, HR.out]; exact sizeKey) ?_))
            go_ret2
            exact ⟨by rw [← HVV]; simp, B8.out⟩
          | false =>
            go_wp2_with fail
            go_ret2
            exact ⟨by rw [← HVV]; simp, B8.out⟩
        · rw [if_neg (fun hh => h4 hh.2.2.2.2), if_neg (fun hh => h4 hh.2.2.2.2)]
          have k4 : n - i < (c : Int) := by omega
          go_enter Try.func35, Try.ntmps35
          go_wp2_with fail
          refine (Hlf.out _).mono ?_
          rintro x w5 ⟨rfl, rfl⟩
          go_wp2_with fail
          go_ret2
          exact ⟨rfl, B4w.out⟩
      · rw [if_neg (fun hh => h3 hh.2.2.1), if_neg (fun hh => h3 hh.2.2.1)]
        have k3 : (c : Int) < 1 := by omega
        go_enter Try.func35, Try.ntmps35
        go_wp2_with fail
        refine (Hlf.out _).mono ?_
        rintro x w5 ⟨rfl, rfl⟩
        go_wp2_with fail
        go_ret2
        exact ⟨rfl, B4w.out⟩
    · rw [if_neg (fun hh => h2 ⟨hh.2.1, hh.2.2.2.1, by have := hh.2.2.2.2; have := hh.2.2.1; omega⟩), if_neg (fun hh => h2 ⟨hh.2.1, hh.2.2.2.1, by have := hh.2.2.2.2; have := hh.2.2.1; omega⟩)]
      have Hlf := Lib.hid (fun U => leaf_no n i h2 U)
      go_enter Try.func35, Try.ntmps35
      go_wp2_with fail
      refine (Hlf.out _).mono ?_
      rintro x w5 ⟨rfl, rfl⟩
      go_wp2_with fail
      go_ret2
      exact ⟨rfl, B4w.out⟩
end Go.Proofs.Ytjcfpfegabnnlaa
