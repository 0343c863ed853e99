/- AddLeaf, by the program. Written by wip/gen/add.py. -/
import Derived.Test.YtfnmmpnmbommeaaAddS
import Derived.Test.YtfnmmpnmbommeaaPopO
import Derived.Test.YtfnmmpnmbommeaaTurns
namespace Go.Proofs.Ytfnmmpnmbommeaa
open Go.ChangeShapes Go.WideShapes Go.ChangeAt Go.RowKit
set_option linter.unusedVariables false
set_option linter.unusedSimpArgs false
theorem and_bit : ∀ n : Nat, n < 256 → ∀ d, d < 9 → n / 2 ^ d % 2 = 1 → (bits .and .i64 (n : Int) ((2 ^ d : Nat) : Int) == 0) = false := by decide +kernel
theorem and_not : ∀ n : Nat, n < 256 → ∀ d, d < 9 → n / 2 ^ d % 2 = 0 → (bits .and .i64 (n : Int) ((2 ^ d : Nat) : Int) == 0) = true := by decide +kernel
set_option maxRecDepth 100000 in
set_option maxHeartbeats 1000000 in
theorem stackO (a : Option Addr) (n cap : Nat) (fl : List Int) (hn : n ≤ 1048576) (w : World) (hr : RdK w a n fl) :
    Calls Try.prog 59 #[.slice a n cap] w fun e w' => ∃ g v, e = .returned (.pointer (some ⟨g, 0, none⟩)) ∧ w'.heap[g]? = some (.cells #[v] 78) ∧ w'.ownsRow w.heap.size 29 32 v n (fl.map (Value.int .u8)) ∧ w.heap.size ≤ g ∧ g < w'.heap.size ∧ (∀ q, v.ownBlock = some q → q < g) ∧ Below w.heap.size w w' := by
  have Hc := Lib.hid (clone_impl a n cap fl hn w hr)
  clear hr
  go_enter Try.func59, Try.ntmps59
  go_wp2_with fail
  refine Hc.out.mono ?_
  rintro e w1 ⟨v, rfl, hown, hb⟩
  have O1 := Lib.hid hown
  have B1 := Lib.hid hb
  clear hown hb Hc
  obtain ⟨a1, c1, hv⟩ := owns_slc O1.out
  subst hv
  go_wp2_with fail
  go_ret
  exact ⟨w1.heap.size, _, rfl, heap_alloc_last _ _, O1.out.alloc _, B1.out.size, by simp, fun q h => (O1.out.lt q h).2, B1.out.alloc B1.out.size _⟩
set_option maxRecDepth 100000 in
set_option maxHeartbeats 8000000 in
theorem ad_impl (a : Option Addr) (l cap : Nat) (n : Int) (fl leaf : List Int) (hl : l ≤ 1048576) (fb : ∀ z ∈ fl, 0 ≤ z ∧ z ≤ 255) (hL : leaf.length = 32) (fL : ∀ z ∈ leaf, 0 ≤ z ∧ z ≤ 255) (w : World) (hr : RdK w a l fl) :
    Calls Try.prog 23 #[.slice a l cap, .int .i64 n, .agg (ints .u8 leaf)] w fun e w' => ∃ v, e = .returned (.tuple #[v, .int .i64 (gcode l n 255)]) ∧ w'.ownsRow w.heap.size 29 32 v (adN l n) ((adV fl l n leaf).map (Value.int .u8)) ∧ Below w.heap.size w w' := by
  have LL : L32 leaf := ⟨hL, fL⟩
  have A0 := Lib.hid (heap_alloc_last w (.cells (ints .u8 leaf) 29))
  have B0 := Lib.hid ((Below.refl w.heap.size w).alloc (Nat.le_refl _) (.cells (ints .u8 leaf) 29))
  obtain ⟨W1, hW1⟩ : ∃ W1, w.alloc (.cells (ints .u8 leaf) 29) = W1 := ⟨_, rfl⟩
  have HSZ : Hid (W1.heap.size = w.heap.size + 1) := Lib.hid (by rw [← hW1]; simp)
  rw [hW1] at A0 B0
  have Hg := Lib.hid (fun U => check_impl a l cap n 255 hl (by omega) (by omega) U)
  by_cases h0 : gcode l n 255 = 0
  · have e1 : adN l n = l - tz 10 n.toNat + 1 := by unfold adN; rw [if_pos h0]
    have e2 : adV fl l n leaf = fl.take (32 * (l - tz 10 n.toNat)) ++ addK fl leaf l (tz 10 n.toNat) := by unfold adV; rw [if_pos h0]
    rw [e1, e2, h0]
    obtain ⟨hl2, hn0, hn1, hlo⟩ := gcode_zero h0 (by omega)
    rw [h0] at Hg
    clear e1 e2 h0
    obtain ⟨m, rfl⟩ := Int.eq_ofNat_of_zero_le hn0
    rw [Int.toNat_natCast] at hlo ⊢
    have hm : m < 256 := by omega
    have HT : Hid (tz 10 m ≤ l ∧ tz 10 m ≤ 8) := Lib.hid ⟨by rw [hlo]; exact tz_ones m hm, tz_eight m hm⟩
    have HBIT := Lib.hid (fun d (hd : d < 9) hd2 => and_bit m hm d hd (tz_bit m hm d hd hd2))
    have HEND := Lib.hid (and_not m hm (tz 10 m) (by have := tz_eight m hm; omega) (tz_end m hm))
    generalize tz 10 m = t at HT HBIT HEND ⊢
    have Hz := Lib.hid z32_ints
    have HR := Lib.hid (hr.below B0.out)
    have HL := Lib.hid hr.1
    have HFB := Lib.hid fb
    have LLH := Lib.hid LL
    have Hst := Lib.hid (stackO a l cap fl hl W1 HR.out)
    clear hr fb LL hL fL hlo
    go_enter Try.func23, Try.ntmps23
    go_wp2_with fail
    refine (Hg.out _).mono ?_
    rintro e w1 ⟨rfl, rfl⟩
    go_wp2_with fail
    refine Hst.out.mono ?_
    rintro e w2 ⟨g, v2, rfl, hg2, ho2, hg1, hg3, hq2, hb2⟩
    have G2 := Lib.hid hg2
    have O2 := Lib.hid (owns_base (base := w.heap.size) B0.out.size ho2)
    have HG := Lib.hid hg1
    have HG3 := Lib.hid hg3
    have HQ2 := Lib.hid hq2
    have A2 := Lib.hid (keep_block A0.out hb2)
    have B2 := Lib.hid (B0.out.trans (hb2.mono B0.out.size))
    clear hg2 ho2 hg1 hg3 hq2 hb2
    try clear hW1
    have B3 := Lib.hid (below_call B2.out B2.out.size (laid_below w2 (ints .u8 z32) (ints .u8 leaf) 29))
    have K3 := Lib.hid (laid_new w2 (ints .u8 z32) (ints .u8 leaf) 29)
    have G3 := Lib.hid (laid_old (ints .u8 z32) (ints .u8 leaf) 29 G2.out)
    have O3 := Lib.hid (owns_below O2.out (laid_below w2 (ints .u8 z32) (ints .u8 leaf) 29))
    go_wp2_with (first | (refine wpList_load_row rfl 29 (.tmp 5) rfl w.heap.size rfl 29 (ints .u8 leaf) (0, 0) _ A2.out Try.underlying29 rfl (by rw [ints_size, LLH.out.1]; exact sizeKey) ?_) | (refine wpList_store_row rfl 29 (.tmp 10) _ rfl w2.heap.size (ints .u8 leaf) rfl rfl 29 (ints .u8 z32) (by rw [Hz.out]; exact heap_alloc_last _ _) (by rw [ints_size, LLH.out.1]; exact sizeKey) (by rw [ints_size, ints_size, LLH.out.1]; rfl) (ints_one _ _) ?_))
    rw [← Hz.out]
    generalize (w2.alloc (.cells (ints .u8 z32) 29)).setRow w2.heap.size (ints .u8 leaf) = W3 at B3 K3 G3 O3 ⊢
    have HKB : Hid (g < w2.heap.size) := HG3
    generalize w2.heap.size = kb at K3 HKB ⊢
    have HQ3 : Hid (∀ q, v2.ownBlock = some q → q < kb) := Lib.hid (fun q h => by have := HQ2.out q h; have := HKB.out; omega)
    have HGW : Hid (w.heap.size ≤ g) := Lib.hid (Nat.le_trans B0.out.size HG.out)
    clear O2 G2 A2 B2
    go_loopw [11] (fun sv wr => ∃ d v, d ≤ t ∧ sv = .int .i64 ((2 ^ d : Nat) : Int) ∧ wr.heap[g]? = some (.cells #[v] 78) ∧ wr.ownsRow w.heap.size 29 32 v (l - d) ((fl.take (32 * (l - d))).map (Value.int .u8)) ∧ wr.heap[kb]? = some (.cells (ints .u8 (addK fl leaf l d)) 29) ∧ (∀ q, v.ownBlock = some q → q < kb) ∧ Below w.heap.size w wr) (fun sv _ => 1024 - (intOf sv).toNat)
    case atStart =>
      exact ⟨0, v2, by omega, rfl, G3.out, by rw [List.take_of_length_le (by rw [HL.out]; omega)]; exact O3.out, K3.out, HQ3.out, B3.out⟩
    case round =>
      clear O3 G3 K3 B3
      obtain ⟨d, v, hd, rfl, hgg, hown, hkk, hqq, hB⟩ := hrel
      have AD := Lib.hid (addK_good (fl := fl) (l := l) LLH.out d)
      have HG4 := Lib.hid hgg
      have HO := Lib.hid hown
      have HK4 := Lib.hid hkk
      have HQ4 := Lib.hid hqq
      have HB := Lib.hid hB
      clear hgg hown hkk hqq hB
      have hpow : 2 ^ d ≤ 256 := Nat.le_trans (Nat.pow_le_pow_right (by omega) (show d ≤ 8 by have := HT.out; omega)) (by omega)
      have hpos : 0 < 2 ^ d := Nat.two_pow_pos d
      by_cases hdt : d < t
      · have hbit := HBIT.out d (by have := HT.out; omega) hdt
        have hlt := HT.out.1
        have HP2 : Hid (2 ^ (d + 1) = 2 ^ d * 2) := Lib.hid (Nat.pow_succ 2 d)
        generalize 2 ^ d = q at hpow hpos hbit HP2
        have q0 : (0 : Int) < (q : Int) := by omega
        have q1 : (q : Int) ≤ 256 := by omega
        have HKL := Lib.hid (keyAt_len HL.out (show l - d - 1 < l by omega))
        have HKR := Lib.hid (keyAt_range HFB.out (l - d - 1))
        have HNX : Hid (addK fl leaf l (d + 1) = nodeK (keyAt fl (l - d - 1)) (addK fl leaf l d)) := Lib.hid (by rw [addK, show l - 1 - d = l - d - 1 by omega])
        have Hpop := by
          have h1 := HO.out
          have h2 := keys_last (fl := fl) (l := l) (k := l - d - 1) HL.out (by omega)
          have h3 : l - d = l - d - 1 + 1 := by omega
          rw [h3, h2] at h1
          exact popK g w.heap.size (l - d - 1) v _ _ HKL.out (by omega) wr HG4.out h1
        have HPOP := Lib.hid Hpop
        clear Hpop
        generalize keyAt fl (l - d - 1) = key at HKL HKR HNX HPOP
        have Hnode := Lib.hid (fun U => node_impl key (addK fl leaf l d) HKL.out HKR.out AD.out.1 AD.out.2 U)
        have Hvl := Lib.hid (nodeK_len key (addK fl leaf l d))
        generalize addK fl leaf l d = K0 at AD HK4 Hnode Hvl HNX
        generalize nodeK key K0 = K1 at Hnode Hvl HNX
        go_wp2_with fail
        refine HPOP.out.mono ?_
        rintro e w5 ⟨rfl, v5, hg5, ho5, hv5, hk5⟩
        have G5 := Lib.hid hg5
        have O5 := Lib.hid ho5
        have HQ5 : Hid (∀ q, v5.ownBlock = some q → q < kb) := Lib.hid (fun q h => by rw [hv5] at h; exact HQ4.out q h)
        have K5 := Lib.hid (hk5.hold (g := kb) (fun e => by have h : kb = g := e; have := HKB.out; omega) HK4.out)
        have B5 := Lib.hid (HB.out.trans (hk5.below HB.out.size (fun k e => by have h : k = g := e; have := HGW.out; omega)))
        have HKL5 : Hid (kb < w5.heap.size) := Lib.hid (Array.getElem?_eq_some_iff.1 K5.out).1
        clear hg5 ho5 hv5 hk5 HPOP
        have L6 := Lib.hid (laid_below w5 (ints .u8 z32) (ints .u8 key) 29)
        have N6 := Lib.hid (laid_new w5 (ints .u8 z32) (ints .u8 key) 29)
        have K6 := Lib.hid (laid_old (ints .u8 z32) (ints .u8 key) 29 K5.out)
        have G6 := Lib.hid (laid_old (ints .u8 z32) (ints .u8 key) 29 G5.out)
        have O6 := Lib.hid (owns_below O5.out L6.out)
        have B6 := Lib.hid (below_call B5.out B5.out.size L6.out)
        go_wp2_with (first | (refine wpList_store_row rfl 29 (.tmp 12) _ rfl w5.heap.size (ints .u8 key) rfl rfl 29 (ints .u8 z32) (by rw [Hz.out]; exact heap_alloc_last _ _) (by rw [ints_size, HKL.out]; exact sizeKey) (by rw [ints_size, ints_size, HKL.out]; rfl) (ints_one _ _) ?_) | (refine wpList_load_row rfl 29 (.tmp 12) rfl w5.heap.size rfl 29 (ints .u8 key) (0, 0) _ (by rw [← Hz.out]; exact N6.out) Try.underlying29 rfl (by rw [ints_size, HKL.out]; exact sizeKey) ?_) | (refine wpList_load_row rfl 29 (.tmp 10) rfl kb rfl 29 (ints .u8 K0) (0, 0) _ (by rw [← Hz.out]; exact K6.out) Try.underlying29 rfl (by rw [ints_size, AD.out.1]; exact sizeKey) ?_))
        rw [← Hz.out]
        generalize (w5.alloc (.cells (ints .u8 z32) 29)).setRow w5.heap.size (ints .u8 key) = W6 at N6 K6 G6 O6 B6 L6 ⊢
        refine (Hnode.out _).mono ?_
        rintro e w7 ⟨rfl, hb7⟩
        have K7 := Lib.hid (keep_block K6.out hb7)
        have G7 := Lib.hid (keep_block G6.out hb7)
        have O7 := Lib.hid (owns_below O6.out hb7)
        have B7 := Lib.hid (below_call B6.out B6.out.size hb7)
        clear hb7
        have K8 := Lib.hid (setRow_heap _ _ (ints .u8 K0) (ints .u8 K1) _ _ K7.out)
        have G8 := Lib.hid ((setRow_other w7 kb g (ints .u8 K1) (by have := HKB.out; omega)).trans G7.out)
        have O8 := Lib.hid (owns_setRow_ne (cs := ints .u8 K1) (g := kb) (fun h => by have := HQ5.out _ h; omega) O7.out)
        have B8 := Lib.hid (Below.setRow (g := kb) B7.out (by have := HGW.out; have := HKB.out; omega) (ints .u8 K1))
        go_wp2_with (refine wpList_store_row rfl 29 (.tmp 10) _ rfl kb (ints .u8 K1) rfl rfl 29 (ints .u8 K0) K7.out (by rw [ints_size, Hvl.out]; exact sizeKey) (by rw [ints_size, ints_size, Hvl.out, AD.out.1]) (ints_one _ _) ?_)
        go_roundw
        case rel => exact ⟨d + 1, v5, by omega, by rw [HP2.out]; go_num, G8.out, by rw [show l - (d + 1) = l - d - 1 by omega]; exact O8.out, by rw [HNX.out]; exact K8.out, HQ5.out, B8.out⟩
        case measure => simp [intOf]; omega
      · obtain rfl : d = t := by omega
        have hend := HEND.out
        generalize 2 ^ d = q at hpow hpos hend
        have q0 : (0 : Int) < (q : Int) := by omega
        have q1 : (q : Int) ≤ 256 := by omega
        have j3 : l - d ≤ 256 := by omega
        generalize hK0 : addK fl leaf l d = K0 at AD HK4
        generalize hk : l - d = k at HO j3
        have HK0 := Lib.hid hK0
        have HKK := Lib.hid hk
        clear hK0 hk
        have Hpush := Lib.hid (push_key g w.heap.size k v _ K0 AD.out.1 (by omega) wr HG4.out HO.out HB.out.size)
        go_wp2_with (refine wpList_load_row rfl 29 (.tmp 10) rfl kb rfl 29 (ints .u8 K0) (0, 0) _ HK4.out Try.underlying29 rfl (by rw [ints_size, AD.out.1]; exact sizeKey) ?_)
        refine Hpush.out.mono ?_
        rintro e w5 ⟨rfl, v5, hg5, ho5, hk5⟩
        have O5 := Lib.hid ho5
        have B5 := Lib.hid (HB.out.trans (hk5.below HB.out.size (fun k e => by
          rcases e with h | h
          · have := HGW.out; omega
          · exact (HO.out.lt k h.symm).1)))
        have cg := cell_of_one hg5
        obtain ⟨a5, c5, hv5⟩ := owns_slc ho5
        subst hv5
        clear hg5 ho5 hk5
        go_wp2_with fail
        go_ret2
        exact ⟨_, rfl, by rw [HK0.out, HKK.out, List.map_append]; have h := O5.out; simpa [ints] using h, B5.out⟩
  · have e1 : adN l n = 0 := by unfold adN; rw [if_neg h0]
    have e2 : adV fl l n leaf = [] := by unfold adV; rw [if_neg h0]
    rw [e1, e2]
    have hg : (gcode l n 255 == 0) = false := by rw [beq_eq_false_iff_ne]; exact h0
    have hg2 : ¬ gcode l n 255 = 0 := h0
    generalize gcode l n 255 = E at Hg hg hg2 ⊢
    clear h0 e1 e2
    go_enter Try.func23, Try.ntmps23
    go_wp2_with fail
    refine (Hg.out _).mono ?_
    rintro e w1 ⟨rfl, rfl⟩
    go_wp2_with fail
    go_ret2
    exact ⟨_, rfl, World.ownsRow_nil _ _ _ _, B0.out⟩
end Go.Proofs.Ytfnmmpnmbommeaa
