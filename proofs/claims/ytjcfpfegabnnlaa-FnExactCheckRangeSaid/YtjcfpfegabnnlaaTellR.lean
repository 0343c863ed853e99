/- The closure of CheckRange. Written by wip/gen/tellr.py. -/
import Derived.Test.YtjcfpfegabnnlaaRangeI
import Derived.Test.YtjcfpfegabnnlaaGenM
namespace Go.Proofs.Ytjcfpfegabnnlaa
open Go.ChangeShapes Go.WideShapes Go.ChangeAt Go.RowKit
set_option linter.unusedVariables false
set_option linter.unusedSimpArgs false
theorem z32_range : ∀ z ∈ z32, (0 : Int) ≤ z ∧ z ≤ 255 := by decide
/-- What a part is for leaves from i on, c of them: without any of them, one leaf, or another one. -/
def kdR (i c b n : Nat) : Nat := if b + n ≤ i ∨ i + c ≤ b then 0 else if n = 1 then 1 else 2
def lfR (lv : List Int) (i b : Nat) : List Int := keyAt lv (b - i)
/-- The closure's variables. -/
structure RangeI (g r ib cb kb lb blk off i c cap : Nat) (fl lv : List Int) (B0 : Nat) (s : Nat × Bool) (W : World) : Prop where
  rd : Rdr g r s fl W
  small : s.1 ≤ 1048576
  bi : W.heap[ib]? = some (.cells #[.int .i64 (i : Int)] 2)
  bc : W.heap[cb]? = some (.cells #[.int .i64 (c : Int)] 2)
  bk : W.heap[kb]? = some (.cells #[.pointer (some ⟨r, 0, none⟩)] 93)
  bl : W.heap[lb]? = some (.cells #[.slice (some ⟨blk, off, none⟩) c cap] 35)
  lv : RdK W (some ⟨blk, off, none⟩) c lv
/-- Where they lie. -/
structure RangeP (g r ib cb kb lb blk B0 : Nat) : Prop where
  pg : g < B0
  pr : r < B0
  pi : ib < B0 ∧ ib ≠ g ∧ ib ≠ r
  pc : cb < B0 ∧ cb ≠ g ∧ cb ≠ r
  pk : kb < B0 ∧ kb ≠ g ∧ kb ≠ r
  pl : lb < B0 ∧ lb ≠ g ∧ lb ≠ r
  pb : blk < B0 ∧ blk ≠ g ∧ blk ≠ r
theorem RangeI.keep {g r ib cb kb lb blk off i c cap B0 : Nat} {fl lv : List Int} {s : Nat × Bool} {w w' : World} (P : RangeP g r ib cb kb lb blk B0) (h : RangeI g r ib cb kb lb blk off i c cap fl lv B0 s w) (hb : Below B0 w w') : RangeI g r ib cb kb lb blk off i c cap fl lv B0 s w' :=
  ⟨h.rd.above (hb.mono (by have := P.pr; omega)), h.small, (hb.block _ P.pi.1).trans h.bi, (hb.block _ P.pc.1).trans h.bc, (hb.block _ P.pk.1).trans h.bk, (hb.block _ P.pl.1).trans h.bl, h.lv.keepLow P.pb.1 hb⟩
theorem RangeI.turn {g r ib cb kb lb blk off i c cap B0 : Nat} {fl lv : List Int} {s t : Nat × Bool} {w w' : World} (P : RangeP g r ib cb kb lb blk B0) (h : RangeI g r ib cb kb lb blk off i c cap fl lv B0 s w) (hr : Rdr g r t fl w') (ht : t.1 ≤ 1048576) (hlt : blk < w.heap.size) (k : Keep w.heap.size (fun k => k = g ∨ k = r) w w') : RangeI g r ib cb kb lb blk off i c cap fl lv B0 t w' :=
  ⟨hr, ht, k.hold (fun h => by have := P.pi; rcases h with h | h <;> omega) h.bi, k.hold (fun h => by have := P.pc; rcases h with h | h <;> omega) h.bc, k.hold (fun h => by have := P.pk; rcases h with h | h <;> omega) h.bk, k.hold (fun h => by have := P.pl; rcases h with h | h <;> omega) h.bl, h.lv.same k.size (fun b o e => by
    cases e
    exact k.block blk hlt (fun h => by have := P.pb; rcases h with h | h <;> omega))⟩
set_option maxRecDepth 100000 in
set_option maxHeartbeats 8000000 in
theorem tellR_impl (g r ib cb kb lb blk off i c cap B0 N : Nat) (fl lv : List Int) (P : RangeP g r ib cb kb lb blk B0) (hN : N ≤ 1048576) (hic : i + c ≤ N) (hc : c ≤ cap) (hm : cap ≤ maxLen) (b n : Nat) (s : Nat × Bool) (w : World) (h1 : 1 ≤ n) (hb : b + n ≤ N) (hB : B0 ≤ w.heap.size) (hfb : ∀ z ∈ fl, 0 ≤ z ∧ z ≤ 255) (hI : RangeI g r ib cb kb lb blk off i c cap fl lv B0 s w) :
    Calls Try.prog 74 #[.agg (spanA b (b + n)), .pointer (some ⟨ib, 0, none⟩), .pointer (some ⟨cb, 0, none⟩), .pointer (some ⟨kb, 0, none⟩), .pointer (some ⟨lb, 0, none⟩)] w fun x w' => x = .returned (.tuple #[.agg (ints .u8 (tlG (kdR i c) (lfR lv i) fl b n s).1), .bool (tlG (kdR i c) (lfR lv i) fl b n s).2.1]) ∧ RangeI g r ib cb kb lb blk off i c cap fl lv B0 (tlG (kdR i c) (lfR lv i) fl b n s).2.2 w' ∧ Keep w.heap.size (fun k => k = g ∨ k = r) w w' := by
  have Hz := Lib.hid z32_ints
  have HI := Lib.hid hI
  have HB := Lib.hid hB
  have HP := Lib.hid P
  have HFB := Lib.hid hfb
  have BW := Lib.hid (((Below.refl w.heap.size w).alloc (Nat.le_refl _) (.cells (spanA b (b + n)) 97)).alloc (by simp) (.cells (ints .u8 z32) 23))
  have GS := Lib.hid (heap_alloc2_old w (.cells (spanA b (b + n)) 97) (.cells (ints .u8 z32) 23))
  have G0 := Lib.hid (heap_alloc2_new w (.cells (spanA b (b + n)) 97) (.cells (ints .u8 z32) 23))
  obtain ⟨W0, hW0⟩ : ∃ W0, (w.alloc (.cells (spanA b (b + n)) 97)).alloc (.cells (ints .u8 z32) 23) = W0 := ⟨_, rfl⟩
  have HSZ : Hid (W0.heap.size = w.heap.size + 1 + 1) := Lib.hid (by rw [← hW0]; simp)
  rw [hW0] at BW GS G0
  have I0 := Lib.hid (HI.out.keep P (BW.out.mono hB))
  have ci := cell_of_one I0.out.bi
  have cc := cell_of_one I0.out.bc
  have b0 : (0 : Int) ≤ (b : Int) := by omega
  have bi0 : (0 : Int) ≤ (i : Int) := by omega
  have bc0 : (0 : Int) ≤ (c : Int) := by omega
  have bic : (i : Int) + (c : Int) ≤ 1048576 := by omega
  have bb : (b : Int) ≤ 1048576 := by omega
  clear hI hfb
  by_cases hmiss : b + n ≤ i ∨ i + c ≤ b
  · have Hms := Lib.hid (fun U => misses_yes b (b + n) i (i + c) hmiss U)
    rw [show ((i + c : Nat) : Int) = (i : Int) + (c : Int) by omega] at Hms
    have e0 : kdR i c b n = 0 := by unfold kdR; rw [if_pos hmiss]
    have e1 : tlG (kdR i c) (lfR lv i) fl b n s = (nxK fl s, true, nxS s) := by unfold tlG; rw [if_pos e0]
    rw [e1]
    dsimp only
    clear e0 e1
    have HKL := Lib.hid (HI.out.rd.nx HFB.out).1
    have Hn := Lib.hid (fun U (h : Rdr g r s fl U) => next_impl g r s fl HI.out.small U h)
    have HNS := Lib.hid (show (nxS s).1 ≤ 1048576 by have := HI.out.small; unfold nxS; dsimp only; omega)
    generalize nxK fl s = key at Hn HKL ⊢
    generalize nxS s = t at Hn HNS ⊢
    rw [Hz.out] at hW0
    go_enter Try.func74, Try.ntmps74
    go_wp2_with (refine wpList_load_row rfl 97 (.tmp 5) rfl w.heap.size rfl 97 (spanA b (b + n)) (0, 0) _ GS.out Try.underlying97 rfl sizeSpan ?_)
    clear hW0 ci cc
    refine (Hms.out _).mono ?_
    rintro x w1 ⟨rfl, hb1⟩
    have B1 := Lib.hid (below_call BW.out BW.out.size hb1)
    have I1 := Lib.hid (HI.out.keep HP.out (B1.out.mono HB.out))
    have G1 := Lib.hid (keep_block G0.out hb1)
    have S1 := Lib.hid (keep_block GS.out hb1)
    have Z1 : Hid (w.heap.size + 1 < w1.heap.size) := Lib.hid (by have := hb1.size; have := HSZ.out; omega)
    clear hb1 I0 GS BW G0
    have ck := cell_of_one I1.out.bk
    go_wp2_with fail
    clear ck
    refine (Hn.out _ I1.out.rd).mono ?_
    rintro x w2 ⟨rfl, hr2, hk2⟩
    have I2 := Lib.hid (I1.out.turn HP.out hr2 HNS.out (by have := HP.out.pb; have := HB.out; have := Z1.out; omega) hk2)
    have G2 := Lib.hid (hk2.hold (g := w.heap.size + 1) (fun h => by have := HP.out.pr; have := HI.out.rd.lt; have := HB.out; rcases h with h | h <;> omega) G1.out)
    have K2 := Lib.hid ((Keep.of (fun k => k = g ∨ k = r) B1.out).trans (hk2.mono B1.out.size))
    clear hr2 hk2
    go_wp2_with (refine wpList_store_row rfl 23 (.tmp 6) _ rfl (w.heap.size + 1) (ints .u8 key) rfl rfl 23 (ints .u8 z32) G2.out (by rw [ints_size, HKL.out]; exact sizeKey) (by rw [ints_size, ints_size, HKL.out]; rfl) (ints_one _ _) ?_)
    have GF := Lib.hid (setRow_heap _ _ (ints .u8 z32) (ints .u8 key) _ _ G2.out)
    have E := Below.setRow (g := w.heap.size + 1) (Below.refl w.heap.size w2) (by omega) (ints .u8 key)
    refine bodyPost_ret (results_cell2_row rfl _ _ (w.heap.size + 1) 23 (ints .u8 key) (0, 0) _ rfl GF.out Try.underlying23 rfl (by rw [ints_size, HKL.out]; exact sizeKey)) rfl ⟨rfl, ?_⟩
    exact ⟨I2.out.keep HP.out (E.mono HB.out), K2.out.trans (Keep.of _ E)⟩
  · by_cases h2 : n = 1
    · have Hms := Lib.hid (fun U => misses_no b (b + n) i (i + c) hmiss U)
      rw [show ((i + c : Nat) : Int) = (i : Int) + (c : Int) by omega] at Hms
      have e0 : kdR i c b n = 1 := by unfold kdR; rw [if_neg hmiss, if_pos h2]
      have e1 : tlG (kdR i c) (lfR lv i) fl b n s = (keyAt lv (b - i), true, s) := by unfold tlG; rw [if_neg (by omega), if_pos e0]; rfl
      rw [e1]
      dsimp only
      clear e0 e1
      have Hcnt := Lib.hid (fun U => count_impl b (b + n) (by omega) (by omega) U)
      rw [show b + n - b = 1 by omega] at Hcnt
      have hbi : b - i < c := by omega
      have hib : (i : Int) ≤ (b : Int) := by omega
      have hsub : (b : Int) - (i : Int) = ((b - i : Nat) : Int) := by omega
      have HSUB := Lib.hid hsub
      have Hkey := Lib.hid (I0.out.lv.key (b - i) hbi)
      have HKL := Lib.hid (keyAt_len I0.out.lv.1 hbi)
      have k1 : (0 : Int) ≤ (b : Int) - (i : Int) := by omega
      have k2 : (b : Int) - (i : Int) < (c : Int) := by omega
      have k3 : ((b : Int) - (i : Int)).toNat = b - i := by omega
      clear hsub h2
      generalize hkey : keyAt lv (b - i) = key at Hkey HKL ⊢
      have HKY := Lib.hid hkey
      clear hkey
      rw [Hz.out] at hW0
      go_enter Try.func74, Try.ntmps74
      go_wp2_with (refine wpList_load_row rfl 97 (.tmp 5) rfl w.heap.size rfl 97 (spanA b (b + n)) (0, 0) _ GS.out Try.underlying97 rfl sizeSpan ?_)
      clear hW0 ci cc
      refine (Hms.out _).mono ?_
      rintro x w1 ⟨rfl, hb1⟩
      have B1 := Lib.hid (below_call BW.out BW.out.size hb1)
      have I1 := Lib.hid (HI.out.keep HP.out (B1.out.mono HB.out))
      have G1 := Lib.hid (keep_block G0.out hb1)
      have S1 := Lib.hid (keep_block GS.out hb1)
      have Z1 : Hid (w.heap.size + 1 < w1.heap.size) := Lib.hid (by have := hb1.size; have := HSZ.out; omega)
      clear hb1 I0 GS BW G0
      go_wp2_with (refine wpList_load_row rfl 97 (.tmp 5) rfl w.heap.size rfl 97 (spanA b (b + n)) (0, 0) _ S1.out Try.underlying97 rfl sizeSpan ?_)
      refine (Hcnt.out _).mono ?_
      rintro x w2 ⟨rfl, hb2⟩
      have B2 := Lib.hid (below_call B1.out B1.out.size hb2)
      have I2 := Lib.hid (HI.out.keep HP.out (B2.out.mono HB.out))
      have G2 := Lib.hid (keep_block G1.out hb2)
      have S2 := Lib.hid (keep_block S1.out hb2)
      have ci := cell_of_one I2.out.bi
      have cl := cell_of_one I2.out.bl
      have cs : w2.cell? ⟨w.heap.size, 0, none⟩ = some (.int .i64 (b : Int)) := (cell_of_row w2 w.heap.size 0 _ _ _ S2.out).trans rfl
      have HKR := Lib.hid (I2.out.lv.key (b - i) hbi)
      rw [HKY.out] at HKR
      clear hb2
      go_wp2_with (first | (refine wpList_load_ints rfl 23 (.tmp 27) rfl blk (off + (b - i) * 32) rfl .u8 key _ HKR.out Try.underlying23 rfl (by rw [HKL.out]; exact sizeKey) ?_) | (refine wpList_store_row rfl 23 (.tmp 6) _ rfl (w.heap.size + 1) (ints .u8 key) rfl rfl 23 (ints .u8 z32) G2.out (by rw [ints_size, HKL.out]; exact sizeKey) (by rw [ints_size, ints_size, HKL.out]; rfl) (ints_one _ _) ?_))
      have GF := Lib.hid (setRow_heap _ _ (ints .u8 z32) (ints .u8 key) _ _ G2.out)
      have E := Below.setRow (g := w.heap.size + 1) (Below.refl w.heap.size w2) (by omega) (ints .u8 key)
      refine bodyPost_ret (results_cell2_row rfl _ _ (w.heap.size + 1) 23 (ints .u8 key) (0, 0) _ rfl GF.out Try.underlying23 rfl (by rw [ints_size, HKL.out]; exact sizeKey)) rfl ⟨rfl, ?_⟩
      exact ⟨I2.out.keep HP.out (E.mono HB.out), (Keep.of _ B2.out).trans (Keep.of _ E)⟩
    · have Hms := Lib.hid (fun U => misses_no b (b + n) i (i + c) hmiss U)
      rw [show ((i + c : Nat) : Int) = (i : Int) + (c : Int) by omega] at Hms
      have e0 : kdR i c b n = 2 := by unfold kdR; rw [if_neg hmiss, if_neg h2]
      have e1 : tlG (kdR i c) (lfR lv i) fl b n s = (z32, false, s) := by unfold tlG; rw [if_neg (by omega), if_neg (by omega)]
      rw [e1]
      dsimp only
      clear e0 e1
      have Hcnt := Lib.hid (fun U => count_impl b (b + n) (by omega) (by omega) U)
      rw [show b + n - b = n by omega] at Hcnt
      have hni : ((n : Int) == 1) = false := by rw [beq_eq_false_iff_ne]; omega
      rw [Hz.out] at hW0
      go_enter Try.func74, Try.ntmps74
      go_wp2_with (refine wpList_load_row rfl 97 (.tmp 5) rfl w.heap.size rfl 97 (spanA b (b + n)) (0, 0) _ GS.out Try.underlying97 rfl sizeSpan ?_)
      clear hW0 ci cc
      refine (Hms.out _).mono ?_
      rintro x w1 ⟨rfl, hb1⟩
      have B1 := Lib.hid (below_call BW.out BW.out.size hb1)
      have I1 := Lib.hid (HI.out.keep HP.out (B1.out.mono HB.out))
      have G1 := Lib.hid (keep_block G0.out hb1)
      have S1 := Lib.hid (keep_block GS.out hb1)
      have Z1 : Hid (w.heap.size + 1 < w1.heap.size) := Lib.hid (by have := hb1.size; have := HSZ.out; omega)
      clear hb1 I0 GS BW G0
      go_wp2_with (refine wpList_load_row rfl 97 (.tmp 5) rfl w.heap.size rfl 97 (spanA b (b + n)) (0, 0) _ S1.out Try.underlying97 rfl sizeSpan ?_)
      refine (Hcnt.out _).mono ?_
      rintro x w2 ⟨rfl, hb2⟩
      have B2 := Lib.hid (below_call B1.out B1.out.size hb2)
      have I2 := Lib.hid (HI.out.keep HP.out (B2.out.mono HB.out))
      have G2 := Lib.hid (keep_block G1.out hb2)
      clear hb2
      go_wp2_with (refine wpList_store_row rfl 23 (.tmp 6) _ rfl (w.heap.size + 1) (ints .u8 z32) rfl rfl 23 (ints .u8 z32) G2.out (by kernel_rfl) rfl (ints_one _ _) ?_)
      have GF := Lib.hid (setRow_heap _ _ (ints .u8 z32) (ints .u8 z32) _ _ G2.out)
      have E := Below.setRow (g := w.heap.size + 1) (Below.refl w.heap.size w2) (by omega) (ints .u8 z32)
      have HKL : Hid (z32.length = 32) := Lib.hid rfl
      refine bodyPost_ret (results_cell2_row rfl _ _ (w.heap.size + 1) 23 (ints .u8 z32) (0, 0) _ rfl GF.out Try.underlying23 rfl (by rw [ints_size, HKL.out]; exact sizeKey)) rfl ⟨rfl, ?_⟩
      exact ⟨I2.out.keep HP.out (E.mono HB.out), (Keep.of _ B2.out).trans (Keep.of _ E)⟩
theorem rangeTells (g r ib cb kb lb blk off i c cap B0 N : Nat) (fl lv : List Int) (P : RangeP g r ib cb kb lb blk B0) (hN : N ≤ 1048576) (hic : i + c ≤ N) (hc : c ≤ cap) (hm : cap ≤ maxLen) (hfb : ∀ z ∈ fl, 0 ≤ z ∧ z ≤ 255) (hlb : ∀ z ∈ lv, 0 ≤ z ∧ z ≤ 255) :
    Tells (tlG (kdR i c) (lfR lv i) fl) (RangeI g r ib cb kb lb blk off i c cap fl lv B0) B0 (fun k => k = g ∨ k = r) N 74 #[.pointer (some ⟨ib, 0, none⟩), .pointer (some ⟨cb, 0, none⟩), .pointer (some ⟨kb, 0, none⟩), .pointer (some ⟨lb, 0, none⟩)] where
  small := hN
  enters := fun args w => enters_of Try.func74 (by kernel_rfl) rfl args w
  low := fun k h => by have := P.pr; have := P.pg; rcases h with h | h <;> omega
  keep := fun s w w' h hb => h.keep P hb
  one := fun b s => by
    unfold tlG kdR
    split
    · rfl
    · simp
  good := fun b n s w h1 hb hI => by
    unfold tlG
    split
    · exact hI.rd.nx hfb
    · split
      · rename_i h0 h2
        have h3 : ¬ (b + n ≤ i ∨ i + c ≤ b) := fun h => h0 (by unfold kdR; rw [if_pos h])
        have hn : n = 1 := by
          unfold kdR at h2
          rw [if_neg h3] at h2
          split at h2 <;> omega
        exact ⟨keyAt_len hI.lv.1 (by omega), keyAt_range hlb _⟩
      · exact ⟨rfl, z32_range⟩
  call := fun b n s w h1 hb hB hI => tellR_impl g r ib cb kb lb blk off i c cap B0 N fl lv P hN hic hc hm b n s w h1 hb hB hfb hI
end Go.Proofs.Ytjcfpfegabnnlaa
