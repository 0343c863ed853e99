/- The statement on ExactMinusStores: its walk. Written by wip/gen/storelaw.py. -/
import Derived.Test.YtdoelmjaongjfaaMsI
import Derived.Test.YtdoelmjaongjfaaQaC
import Derived.Test.YtdoelmjaongjfaaStoN
import Derived.Test.YtdoelmjaongjfaaStoreL
namespace Go.Proofs.Ytdoelmjaongjfaa
open Go.ChangeShapes Go.WideShapes Go.ChangeAt Go.RowKit
set_option linter.unusedVariables false
set_option linter.unusedSimpArgs false
theorem IsBls.fineG {w : World} {a : Option Addr} {n : Nat} {bs : List BlV} (h : IsBls w a n bs) (hs : szS bs ≤ 1048576) : ∀ (i : Nat) (x : BlV), bs[i]? = some x → BlG x := by
  intro i x hx
  refine ⟨h.fine hs i x hx, ?_⟩
  obtain ⟨h1, h2, h3⟩ := h
  rcases h3 with h3 | ⟨b, off, e, hlt, hc⟩
  · have := (List.getElem?_eq_some_iff.1 hx).1
    omega
  · obtain ⟨_, hk, _⟩ := hc i x hx
    exact hk
theorem keep_row_baseB {w w1 : World} {B g : Nat} {o : Obj} (hg : w.heap[g]? = some o) (hB : g < B) (hb : Below B w w1) : w1.heap[g]? = some o := (hb.block g hB).trans hg
theorem OutM.keepX {lo hi : Nat} {w w1 : World} {g n : Nat} {bs : List BlV} {X : Nat → Prop} (h : OutM lo hi w g n bs) (hx : ∀ k, X k → k < lo) (k : Keep w.heap.size X w w1) : OutM lo hi w1 g n bs := by
  obtain ⟨cs, h1, h2, h3, h4, h5⟩ := h
  refine ⟨cs, k.hold (fun e => by have := hx g e; omega) h1, h2, h3, h4, fun i x hi hx2 => ?_⟩
  obtain ⟨y, l, y1, y0, y2, y3, y4, y5⟩ := h5 i x hi hx2
  exact ⟨y, l, y1, y0, y2, y3, y4, k.hold (fun e => by have := hx y e; omega) y5⟩
set_option maxRecDepth 100000 in
set_option maxHeartbeats 8000000 in
theorem FnExactMinusStores_walk (a : Option Addr) (n ca : Nat) (bs : List BlV) (a' : Option Addr) (n' ca' : Nat) (bs' : List BlV) (w : World) (hA : IsBls w a n bs) (hA' : IsBls w a' n' bs') :
    Calls Try.prog 10 #[.agg #[.slice a n ca], .agg #[.slice a' n' ca']] w fun e w' => e = .returned (.bool true) ∧ Below w.heap.size w w' := by
  have A0 := heap_alloc2_old w (.cells #[.slice a n ca] 24) (.cells #[.slice a' n' ca'] 24)
  have A1 := heap_alloc2_new w (.cells #[.slice a n ca] 24) (.cells #[.slice a' n' ca'] 24)
  have B0' := ((Below.refl w.heap.size w).alloc (Nat.le_refl _) (.cells #[.slice a n ca] 24)).alloc (by simp) (.cells #[.slice a' n' ca'] 24)
  obtain ⟨w0, hw0⟩ : ∃ w0, (w.alloc (.cells #[.slice a n ca] 24)).alloc (.cells #[.slice a' n' ca'] 24) = w0 := ⟨_, rfl⟩
  rw [hw0] at A0 A1 B0'
  have E0 := Lib.hid A0
  have F0 := Lib.hid A1
  have B0 := Lib.hid B0'
  have HIA := Lib.hid hA
  have HLA := Lib.hid hA.2.1
  have HIA' := Lib.hid hA'
  have HLA' := Lib.hid hA'.2.1
  clear hA hA' A0 A1 B0'
  go_enter Try.func10, Try.ntmps10
  have q0 := cell_of_row _ w.heap.size 0 _ _ _ E0.out
  go_wp2_with fail
  clear q0
  refine (szSt a n ca bs 1048576 (by omega) (by omega) _ (HIA.out.below B0.out)).mono ?_
  rintro e w1 ⟨⟨r, rfl, hr⟩, hb⟩
  have B1 := Lib.hid (below_call B0.out B0.out.size hb)
  have E1 := Lib.hid (keep_block E0.out hb)
  have F1 := Lib.hid (keep_block F0.out hb)
  clear hb hw0
  rcases hr with rfl | ⟨r0, hr⟩
  · go_wp2_with fail
    go_ret
    exact ⟨rfl, B1.out⟩
  have r1 : ¬ r < 0 := by omega
  have r2 : r ≤ 1099511627776 := by omega
  have HRQ := Lib.hid (And.intro r0 hr)
  clear hr
  have q0 := cell_of_row _ (w.heap.size + 1) 0 _ _ _ F1.out
  go_wp2_with fail
  clear q0
  refine (szSt a' n' ca' bs' r (by omega) r2 _ (HIA'.out.below B1.out)).mono ?_
  rintro e w2 ⟨⟨r', rfl, hr'⟩, hb⟩
  have B2 := Lib.hid (below_call B1.out B1.out.size hb)
  have E2 := Lib.hid (keep_block E1.out hb)
  have F2 := Lib.hid (keep_block F1.out hb)
  clear hb B1 E1 F1
  rcases hr' with rfl | ⟨r0', hr'⟩
  · go_wp2_with fail
    go_ret
    exact ⟨rfl, B2.out⟩
  have r1' : ¬ r' < 0 := by omega
  have hr := HRQ.out.2
  have hn : n ≤ 1048576 := by omega
  have hn' : n' ≤ 1048576 := by omega
  have HGA := Lib.hid (HIA.out.fineG (by omega))
  have HFA := Lib.hid (fun (i : Nat) (x : BlV) (h : bs[i]? = some x) => (HGA.out i x h).1)
  have HNA := Lib.hid (fun (i : Nat) (x : BlV) (h : bs[i]? = some x) => (HFA.out i x h).1)
  have HGA' := Lib.hid (HIA'.out.fineG (by omega))
  have HFA' := Lib.hid (fun (i : Nat) (x : BlV) (h : bs'[i]? = some x) => (HGA'.out i x h).1)
  have HNA' := Lib.hid (fun (i : Nat) (x : BlV) (h : bs'[i]? = some x) => (HFA'.out i x h).1)
  have HSZ := Lib.hid (show (n : Int) + szS bs + n' + szS bs' ≤ 1048576 by omega)
  clear hr r0 r2 r1 hr' r0' HRQ
  have hks := Lib.hid (fun (g g' : Nat) (W : World) (h : OutB W g n n bs) (h' : OutB W g' n' n' bs') => ms_spec g g' n n' bs bs' hn hn' HLA.out HLA'.out HGA.out HGA'.out W h h')
  have hki := Lib.hid (fun (g g' : Nat) (W : World) (h : OutB W g n n bs) (h' : OutB W g' n' n' bs') => ms_impl g g' n n' bs bs' hn hn' HLA.out HLA'.out HGA.out HGA'.out W h h')
  unfold GrR at hks
  unfold OwR at hki
  have hLf := msL_fine (cs := bs') HGA.out
  have hLn : (msL bs bs').length ≤ bs.length + bs'.length := Nat.le_trans (msL_sub bs bs').length_le (Nat.le_add_right _ _)
  have hLs : szS (msL bs bs') ≤ szS bs + szS bs' := Nat.le_trans (szS_sub (msL_sub bs bs')) (Nat.le_add_right _ _)
  generalize msL bs bs' = LL at hks hki hLf hLn hLs
  generalize msC bs bs' = C at hks hki
  obtain ⟨N, hN⟩ : ∃ N, LL.length = N := ⟨_, rfl⟩
  rw [hN] at hLn
  have HNL := Lib.hid hN
  have HNb := Lib.hid (show N ≤ 1048576 by have := HLA.out; have := HLA'.out; have := HSZ.out; omega)
  have HNz := Lib.hid (show (1 : Int) + N + szS LL ≤ 1099511627776 by have := HSZ.out; have := HLA.out; have := HLA'.out; omega)
  have HLf := Lib.hid hLf
  have HLn := Lib.hid (fun (i : Nat) (x : BlV) (h : LL[i]? = some x) => (hLf i x h).2)
  have HLl := Lib.hid (fun (i : Nat) (x : BlV) (h : LL[i]? = some x) => (hLf i x h).1)
  clear hN hLf hLn hLs
  go_upto_region 8 with fail
  go_cut [6, 7] (fun s6 s7 wx => ∃ u8, u8 = wx ∧ ∃ (q : Nat) (a4 : Option Addr) (c4 : Nat), s6 = .pointer (some ⟨q, 0, none⟩) ∧ s7 = .int .i64 C ∧ w2.heap.size ≤ q ∧ wx.heap[q]? = some (.cells #[.slice a4 N c4] 29) ∧ BlRd wx a4 LL ∧ Below w2.heap.size w2 wx)
  case first =>
    refine wp_region_held_drew (S := Below w2.heap.size w2) (by kernel_rfl) ((Below.refl _ _).drew) (fun hS => ?_)
    refine takeS (i := 0) (v := .agg #[.slice a n ca]) rfl rfl (by kernel_rfl) (by kernel_rfl) (by kernel_rfl) (fun _ _ _ h => h) (Or.inl ⟨by rfl, fun U hU => by have q0 := cell_of_row _ w.heap.size 0 _ _ _ (keep_block E2.out hU); go_simp⟩) hS ?_
    try simp only [List.setIfInBounds_toArray, List.set_cons_zero, List.set_cons_succ]
    refine takeS (i := 2) (v := .agg #[.slice a' n' ca']) rfl rfl (by kernel_rfl) (by kernel_rfl) (by kernel_rfl) (fun _ _ _ h => h) (Or.inl ⟨by rfl, fun U hU => by have q0 := cell_of_row _ (w.heap.size + 1) 0 _ _ _ (keep_block F2.out hU); go_simp⟩) hS ?_
    try simp only [List.setIfInBounds_toArray, List.set_cons_zero, List.set_cons_succ]
    refine wpAnyH_ready (rs := [1, 8]) (by kernel_rfl) (by simp) ?_
    refine AllReadyH.cons rfl (fun KQ hK => ?_) (AllReadyH.cons rfl (fun KQ hK => ?_) AllReadyH.nil)
    · rw [if_pos (by rfl)]
      go_simp
      refine (toSt a n ca bs (by omega) _ (HIA.out.below ((B2.out).trans (hS.mono B2.out.size))) HNA.out).mono ?_
      rintro e u5 ⟨g5, rfl, ho, hb⟩
      have OS := Lib.hid ho
      clear ho
      refine hK.out _ _ (below_call hS hS.size hb) (fun hS => ?_)
      clear hb hK
      refine wpAnyH_ready (rs := [3, 8]) (by kernel_rfl) (by simp) ?_
      refine AllReadyH.cons rfl (fun KQ hK => ?_) (AllReadyH.cons rfl (fun KQ hK => ?_) AllReadyH.nil)
      · rw [if_pos (by rfl)]
        go_simp
        refine (toSt a' n' ca' bs' (by omega) _ (HIA'.out.below ((B2.out).trans (hS.mono B2.out.size))) HNA'.out).mono ?_
        rintro e v5 ⟨g5', rfl, ho, hb⟩
        have OS := Lib.hid (OS.out.below hb)
        have OS' := Lib.hid ho
        clear ho
        refine hK.out _ _ (below_call hS hS.size hb) (fun hS => ?_)
        clear hb hK
        refine wpAnyH_ready (rs := [4, 8]) (by kernel_rfl) (by simp) ?_
        refine AllReadyH.cons rfl (fun KQ hK => ?_) (AllReadyH.cons rfl (fun KQ hK => ?_) AllReadyH.nil)
        · rw [if_pos (by rfl)]
          go_simp
          refine (hks.out g5 g5' _ OS.out OS'.out).mono ?_
          rintro e u7 ⟨v4, us, rfl, hO0, hb⟩
          obtain ⟨a4, c4, rfl, hO⟩ := hO0.shape HNL.out
          have RS := Lib.hid hO
          clear hO hO0
          refine hK.out _ _ (below_call hS hS.size hb) (fun hS => ?_)
          clear hb hK
          refine takeS (i := 5) (v := .tuple #[.agg #[.slice a4 N c4], .int .i64 C]) rfl rfl (by kernel_rfl) (by kernel_rfl) (by kernel_rfl) (fun _ _ _ h => h) (Or.inl ⟨by rfl, fun U hU => by go_simp⟩) hS ?_
          try simp only [List.setIfInBounds_toArray, List.set_cons_zero, List.set_cons_succ]
          refine takeS (i := 6) (v := .agg #[.slice a4 N c4]) rfl rfl (by kernel_rfl) (by kernel_rfl) (by kernel_rfl) (fun _ _ _ h => h) (Or.inl ⟨by rfl, fun U hU => by go_simp⟩) hS ?_
          try simp only [List.setIfInBounds_toArray, List.set_cons_zero, List.set_cons_succ]
          refine takeS (i := 7) (v := .int .i64 C) rfl rfl (by kernel_rfl) (by kernel_rfl) (by kernel_rfl) (fun _ _ _ h => h) (Or.inl ⟨by rfl, fun U hU => by go_simp⟩) hS ?_
          try simp only [List.setIfInBounds_toArray, List.set_cons_zero, List.set_cons_succ]
          refine wpAnyH_ready (rs := [8]) (by kernel_rfl) (by simp) ?_
          refine AllReadyH.cons rfl (fun KQ hK => ?_) AllReadyH.nil
          rw [if_pos (by rfl)]
          go_simp
          have LA := (Below.refl (u7).heap.size (u7)).alloc (Nat.le_refl _) (.cells #[.slice none 0 0] 29)
          have BXX := Lib.hid (heap_alloc_last (u7) (.cells #[.slice none 0 0] 29))
          have BQ := Lib.hid (show w2.heap.size ≤ (u7).heap.size from hS.size)
          have RS := Lib.hid (RS.out.below LA)
          refine hK.out _ _ (hS.alloc hS.size _) (fun hS => ?_)
          clear hK LA
          obtain ⟨wA, hwA⟩ : ∃ wA, (u7).alloc (.cells #[.slice none 0 0] 29) = wA := ⟨_, rfl⟩
          obtain ⟨q, hq⟩ : ∃ q, (u7).heap.size = q := ⟨_, rfl⟩
          rw [hwA] at BXX hS RS ⊢
          rw [hq] at BXX ⊢
          replace BQ : Hid (w2.heap.size ≤ q) := Lib.hid (by rw [← hq]; exact BQ.out)
          clear hwA hq
          refine wpAnyH_ready (rs := [9]) (by kernel_rfl) (by simp) ?_
          refine AllReadyH.cons rfl (fun KQ hK => ?_) AllReadyH.nil
          rw [if_pos (by rfl)]
          have q0 := cell_of_row _ q 0 _ _ _ BXX.out
          have f0 := frozen_of_row _ q 0 _ _ BXX.out
          go_simp
          have BY := Lib.hid (st_box (a := .slice a4 N c4) BXX.out)
          have RY := Lib.hid (RS.out.setBox BXX.out (.slice a4 N c4))
          have hSY := hS.setCell (p := ⟨q, 0, none⟩) BQ.out (.slice a4 N c4)
          refine hK.out _ _ hSY (fun hS => ?_)
          clear hK q0 f0
          refine takeS (i := 10) (v := .int .i64 C) rfl rfl (by kernel_rfl) (by kernel_rfl) (by kernel_rfl) (fun _ _ _ h => h) (Or.inl ⟨by rfl, fun U hU => by go_simp⟩) hS ?_
          try simp only [List.setIfInBounds_toArray, List.set_cons_zero, List.set_cons_succ]
          refine wpAnyH_done (by kernel_rfl) ?_ _
          go_wp2_with fail
          go_meet
          exact ⟨_, rfl, q, a4, c4, rfl, rfl, BQ.out, BY.out, RY.out.rdN, hS⟩
        · rw [if_pos (by rfl)]
          go_simp
          have LA := (Below.refl (v5).heap.size (v5)).alloc (Nat.le_refl _) (.cells #[.slice none 0 0] 29)
          have BXX := Lib.hid (heap_alloc_last (v5) (.cells #[.slice none 0 0] 29))
          have BQ := Lib.hid (show w2.heap.size ≤ (v5).heap.size from hS.size)
          have OS := Lib.hid (OS.out.below LA)
          have OS' := Lib.hid (OS'.out.below LA)
          refine hK.out _ _ (hS.alloc hS.size _) (fun hS => ?_)
          clear hK LA
          obtain ⟨wA, hwA⟩ : ∃ wA, (v5).alloc (.cells #[.slice none 0 0] 29) = wA := ⟨_, rfl⟩
          obtain ⟨q, hq⟩ : ∃ q, (v5).heap.size = q := ⟨_, rfl⟩
          rw [hwA] at BXX hS OS OS' ⊢
          rw [hq] at BXX ⊢
          replace BQ : Hid (w2.heap.size ≤ q) := Lib.hid (by rw [← hq]; exact BQ.out)
          clear hwA hq
          refine wpAnyH_ready (rs := [4]) (by kernel_rfl) (by simp) ?_
          refine AllReadyH.cons rfl (fun KQ hK => ?_) AllReadyH.nil
          rw [if_pos (by rfl)]
          go_simp
          refine (hks.out g5 g5' _ OS.out OS'.out).mono ?_
          rintro e u7 ⟨v4, us, rfl, hO0, hb⟩
          obtain ⟨a4, c4, rfl, hO⟩ := hO0.shape HNL.out
          have BXX := Lib.hid ((hb.block q (Array.getElem?_eq_some_iff.1 BXX.out).1).trans BXX.out)
          have RS := Lib.hid hO
          clear hO hO0
          refine hK.out _ _ (below_call hS hS.size hb) (fun hS => ?_)
          clear hb hK
          refine takeS (i := 5) (v := .tuple #[.agg #[.slice a4 N c4], .int .i64 C]) rfl rfl (by kernel_rfl) (by kernel_rfl) (by kernel_rfl) (fun _ _ _ h => h) (Or.inl ⟨by rfl, fun U hU => by go_simp⟩) hS ?_
          try simp only [List.setIfInBounds_toArray, List.set_cons_zero, List.set_cons_succ]
          refine takeS (i := 6) (v := .agg #[.slice a4 N c4]) rfl rfl (by kernel_rfl) (by kernel_rfl) (by kernel_rfl) (fun _ _ _ h => h) (Or.inl ⟨by rfl, fun U hU => by go_simp⟩) hS ?_
          try simp only [List.setIfInBounds_toArray, List.set_cons_zero, List.set_cons_succ]
          refine takeS (i := 7) (v := .int .i64 C) rfl rfl (by kernel_rfl) (by kernel_rfl) (by kernel_rfl) (fun _ _ _ h => h) (Or.inl ⟨by rfl, fun U hU => by go_simp⟩) hS ?_
          try simp only [List.setIfInBounds_toArray, List.set_cons_zero, List.set_cons_succ]
          refine wpAnyH_ready (rs := [9]) (by kernel_rfl) (by simp) ?_
          refine AllReadyH.cons rfl (fun KQ hK => ?_) AllReadyH.nil
          rw [if_pos (by rfl)]
          have q0 := cell_of_row _ q 0 _ _ _ BXX.out
          have f0 := frozen_of_row _ q 0 _ _ BXX.out
          go_simp
          have BY := Lib.hid (st_box (a := .slice a4 N c4) BXX.out)
          have RY := Lib.hid (RS.out.setBox BXX.out (.slice a4 N c4))
          have hSY := hS.setCell (p := ⟨q, 0, none⟩) BQ.out (.slice a4 N c4)
          refine hK.out _ _ hSY (fun hS => ?_)
          clear hK q0 f0
          refine takeS (i := 10) (v := .int .i64 C) rfl rfl (by kernel_rfl) (by kernel_rfl) (by kernel_rfl) (fun _ _ _ h => h) (Or.inl ⟨by rfl, fun U hU => by go_simp⟩) hS ?_
          try simp only [List.setIfInBounds_toArray, List.set_cons_zero, List.set_cons_succ]
          refine wpAnyH_done (by kernel_rfl) ?_ _
          go_wp2_with fail
          go_meet
          exact ⟨_, rfl, q, a4, c4, rfl, rfl, BQ.out, BY.out, RY.out.rdN, hS⟩
      · rw [if_pos (by rfl)]
        go_simp
        have LA := (Below.refl (u5).heap.size (u5)).alloc (Nat.le_refl _) (.cells #[.slice none 0 0] 29)
        have BXX := Lib.hid (heap_alloc_last (u5) (.cells #[.slice none 0 0] 29))
        have BQ := Lib.hid (show w2.heap.size ≤ (u5).heap.size from hS.size)
        have OS := Lib.hid (OS.out.below LA)
        refine hK.out _ _ (hS.alloc hS.size _) (fun hS => ?_)
        clear hK LA
        obtain ⟨wA, hwA⟩ : ∃ wA, (u5).alloc (.cells #[.slice none 0 0] 29) = wA := ⟨_, rfl⟩
        obtain ⟨q, hq⟩ : ∃ q, (u5).heap.size = q := ⟨_, rfl⟩
        rw [hwA] at BXX hS OS ⊢
        rw [hq] at BXX ⊢
        replace BQ : Hid (w2.heap.size ≤ q) := Lib.hid (by rw [← hq]; exact BQ.out)
        clear hwA hq
        refine wpAnyH_ready (rs := [3]) (by kernel_rfl) (by simp) ?_
        refine AllReadyH.cons rfl (fun KQ hK => ?_) AllReadyH.nil
        rw [if_pos (by rfl)]
        go_simp
        refine (toSt a' n' ca' bs' (by omega) _ (HIA'.out.below ((B2.out).trans (hS.mono B2.out.size))) HNA'.out).mono ?_
        rintro e v5 ⟨g5', rfl, ho, hb⟩
        have OS := Lib.hid (OS.out.below hb)
        have BXX := Lib.hid ((hb.block q (Array.getElem?_eq_some_iff.1 BXX.out).1).trans BXX.out)
        have OS' := Lib.hid ho
        clear ho
        refine hK.out _ _ (below_call hS hS.size hb) (fun hS => ?_)
        clear hb hK
        refine wpAnyH_ready (rs := [4]) (by kernel_rfl) (by simp) ?_
        refine AllReadyH.cons rfl (fun KQ hK => ?_) AllReadyH.nil
        rw [if_pos (by rfl)]
        go_simp
        refine (hks.out g5 g5' _ OS.out OS'.out).mono ?_
        rintro e u7 ⟨v4, us, rfl, hO0, hb⟩
        obtain ⟨a4, c4, rfl, hO⟩ := hO0.shape HNL.out
        have BXX := Lib.hid ((hb.block q (Array.getElem?_eq_some_iff.1 BXX.out).1).trans BXX.out)
        have RS := Lib.hid hO
        clear hO hO0
        refine hK.out _ _ (below_call hS hS.size hb) (fun hS => ?_)
        clear hb hK
        refine takeS (i := 5) (v := .tuple #[.agg #[.slice a4 N c4], .int .i64 C]) rfl rfl (by kernel_rfl) (by kernel_rfl) (by kernel_rfl) (fun _ _ _ h => h) (Or.inl ⟨by rfl, fun U hU => by go_simp⟩) hS ?_
        try simp only [List.setIfInBounds_toArray, List.set_cons_zero, List.set_cons_succ]
        refine takeS (i := 6) (v := .agg #[.slice a4 N c4]) rfl rfl (by kernel_rfl) (by kernel_rfl) (by kernel_rfl) (fun _ _ _ h => h) (Or.inl ⟨by rfl, fun U hU => by go_simp⟩) hS ?_
        try simp only [List.setIfInBounds_toArray, List.set_cons_zero, List.set_cons_succ]
        refine takeS (i := 7) (v := .int .i64 C) rfl rfl (by kernel_rfl) (by kernel_rfl) (by kernel_rfl) (fun _ _ _ h => h) (Or.inl ⟨by rfl, fun U hU => by go_simp⟩) hS ?_
        try simp only [List.setIfInBounds_toArray, List.set_cons_zero, List.set_cons_succ]
        refine wpAnyH_ready (rs := [9]) (by kernel_rfl) (by simp) ?_
        refine AllReadyH.cons rfl (fun KQ hK => ?_) AllReadyH.nil
        rw [if_pos (by rfl)]
        have q0 := cell_of_row _ q 0 _ _ _ BXX.out
        have f0 := frozen_of_row _ q 0 _ _ BXX.out
        go_simp
        have BY := Lib.hid (st_box (a := .slice a4 N c4) BXX.out)
        have RY := Lib.hid (RS.out.setBox BXX.out (.slice a4 N c4))
        have hSY := hS.setCell (p := ⟨q, 0, none⟩) BQ.out (.slice a4 N c4)
        refine hK.out _ _ hSY (fun hS => ?_)
        clear hK q0 f0
        refine takeS (i := 10) (v := .int .i64 C) rfl rfl (by kernel_rfl) (by kernel_rfl) (by kernel_rfl) (fun _ _ _ h => h) (Or.inl ⟨by rfl, fun U hU => by go_simp⟩) hS ?_
        try simp only [List.setIfInBounds_toArray, List.set_cons_zero, List.set_cons_succ]
        refine wpAnyH_done (by kernel_rfl) ?_ _
        go_wp2_with fail
        go_meet
        exact ⟨_, rfl, q, a4, c4, rfl, rfl, BQ.out, BY.out, RY.out.rdN, hS⟩
    · rw [if_pos (by rfl)]
      go_simp
      have LA := (Below.refl (w2).heap.size (w2)).alloc (Nat.le_refl _) (.cells #[.slice none 0 0] 29)
      have BXX := Lib.hid (heap_alloc_last (w2) (.cells #[.slice none 0 0] 29))
      have BQ := Lib.hid (show w2.heap.size ≤ (w2).heap.size from hS.size)
      refine hK.out _ _ (hS.alloc hS.size _) (fun hS => ?_)
      clear hK LA
      obtain ⟨wA, hwA⟩ : ∃ wA, (w2).alloc (.cells #[.slice none 0 0] 29) = wA := ⟨_, rfl⟩
      obtain ⟨q, hq⟩ : ∃ q, (w2).heap.size = q := ⟨_, rfl⟩
      rw [hwA] at BXX hS  ⊢
      clear hwA hq
      refine wpAnyH_ready (rs := [1]) (by kernel_rfl) (by simp) ?_
      refine AllReadyH.cons rfl (fun KQ hK => ?_) AllReadyH.nil
      rw [if_pos (by rfl)]
      go_simp
      refine (toSt a n ca bs (by omega) _ (HIA.out.below ((B2.out).trans (hS.mono B2.out.size))) HNA.out).mono ?_
      rintro e u5 ⟨g5, rfl, ho, hb⟩
      have BXX := Lib.hid ((hb.block (w2.heap.size) (Array.getElem?_eq_some_iff.1 BXX.out).1).trans BXX.out)
      have OS := Lib.hid ho
      clear ho
      refine hK.out _ _ (below_call hS hS.size hb) (fun hS => ?_)
      clear hb hK
      refine wpAnyH_ready (rs := [3]) (by kernel_rfl) (by simp) ?_
      refine AllReadyH.cons rfl (fun KQ hK => ?_) AllReadyH.nil
      rw [if_pos (by rfl)]
      go_simp
      refine (toSt a' n' ca' bs' (by omega) _ (HIA'.out.below ((B2.out).trans (hS.mono B2.out.size))) HNA'.out).mono ?_
      rintro e v5 ⟨g5', rfl, ho, hb⟩
      have OS := Lib.hid (OS.out.below hb)
      have BXX := Lib.hid ((hb.block (w2.heap.size) (Array.getElem?_eq_some_iff.1 BXX.out).1).trans BXX.out)
      have OS' := Lib.hid ho
      clear ho
      refine hK.out _ _ (below_call hS hS.size hb) (fun hS => ?_)
      clear hb hK
      refine wpAnyH_ready (rs := [4]) (by kernel_rfl) (by simp) ?_
      refine AllReadyH.cons rfl (fun KQ hK => ?_) AllReadyH.nil
      rw [if_pos (by rfl)]
      go_simp
      refine (hks.out g5 g5' _ OS.out OS'.out).mono ?_
      rintro e u7 ⟨v4, us, rfl, hO0, hb⟩
      obtain ⟨a4, c4, rfl, hO⟩ := hO0.shape HNL.out
      have BXX := Lib.hid ((hb.block (w2.heap.size) (Array.getElem?_eq_some_iff.1 BXX.out).1).trans BXX.out)
      have RS := Lib.hid hO
      clear hO hO0
      refine hK.out _ _ (below_call hS hS.size hb) (fun hS => ?_)
      clear hb hK
      refine takeS (i := 5) (v := .tuple #[.agg #[.slice a4 N c4], .int .i64 C]) rfl rfl (by kernel_rfl) (by kernel_rfl) (by kernel_rfl) (fun _ _ _ h => h) (Or.inl ⟨by rfl, fun U hU => by go_simp⟩) hS ?_
      try simp only [List.setIfInBounds_toArray, List.set_cons_zero, List.set_cons_succ]
      refine takeS (i := 6) (v := .agg #[.slice a4 N c4]) rfl rfl (by kernel_rfl) (by kernel_rfl) (by kernel_rfl) (fun _ _ _ h => h) (Or.inl ⟨by rfl, fun U hU => by go_simp⟩) hS ?_
      try simp only [List.setIfInBounds_toArray, List.set_cons_zero, List.set_cons_succ]
      refine takeS (i := 7) (v := .int .i64 C) rfl rfl (by kernel_rfl) (by kernel_rfl) (by kernel_rfl) (fun _ _ _ h => h) (Or.inl ⟨by rfl, fun U hU => by go_simp⟩) hS ?_
      try simp only [List.setIfInBounds_toArray, List.set_cons_zero, List.set_cons_succ]
      refine wpAnyH_ready (rs := [9]) (by kernel_rfl) (by simp) ?_
      refine AllReadyH.cons rfl (fun KQ hK => ?_) AllReadyH.nil
      rw [if_pos (by rfl)]
      have q0 := cell_of_row _ (w2.heap.size) 0 _ _ _ BXX.out
      have f0 := frozen_of_row _ (w2.heap.size) 0 _ _ BXX.out
      go_simp
      have BY := Lib.hid (st_box (a := .slice a4 N c4) BXX.out)
      have RY := Lib.hid (RS.out.setBox BXX.out (.slice a4 N c4))
      have hSY := hS.setCell (p := ⟨(w2.heap.size), 0, none⟩) BQ.out (.slice a4 N c4)
      refine hK.out _ _ hSY (fun hS => ?_)
      clear hK q0 f0
      refine takeS (i := 10) (v := .int .i64 C) rfl rfl (by kernel_rfl) (by kernel_rfl) (by kernel_rfl) (fun _ _ _ h => h) (Or.inl ⟨by rfl, fun U hU => by go_simp⟩) hS ?_
      try simp only [List.setIfInBounds_toArray, List.set_cons_zero, List.set_cons_succ]
      refine wpAnyH_done (by kernel_rfl) ?_ _
      go_wp2_with fail
      go_meet
      exact ⟨_, rfl, (w2.heap.size), a4, c4, rfl, rfl, BQ.out, BY.out, RY.out.rdN, hS⟩
  obtain ⟨w3, rfl, q6, a4, c4, rfl, rfl, hq6, hBX, hRd, hb⟩ := hcut
  have B3 := Lib.hid (below_call B2.out B2.out.size hb)
  have E3 := Lib.hid (keep_block E2.out hb)
  have F3 := Lib.hid (keep_block F2.out hb)
  have S3 := Lib.hid hBX
  have R3 := Lib.hid hRd
  clear hb hBX hRd B2 E2 F2
  have q0 := cell_of_row _ w.heap.size 0 _ _ _ E3.out
  go_wp2_with fail
  clear q0
  refine (toStN a n ca bs (by omega) _ (HIA.out.below B3.out) HNA.out).mono ?_
  rintro e w4 ⟨g4, hg4, rfl, ho, hb⟩
  have O4 := Lib.hid ho
  have C4 := Lib.hid hb
  have M4 := Lib.hid (ho.marked hg4 HFA.out)
  have B4 := Lib.hid (below_call B3.out B3.out.size hb)
  clear ho hb
  go_upto_region 10 with fail
  have LI := (Below.refl w4.heap.size w4).alloc (Nat.le_refl _) (.cells #[.slice (some ⟨g4, 0, none⟩) n n] 29)
  have B5 := Lib.hid (below_call B4.out B4.out.size LI)
  have C5 := Lib.hid (below_call C4.out C4.out.size LI)
  have O5 := Lib.hid (O4.out.out.below LI)
  have M5 := Lib.hid (M4.out.below LI)
  have X5 := Lib.hid (heap_alloc_last w4 (.cells #[.slice (some ⟨g4, 0, none⟩) n n] 29))
  have Z5 := Lib.hid (show w4.heap.size < (w4.alloc (.cells #[.slice (some ⟨g4, 0, none⟩) n n] 29)).heap.size by simp)
  clear LI
  generalize w4.alloc (.cells #[.slice (some ⟨g4, 0, none⟩) n n] 29) = w5 at B5 C5 O5 M5 X5 Z5 ⊢
  generalize w4.heap.size = x0 at M5 X5 Z5 ⊢
  have F5 := Lib.hid (keep_block F3.out C5.out)
  clear B4 C4 O4 M4
  have q0 := cell_of_row _ (w.heap.size + 1) 0 _ _ _ F5.out
  go_wp2_with fail
  clear q0
  refine (toStN a' n' ca' bs' (by omega) _ (HIA'.out.below B5.out) HNA'.out).mono ?_
  rintro e w6 ⟨g6, hg6, rfl, ho, hb⟩
  have P6 := Lib.hid ho
  have D6 := Lib.hid hb
  have K6 := Lib.hid (ho.marked hg6 HFA'.out)
  have B6 := Lib.hid (below_call B5.out B5.out.size hb)
  have C6 := Lib.hid (below_call C5.out C5.out.size hb)
  have O6 := Lib.hid (O5.out.below hb)
  have M6 := Lib.hid (M5.out.below hb)
  have X6 := Lib.hid (keep_block X5.out hb)
  have G55 := Lib.hid B5.out.size
  have F55 := Lib.hid C5.out.size
  clear ho hb B5 C5 O5 M5 X5 F5
  go_upto_region 11 with fail
  have LI := (Below.refl w6.heap.size w6).alloc (Nat.le_refl _) (.cells #[.slice (some ⟨g6, 0, none⟩) n' n'] 29)
  have B7 := Lib.hid (below_call B6.out B6.out.size LI)
  have C7 := Lib.hid (below_call C6.out C6.out.size LI)
  have O7 := Lib.hid (O6.out.below LI)
  have M7 := Lib.hid (M6.out.below LI)
  have X7 := Lib.hid (keep_block X6.out LI)
  have P7 := Lib.hid (P6.out.out.below LI)
  have K7 := Lib.hid (K6.out.below LI)
  have Y7 := Lib.hid (heap_alloc_last w6 (.cells #[.slice (some ⟨g6, 0, none⟩) n' n'] 29))
  have Z7 := Lib.hid (show w6.heap.size < (w6.alloc (.cells #[.slice (some ⟨g6, 0, none⟩) n' n'] 29)).heap.size by simp)
  have Z6 := Lib.hid (show w5.heap.size ≤ w6.heap.size from D6.out.size)
  clear LI
  generalize w6.alloc (.cells #[.slice (some ⟨g6, 0, none⟩) n' n'] 29) = w7 at B7 C7 O7 M7 X7 P7 K7 Y7 Z7 ⊢
  generalize w6.heap.size = x1 at K7 Y7 Z7 Z6 ⊢
  have S7 := Lib.hid (keep_block S3.out C7.out)
  have R7 := Lib.hid (R3.out.below C7.out)
  clear B6 C6 O6 M6 X6 P6 D6 K6
  have q0 := cell_of_row _ x0 0 _ _ _ X7.out
  have p0 := cell_of_row _ x1 0 _ _ _ Y7.out
  go_wp2_with fail
  clear q0 p0
  refine (hki.out g4 g6 _ O7.out P7.out).mono ?_
  rintro e w8 ⟨v7, ys, rfl, hO0, hb⟩
  obtain ⟨a7, c7, rfl, hO⟩ := hO0.shapeN HNL.out
  go_upto_region 12 with fail
  have LI := (Below.refl w8.heap.size w8).alloc (Nat.le_refl _) (.cells #[.slice a7 N c7] 29)
  have hb2 := below_call hb hb.size LI
  have T9 := Lib.hid (heap_alloc_last w8 (.cells #[.slice a7 N c7] 29))
  have V9 := Lib.hid (hO.below LI)
  have B9 := Lib.hid (below_call B7.out B7.out.size hb2)
  have C9 := Lib.hid (below_call C7.out C7.out.size hb2)
  have O9 := Lib.hid (O7.out.below hb2)
  have M9 := Lib.hid (M7.out.below hb2)
  have X9 := Lib.hid (keep_block X7.out hb2)
  have P9 := Lib.hid (P7.out.below hb2)
  have K9 := Lib.hid (K7.out.below hb2)
  have Y9 := Lib.hid (keep_block Y7.out hb2)
  have S9 := Lib.hid (keep_block S7.out hb2)
  have R9 := Lib.hid (R7.out.below hb2)
  have HQ9 := Lib.hid (show w7.heap.size ≤ w8.heap.size from hb.size)
  have G77 := Lib.hid B7.out.size
  have F77 := Lib.hid C7.out.size
  have HB9 := Lib.hid hb2.size
  clear hb hb2 hO hO0 LI B7 C7 O7 M7 X7 P7 K7 Y7 S7 R7
  generalize w8.alloc (.cells #[.slice a7 N c7] 29) = w9 at T9 V9 B9 C9 O9 M9 X9 P9 K9 Y9 S9 R9 HB9 ⊢
  generalize w8.heap.size = q9 at T9 HQ9 ⊢
  have q0 := cell_of_row _ q9 0 _ _ _ T9.out
  have p0 := cell_of_row _ q6 0 _ _ _ S9.out
  go_wp2_with fail
  clear q0 p0
  refine (eqStR a7 a4 c7 c4 N LL HNL.out HNb.out HLn.out _ (V9.out.rdN HNL.out HLl.out) R9.out).mono ?_
  rintro e w10 ⟨rfl, hb⟩
  have T10 := Lib.hid (keep_block T9.out hb)
  have V10 := Lib.hid (V9.out.below hb)
  have B10 := Lib.hid (below_call B9.out B9.out.size hb)
  have C10 := Lib.hid (below_call C9.out C9.out.size hb)
  have O10 := Lib.hid (O9.out.below hb)
  have M10 := Lib.hid (M9.out.below hb)
  have X10 := Lib.hid (keep_block X9.out hb)
  have P10 := Lib.hid (P9.out.below hb)
  have K10 := Lib.hid (K9.out.below hb)
  have Y10 := Lib.hid (keep_block Y9.out hb)
  have S10 := Lib.hid (keep_block S9.out hb)
  have R10 := Lib.hid (R9.out.below hb)
  clear hb T9 V9 B9 C9 O9 M9 X9 P9 K9 Y9 S9 R9
  have E10 := Lib.hid (keep_block E3.out C10.out)
  go_upto_region 14 with fail
  refine wp_region_held_drew (S := Below (w10).heap.size (w10)) (by kernel_rfl) ((Below.refl _ _).drew) (fun hS => ?_)
  refine takeS (i := 0) (v := .agg #[.slice (some ⟨g4, 0, none⟩) n n]) rfl rfl (by kernel_rfl) (by kernel_rfl) (by kernel_rfl) (fun _ _ _ h => h) (Or.inl ⟨by rfl, fun U hU => by have q0 := cell_of_row _ (x0) 0 _ _ _ (keep_block X10.out hU); go_simp⟩) hS ?_
  try simp only [List.setIfInBounds_toArray, List.set_cons_zero, List.set_cons_succ]
  refine takeS (i := 1) (v := .agg #[.slice a n ca]) rfl rfl (by kernel_rfl) (by kernel_rfl) (by kernel_rfl) (fun _ _ _ h => h) (Or.inl ⟨by rfl, fun U hU => by have q0 := cell_of_row _ (w.heap.size) 0 _ _ _ (keep_block E10.out hU); go_simp⟩) hS ?_
  try simp only [List.setIfInBounds_toArray, List.set_cons_zero, List.set_cons_succ]
  refine wpAnyH_ready (rs := [2]) (by kernel_rfl) (by simp) ?_
  refine AllReadyH.cons rfl (fun KQ hK => ?_) AllReadyH.nil
  rw [if_pos (by rfl)]
  go_simp
  refine (toSt a n ca bs (by omega) _ (HIA.out.below ((B10.out).trans (hS.mono (B10.out).size))) HNA.out).mono ?_
  rintro e u5 ⟨g5, rfl, ho, hb⟩
  have OA := Lib.hid ho
  have OB := Lib.hid (O10.out.below (below_call hS hS.size hb))
  refine hK.out _ _ (below_call hS hS.size hb) (fun hS => ?_)
  clear hb hK ho
  refine wpAnyH_ready (rs := [3]) (by kernel_rfl) (by simp) ?_
  refine AllReadyH.cons rfl (fun KQ hK => ?_) AllReadyH.nil
  rw [if_pos (by rfl)]
  go_simp
  refine (eqSt g4 g5 n bs (by omega) HLA.out HFA.out _ OB.out OA.out).mono ?_
  rintro e u6 ⟨rfl, hb⟩
  refine hK.out _ _ (below_call hS hS.size hb) (fun hS => ?_)
  clear hb hK OA OB
  refine takeS (i := 4) (v := .bool false) rfl rfl (by kernel_rfl) (by kernel_rfl) (by kernel_rfl) (fun _ _ _ h => h) (Or.inl ⟨by rfl, fun U hU => by go_simp⟩) hS ?_
  try simp only [List.setIfInBounds_toArray, List.set_cons_zero, List.set_cons_succ]
  refine wpAnyH_done (by kernel_rfl) ?_ _
  have T11 := Lib.hid (keep_block T10.out hS)
  have V11 := Lib.hid (V10.out.below hS)
  have B11 := Lib.hid (below_call B10.out B10.out.size hS)
  have C11 := Lib.hid (below_call C10.out C10.out.size hS)
  have M11 := Lib.hid (M10.out.below hS)
  have X11 := Lib.hid (keep_block X10.out hS)
  have P11 := Lib.hid (P10.out.below hS)
  have K11 := Lib.hid (K10.out.below hS)
  have Y11 := Lib.hid (keep_block Y10.out hS)
  have S11 := Lib.hid (keep_block S10.out hS)
  have R11 := Lib.hid (R10.out.below hS)
  clear hS T10 V10 B10 C10 M10 X10 P10 K10 Y10 S10 R10
  have F11 := Lib.hid (keep_block F3.out C11.out)
  clear E10 O10
  go_upto_region 16 with fail
  refine wp_region_held_drew (S := Below (u6).heap.size (u6)) (by kernel_rfl) ((Below.refl _ _).drew) (fun hS => ?_)
  refine takeS (i := 0) (v := .agg #[.slice (some ⟨g6, 0, none⟩) n' n']) rfl rfl (by kernel_rfl) (by kernel_rfl) (by kernel_rfl) (fun _ _ _ h => h) (Or.inl ⟨by rfl, fun U hU => by have q0 := cell_of_row _ (x1) 0 _ _ _ (keep_block Y11.out hU); go_simp⟩) hS ?_
  try simp only [List.setIfInBounds_toArray, List.set_cons_zero, List.set_cons_succ]
  refine takeS (i := 1) (v := .agg #[.slice a' n' ca']) rfl rfl (by kernel_rfl) (by kernel_rfl) (by kernel_rfl) (fun _ _ _ h => h) (Or.inl ⟨by rfl, fun U hU => by have q0 := cell_of_row _ (w.heap.size + 1) 0 _ _ _ (keep_block F11.out hU); go_simp⟩) hS ?_
  try simp only [List.setIfInBounds_toArray, List.set_cons_zero, List.set_cons_succ]
  refine wpAnyH_ready (rs := [2]) (by kernel_rfl) (by simp) ?_
  refine AllReadyH.cons rfl (fun KQ hK => ?_) AllReadyH.nil
  rw [if_pos (by rfl)]
  go_simp
  refine (toSt a' n' ca' bs' (by omega) _ (HIA'.out.below ((B11.out).trans (hS.mono (B11.out).size))) HNA'.out).mono ?_
  rintro e u5 ⟨g5, rfl, ho, hb⟩
  have OA := Lib.hid ho
  have OB := Lib.hid (P11.out.below (below_call hS hS.size hb))
  refine hK.out _ _ (below_call hS hS.size hb) (fun hS => ?_)
  clear hb hK ho
  refine wpAnyH_ready (rs := [3]) (by kernel_rfl) (by simp) ?_
  refine AllReadyH.cons rfl (fun KQ hK => ?_) AllReadyH.nil
  rw [if_pos (by rfl)]
  go_simp
  refine (eqSt g6 g5 n' bs' (by omega) HLA'.out HFA'.out _ OB.out OA.out).mono ?_
  rintro e u7 ⟨rfl, hb⟩
  refine hK.out _ _ (below_call hS hS.size hb) (fun hS => ?_)
  clear hb hK OA OB
  refine takeS (i := 4) (v := .bool false) rfl rfl (by kernel_rfl) (by kernel_rfl) (by kernel_rfl) (fun _ _ _ h => h) (Or.inl ⟨by rfl, fun U hU => by go_simp⟩) hS ?_
  try simp only [List.setIfInBounds_toArray, List.set_cons_zero, List.set_cons_succ]
  refine wpAnyH_done (by kernel_rfl) ?_ _
  have T12 := Lib.hid (keep_block T11.out hS)
  have V12 := Lib.hid (V11.out.below hS)
  have B12 := Lib.hid (below_call B11.out B11.out.size hS)
  have C12 := Lib.hid (below_call C11.out C11.out.size hS)
  have M12 := Lib.hid (M11.out.below hS)
  have X12 := Lib.hid (keep_block X11.out hS)
  have K12 := Lib.hid (K11.out.below hS)
  have Y12 := Lib.hid (keep_block Y11.out hS)
  have S12 := Lib.hid (keep_block S11.out hS)
  have R12 := Lib.hid (R11.out.below hS)
  clear hS T11 V11 B11 C11 M11 X11 K11 Y11 S11 R11
  clear F11 P11
  have q0 := cell_of_row _ x0 0 _ _ _ X12.out
  go_upto_region 19 with fail
  go_wp2_with fail
  clear q0
  refine (markSt w3.heap.size x0 g4 n bs 1 (by omega) (by have := HSZ.out; omega) (by omega) HLA.out _ (by have := (Array.getElem?_eq_some_iff.1 X12.out).1; omega) M12.out).mono ?_
  rintro e w13 ⟨rfl, hk⟩
  have hkB : Below w3.heap.size u7 w13 := hk.below C12.out.size (fun k h => h.1)
  have V13 := Lib.hid (V12.out.keepX (fun k h => by have := h.2; have := Z5.out; have := Z6.out; have := Z7.out; omega) hk)
  have T13 := Lib.hid (hk.hold (g := q9) (fun h => by have := h.2; have := Z5.out; have := Z6.out; have := Z7.out; have := HQ9.out; omega) T12.out)
  have Y13 := Lib.hid (hk.hold (g := x1) (fun h => by have := h.2; have := Z5.out; have := Z6.out; omega) Y12.out)
  have K13 := Lib.hid (K12.out.keepX (fun k h => by have := h.2; have := Z5.out; omega) hk)
  have B13 := Lib.hid (B12.out.trans (hkB.mono B3.out.size))
  have C13 := Lib.hid (C12.out.trans hkB)
  have S13 := Lib.hid (keep_row_baseB S12.out (Array.getElem?_eq_some_iff.1 S3.out).1 hkB)
  clear hk hkB V12 B12 C12 M12 X12 K12 Y12 S12 R12 T12
  have hrb : (1 : Int) + ((n + szS bs : Nat) : Int) ≤ 2097152 := by have := HSZ.out; push_cast; omega
  have hra : (0 : Int) ≤ 1 + ((n + szS bs : Nat) : Int) := by omega
  generalize (1 : Int) + ((n + szS bs : Nat) : Int) = r2 at hrb hra ⊢
  have q0 := cell_of_row _ x1 0 _ _ _ Y13.out
  go_upto_region 20 with fail
  go_wp2_with fail
  clear q0
  refine (markSt w5.heap.size x1 g6 n' bs' r2 hra (by have := HSZ.out; omega) (by omega) HLA'.out _ (by have := (Array.getElem?_eq_some_iff.1 Y13.out).1; omega) K13.out).mono ?_
  rintro e w14 ⟨rfl, hk⟩
  have hkB : Below w3.heap.size w13 w14 := hk.below C13.out.size (fun k h => by have := h.1; have := F55.out; omega)
  have V14 := Lib.hid (V13.out.keepX (fun k h => by have := h.2; have := Z7.out; omega) hk)
  have T14 := Lib.hid (hk.hold (g := q9) (fun h => by have := h.2; have := Z7.out; have := HQ9.out; omega) T13.out)
  have B14 := Lib.hid (B13.out.trans (hkB.mono B3.out.size))
  have C14 := Lib.hid (C13.out.trans hkB)
  have S14 := Lib.hid (keep_row_baseB S13.out (Array.getElem?_eq_some_iff.1 S3.out).1 hkB)
  have R14 := Lib.hid (R3.out.below C14.out)
  clear hk hkB V13 B13 C13 K13 Y13 S13 T13
  have hr3 : ¬ r2 + ((n' + szS bs' : Nat) : Int) < 0 := by omega
  generalize r2 + ((n' + szS bs' : Nat) : Int) = r3 at hr3 ⊢
  clear hrb hra
  have q0 := cell_of_row _ q9 0 _ _ _ T14.out
  have p0 := cell_of_row _ q6 0 _ _ _ S14.out
  go_upto_region 21 with fail
  go_wp2_with fail
  clear q0 p0
  refine (eqStR a7 a4 c7 c4 N LL HNL.out HNb.out HLn.out _ (V14.out.rdN HNL.out HLl.out) R14.out).mono ?_
  rintro e w15 ⟨rfl, hb⟩
  have T15 := Lib.hid (keep_block T14.out hb)
  have V15 := Lib.hid (V14.out.below hb)
  have B15 := Lib.hid (below_call B14.out B14.out.size hb)
  have C15 := Lib.hid (below_call C14.out C14.out.size hb)
  have S15 := Lib.hid (keep_block S14.out hb)
  clear hb T14 V14 B14 C14 S14
  clear R14
  have hw7 : w7.heap.size ≤ w15.heap.size := by have := (Array.getElem?_eq_some_iff.1 T15.out).1; have := HQ9.out; omega
  have hmk := Lib.hid (markStO a7 c7 w7.heap.size N LL ys 1 HNL.out (by omega) HNz.out HNb.out HLf.out w15 hw7 V15.out)
  have hhd := Lib.hid (fun W h => heldStO a7 c7 N LL 1 HNL.out (by omega) HNz.out HNb.out HLn.out W h)
  have HLZ := Lib.hid (mkB_len 1 LL)
  have HLM := Lib.hid (fun (i : Nat) (x : BlV) (h : (mkB 1 LL)[i]? = some x) => (mkB_n h).choose_spec.2.2)
  generalize hm : (1 : Int) + ((N + szS LL : Nat) : Int) = m at hmk hhd
  have m0 : ¬ m < 0 := by omega
  clear hm
  have q0 := cell_of_row _ q9 0 _ _ _ T15.out
  go_upto_region 24 with fail
  go_wp2_with fail
  clear q0
  refine hmk.out.mono ?_
  rintro e w16 ⟨rfl, hO, hkB, hT⟩
  have T16 := Lib.hid (hT _ _ _ T15.out (by decide) (by decide))
  have V16 := Lib.hid (hO.rdN (HLZ.out.trans HNL.out) HLM.out)
  have B16 := Lib.hid (B15.out.trans (hkB.mono G77.out))
  have C16 := Lib.hid (C15.out.trans (hkB.mono F77.out))
  have S16 := Lib.hid (keep_row_baseB S15.out (Nat.lt_of_lt_of_le (Array.getElem?_eq_some_iff.1 S3.out).1 F77.out) hkB)
  clear hkB hO hT T15 V15 B15 C15 S15 hmk
  have q0 := cell_of_row _ q9 0 _ _ _ T16.out
  go_upto_region 26 with fail
  go_wp2_with fail
  clear q0
  refine (hhd.out _ V16.out).mono ?_
  rintro e w17 ⟨rfl, hb⟩
  have T17 := Lib.hid (keep_block T16.out hb)
  have V17 := Lib.hid (V16.out.below hb)
  have B17 := Lib.hid (below_call B16.out B16.out.size hb)
  have C17 := Lib.hid (below_call C16.out C16.out.size hb)
  have S17 := Lib.hid (keep_block S16.out hb)
  clear hb T16 V16 B16 C16 S16
  have E17 := Lib.hid (keep_block E3.out C17.out)
  have F17 := Lib.hid (keep_block F3.out C17.out)
  go_upto_region 31 with fail
  go_cut [15, 16] (fun s6 s7 wx => ∃ u8, u8 = wx ∧ ∃ (q : Nat) (a4 : Option Addr) (c4 : Nat), s6 = .pointer (some ⟨q, 0, none⟩) ∧ s7 = .int .i64 C ∧ w17.heap.size ≤ q ∧ wx.heap[q]? = some (.cells #[.slice a4 N c4] 29) ∧ (∃ ys, OwnS wx w17.heap.size (.slice a4 N c4) LL ys) ∧ Below w17.heap.size w17 wx)
  case first =>
    refine wp_region_held_drew (S := Below w17.heap.size w17) (by kernel_rfl) ((Below.refl _ _).drew) (fun hS => ?_)
    refine takeS (i := 0) (v := .agg #[.slice a n ca]) rfl rfl (by kernel_rfl) (by kernel_rfl) (by kernel_rfl) (fun _ _ _ h => h) (Or.inl ⟨by rfl, fun U hU => by have q0 := cell_of_row _ w.heap.size 0 _ _ _ (keep_block E17.out hU); go_simp⟩) hS ?_
    try simp only [List.setIfInBounds_toArray, List.set_cons_zero, List.set_cons_succ]
    refine takeS (i := 2) (v := .agg #[.slice a' n' ca']) rfl rfl (by kernel_rfl) (by kernel_rfl) (by kernel_rfl) (fun _ _ _ h => h) (Or.inl ⟨by rfl, fun U hU => by have q0 := cell_of_row _ (w.heap.size + 1) 0 _ _ _ (keep_block F17.out hU); go_simp⟩) hS ?_
    try simp only [List.setIfInBounds_toArray, List.set_cons_zero, List.set_cons_succ]
    refine wpAnyH_ready (rs := [1, 8]) (by kernel_rfl) (by simp) ?_
    refine AllReadyH.cons rfl (fun KQ hK => ?_) (AllReadyH.cons rfl (fun KQ hK => ?_) AllReadyH.nil)
    · rw [if_pos (by rfl)]
      go_simp
      refine (toSt a n ca bs (by omega) _ (HIA.out.below ((B17.out).trans (hS.mono B17.out.size))) HNA.out).mono ?_
      rintro e u5 ⟨g5, rfl, ho, hb⟩
      have OS := Lib.hid ho
      clear ho
      refine hK.out _ _ (below_call hS hS.size hb) (fun hS => ?_)
      clear hb hK
      refine wpAnyH_ready (rs := [3, 8]) (by kernel_rfl) (by simp) ?_
      refine AllReadyH.cons rfl (fun KQ hK => ?_) (AllReadyH.cons rfl (fun KQ hK => ?_) AllReadyH.nil)
      · rw [if_pos (by rfl)]
        go_simp
        refine (toSt a' n' ca' bs' (by omega) _ (HIA'.out.below ((B17.out).trans (hS.mono B17.out.size))) HNA'.out).mono ?_
        rintro e v5 ⟨g5', rfl, ho, hb⟩
        have OS := Lib.hid (OS.out.below hb)
        have OS' := Lib.hid ho
        clear ho
        refine hK.out _ _ (below_call hS hS.size hb) (fun hS => ?_)
        clear hb hK
        refine wpAnyH_ready (rs := [4, 8]) (by kernel_rfl) (by simp) ?_
        refine AllReadyH.cons rfl (fun KQ hK => ?_) (AllReadyH.cons rfl (fun KQ hK => ?_) AllReadyH.nil)
        · rw [if_pos (by rfl)]
          go_simp
          have hsz7 := hS.size
          refine (hki.out g5 g5' _ OS.out OS'.out).mono ?_
          rintro e u7 ⟨v4, ys, rfl, hO0, hb⟩
          obtain ⟨a4, c4, rfl, hO⟩ := hO0.shapeN HNL.out
          have RS := Lib.hid (hO.mono hsz7)
          clear hO hO0
          refine hK.out _ _ (below_call hS hS.size hb) (fun hS => ?_)
          clear hb hK
          refine takeS (i := 5) (v := .tuple #[.agg #[.slice a4 N c4], .int .i64 C]) rfl rfl (by kernel_rfl) (by kernel_rfl) (by kernel_rfl) (fun _ _ _ h => h) (Or.inl ⟨by rfl, fun U hU => by go_simp⟩) hS ?_
          try simp only [List.setIfInBounds_toArray, List.set_cons_zero, List.set_cons_succ]
          refine takeS (i := 6) (v := .agg #[.slice a4 N c4]) rfl rfl (by kernel_rfl) (by kernel_rfl) (by kernel_rfl) (fun _ _ _ h => h) (Or.inl ⟨by rfl, fun U hU => by go_simp⟩) hS ?_
          try simp only [List.setIfInBounds_toArray, List.set_cons_zero, List.set_cons_succ]
          refine takeS (i := 7) (v := .int .i64 C) rfl rfl (by kernel_rfl) (by kernel_rfl) (by kernel_rfl) (fun _ _ _ h => h) (Or.inl ⟨by rfl, fun U hU => by go_simp⟩) hS ?_
          try simp only [List.setIfInBounds_toArray, List.set_cons_zero, List.set_cons_succ]
          refine wpAnyH_ready (rs := [8]) (by kernel_rfl) (by simp) ?_
          refine AllReadyH.cons rfl (fun KQ hK => ?_) AllReadyH.nil
          rw [if_pos (by rfl)]
          go_simp
          have LA := (Below.refl (u7).heap.size (u7)).alloc (Nat.le_refl _) (.cells #[.slice none 0 0] 29)
          have BXX := Lib.hid (heap_alloc_last (u7) (.cells #[.slice none 0 0] 29))
          have BQ := Lib.hid (show w17.heap.size ≤ (u7).heap.size from hS.size)
          have RS := Lib.hid (RS.out.below LA)
          refine hK.out _ _ (hS.alloc hS.size _) (fun hS => ?_)
          clear hK LA
          obtain ⟨wA, hwA⟩ : ∃ wA, (u7).alloc (.cells #[.slice none 0 0] 29) = wA := ⟨_, rfl⟩
          obtain ⟨q, hq⟩ : ∃ q, (u7).heap.size = q := ⟨_, rfl⟩
          rw [hwA] at BXX hS RS ⊢
          rw [hq] at BXX ⊢
          replace BQ : Hid (w17.heap.size ≤ q) := Lib.hid (by rw [← hq]; exact BQ.out)
          clear hwA hq
          refine wpAnyH_ready (rs := [9]) (by kernel_rfl) (by simp) ?_
          refine AllReadyH.cons rfl (fun KQ hK => ?_) AllReadyH.nil
          rw [if_pos (by rfl)]
          have q0 := cell_of_row _ q 0 _ _ _ BXX.out
          have f0 := frozen_of_row _ q 0 _ _ BXX.out
          go_simp
          have BY := Lib.hid (st_box (a := .slice a4 N c4) BXX.out)
          have RY := Lib.hid (RS.out.setBox BXX.out (.slice a4 N c4))
          have hSY := hS.setCell (p := ⟨q, 0, none⟩) BQ.out (.slice a4 N c4)
          refine hK.out _ _ hSY (fun hS => ?_)
          clear hK q0 f0
          refine takeS (i := 10) (v := .int .i64 C) rfl rfl (by kernel_rfl) (by kernel_rfl) (by kernel_rfl) (fun _ _ _ h => h) (Or.inl ⟨by rfl, fun U hU => by go_simp⟩) hS ?_
          try simp only [List.setIfInBounds_toArray, List.set_cons_zero, List.set_cons_succ]
          refine wpAnyH_done (by kernel_rfl) ?_ _
          go_wp2_with fail
          go_meet
          exact ⟨_, rfl, q, a4, c4, rfl, rfl, BQ.out, BY.out, ⟨_, RY.out⟩, hS⟩
        · rw [if_pos (by rfl)]
          go_simp
          have LA := (Below.refl (v5).heap.size (v5)).alloc (Nat.le_refl _) (.cells #[.slice none 0 0] 29)
          have BXX := Lib.hid (heap_alloc_last (v5) (.cells #[.slice none 0 0] 29))
          have BQ := Lib.hid (show w17.heap.size ≤ (v5).heap.size from hS.size)
          have OS := Lib.hid (OS.out.below LA)
          have OS' := Lib.hid (OS'.out.below LA)
          refine hK.out _ _ (hS.alloc hS.size _) (fun hS => ?_)
          clear hK LA
          obtain ⟨wA, hwA⟩ : ∃ wA, (v5).alloc (.cells #[.slice none 0 0] 29) = wA := ⟨_, rfl⟩
          obtain ⟨q, hq⟩ : ∃ q, (v5).heap.size = q := ⟨_, rfl⟩
          rw [hwA] at BXX hS OS OS' ⊢
          rw [hq] at BXX ⊢
          replace BQ : Hid (w17.heap.size ≤ q) := Lib.hid (by rw [← hq]; exact BQ.out)
          clear hwA hq
          refine wpAnyH_ready (rs := [4]) (by kernel_rfl) (by simp) ?_
          refine AllReadyH.cons rfl (fun KQ hK => ?_) AllReadyH.nil
          rw [if_pos (by rfl)]
          go_simp
          have hsz7 := hS.size
          refine (hki.out g5 g5' _ OS.out OS'.out).mono ?_
          rintro e u7 ⟨v4, ys, rfl, hO0, hb⟩
          obtain ⟨a4, c4, rfl, hO⟩ := hO0.shapeN HNL.out
          have BXX := Lib.hid ((hb.block q (Array.getElem?_eq_some_iff.1 BXX.out).1).trans BXX.out)
          have RS := Lib.hid (hO.mono hsz7)
          clear hO hO0
          refine hK.out _ _ (below_call hS hS.size hb) (fun hS => ?_)
          clear hb hK
          refine takeS (i := 5) (v := .tuple #[.agg #[.slice a4 N c4], .int .i64 C]) rfl rfl (by kernel_rfl) (by kernel_rfl) (by kernel_rfl) (fun _ _ _ h => h) (Or.inl ⟨by rfl, fun U hU => by go_simp⟩) hS ?_
          try simp only [List.setIfInBounds_toArray, List.set_cons_zero, List.set_cons_succ]
          refine takeS (i := 6) (v := .agg #[.slice a4 N c4]) rfl rfl (by kernel_rfl) (by kernel_rfl) (by kernel_rfl) (fun _ _ _ h => h) (Or.inl ⟨by rfl, fun U hU => by go_simp⟩) hS ?_
          try simp only [List.setIfInBounds_toArray, List.set_cons_zero, List.set_cons_succ]
          refine takeS (i := 7) (v := .int .i64 C) rfl rfl (by kernel_rfl) (by kernel_rfl) (by kernel_rfl) (fun _ _ _ h => h) (Or.inl ⟨by rfl, fun U hU => by go_simp⟩) hS ?_
          try simp only [List.setIfInBounds_toArray, List.set_cons_zero, List.set_cons_succ]
          refine wpAnyH_ready (rs := [9]) (by kernel_rfl) (by simp) ?_
          refine AllReadyH.cons rfl (fun KQ hK => ?_) AllReadyH.nil
          rw [if_pos (by rfl)]
          have q0 := cell_of_row _ q 0 _ _ _ BXX.out
          have f0 := frozen_of_row _ q 0 _ _ BXX.out
          go_simp
          have BY := Lib.hid (st_box (a := .slice a4 N c4) BXX.out)
          have RY := Lib.hid (RS.out.setBox BXX.out (.slice a4 N c4))
          have hSY := hS.setCell (p := ⟨q, 0, none⟩) BQ.out (.slice a4 N c4)
          refine hK.out _ _ hSY (fun hS => ?_)
          clear hK q0 f0
          refine takeS (i := 10) (v := .int .i64 C) rfl rfl (by kernel_rfl) (by kernel_rfl) (by kernel_rfl) (fun _ _ _ h => h) (Or.inl ⟨by rfl, fun U hU => by go_simp⟩) hS ?_
          try simp only [List.setIfInBounds_toArray, List.set_cons_zero, List.set_cons_succ]
          refine wpAnyH_done (by kernel_rfl) ?_ _
          go_wp2_with fail
          go_meet
          exact ⟨_, rfl, q, a4, c4, rfl, rfl, BQ.out, BY.out, ⟨_, RY.out⟩, hS⟩
      · rw [if_pos (by rfl)]
        go_simp
        have LA := (Below.refl (u5).heap.size (u5)).alloc (Nat.le_refl _) (.cells #[.slice none 0 0] 29)
        have BXX := Lib.hid (heap_alloc_last (u5) (.cells #[.slice none 0 0] 29))
        have BQ := Lib.hid (show w17.heap.size ≤ (u5).heap.size from hS.size)
        have OS := Lib.hid (OS.out.below LA)
        refine hK.out _ _ (hS.alloc hS.size _) (fun hS => ?_)
        clear hK LA
        obtain ⟨wA, hwA⟩ : ∃ wA, (u5).alloc (.cells #[.slice none 0 0] 29) = wA := ⟨_, rfl⟩
        obtain ⟨q, hq⟩ : ∃ q, (u5).heap.size = q := ⟨_, rfl⟩
        rw [hwA] at BXX hS OS ⊢
        rw [hq] at BXX ⊢
        replace BQ : Hid (w17.heap.size ≤ q) := Lib.hid (by rw [← hq]; exact BQ.out)
        clear hwA hq
        refine wpAnyH_ready (rs := [3]) (by kernel_rfl) (by simp) ?_
        refine AllReadyH.cons rfl (fun KQ hK => ?_) AllReadyH.nil
        rw [if_pos (by rfl)]
        go_simp
        refine (toSt a' n' ca' bs' (by omega) _ (HIA'.out.below ((B17.out).trans (hS.mono B17.out.size))) HNA'.out).mono ?_
        rintro e v5 ⟨g5', rfl, ho, hb⟩
        have OS := Lib.hid (OS.out.below hb)
        have BXX := Lib.hid ((hb.block q (Array.getElem?_eq_some_iff.1 BXX.out).1).trans BXX.out)
        have OS' := Lib.hid ho
        clear ho
        refine hK.out _ _ (below_call hS hS.size hb) (fun hS => ?_)
        clear hb hK
        refine wpAnyH_ready (rs := [4]) (by kernel_rfl) (by simp) ?_
        refine AllReadyH.cons rfl (fun KQ hK => ?_) AllReadyH.nil
        rw [if_pos (by rfl)]
        go_simp
        have hsz7 := hS.size
        refine (hki.out g5 g5' _ OS.out OS'.out).mono ?_
        rintro e u7 ⟨v4, ys, rfl, hO0, hb⟩
        obtain ⟨a4, c4, rfl, hO⟩ := hO0.shapeN HNL.out
        have BXX := Lib.hid ((hb.block q (Array.getElem?_eq_some_iff.1 BXX.out).1).trans BXX.out)
        have RS := Lib.hid (hO.mono hsz7)
        clear hO hO0
        refine hK.out _ _ (below_call hS hS.size hb) (fun hS => ?_)
        clear hb hK
        refine takeS (i := 5) (v := .tuple #[.agg #[.slice a4 N c4], .int .i64 C]) rfl rfl (by kernel_rfl) (by kernel_rfl) (by kernel_rfl) (fun _ _ _ h => h) (Or.inl ⟨by rfl, fun U hU => by go_simp⟩) hS ?_
        try simp only [List.setIfInBounds_toArray, List.set_cons_zero, List.set_cons_succ]
        refine takeS (i := 6) (v := .agg #[.slice a4 N c4]) rfl rfl (by kernel_rfl) (by kernel_rfl) (by kernel_rfl) (fun _ _ _ h => h) (Or.inl ⟨by rfl, fun U hU => by go_simp⟩) hS ?_
        try simp only [List.setIfInBounds_toArray, List.set_cons_zero, List.set_cons_succ]
        refine takeS (i := 7) (v := .int .i64 C) rfl rfl (by kernel_rfl) (by kernel_rfl) (by kernel_rfl) (fun _ _ _ h => h) (Or.inl ⟨by rfl, fun U hU => by go_simp⟩) hS ?_
        try simp only [List.setIfInBounds_toArray, List.set_cons_zero, List.set_cons_succ]
        refine wpAnyH_ready (rs := [9]) (by kernel_rfl) (by simp) ?_
        refine AllReadyH.cons rfl (fun KQ hK => ?_) AllReadyH.nil
        rw [if_pos (by rfl)]
        have q0 := cell_of_row _ q 0 _ _ _ BXX.out
        have f0 := frozen_of_row _ q 0 _ _ BXX.out
        go_simp
        have BY := Lib.hid (st_box (a := .slice a4 N c4) BXX.out)
        have RY := Lib.hid (RS.out.setBox BXX.out (.slice a4 N c4))
        have hSY := hS.setCell (p := ⟨q, 0, none⟩) BQ.out (.slice a4 N c4)
        refine hK.out _ _ hSY (fun hS => ?_)
        clear hK q0 f0
        refine takeS (i := 10) (v := .int .i64 C) rfl rfl (by kernel_rfl) (by kernel_rfl) (by kernel_rfl) (fun _ _ _ h => h) (Or.inl ⟨by rfl, fun U hU => by go_simp⟩) hS ?_
        try simp only [List.setIfInBounds_toArray, List.set_cons_zero, List.set_cons_succ]
        refine wpAnyH_done (by kernel_rfl) ?_ _
        go_wp2_with fail
        go_meet
        exact ⟨_, rfl, q, a4, c4, rfl, rfl, BQ.out, BY.out, ⟨_, RY.out⟩, hS⟩
    · rw [if_pos (by rfl)]
      go_simp
      have LA := (Below.refl (w17).heap.size (w17)).alloc (Nat.le_refl _) (.cells #[.slice none 0 0] 29)
      have BXX := Lib.hid (heap_alloc_last (w17) (.cells #[.slice none 0 0] 29))
      have BQ := Lib.hid (show w17.heap.size ≤ (w17).heap.size from hS.size)
      refine hK.out _ _ (hS.alloc hS.size _) (fun hS => ?_)
      clear hK LA
      obtain ⟨wA, hwA⟩ : ∃ wA, (w17).alloc (.cells #[.slice none 0 0] 29) = wA := ⟨_, rfl⟩
      obtain ⟨q, hq⟩ : ∃ q, (w17).heap.size = q := ⟨_, rfl⟩
      rw [hwA] at BXX hS  ⊢
      clear hwA hq
      refine wpAnyH_ready (rs := [1]) (by kernel_rfl) (by simp) ?_
      refine AllReadyH.cons rfl (fun KQ hK => ?_) AllReadyH.nil
      rw [if_pos (by rfl)]
      go_simp
      refine (toSt a n ca bs (by omega) _ (HIA.out.below ((B17.out).trans (hS.mono B17.out.size))) HNA.out).mono ?_
      rintro e u5 ⟨g5, rfl, ho, hb⟩
      have BXX := Lib.hid ((hb.block (w17.heap.size) (Array.getElem?_eq_some_iff.1 BXX.out).1).trans BXX.out)
      have OS := Lib.hid ho
      clear ho
      refine hK.out _ _ (below_call hS hS.size hb) (fun hS => ?_)
      clear hb hK
      refine wpAnyH_ready (rs := [3]) (by kernel_rfl) (by simp) ?_
      refine AllReadyH.cons rfl (fun KQ hK => ?_) AllReadyH.nil
      rw [if_pos (by rfl)]
      go_simp
      refine (toSt a' n' ca' bs' (by omega) _ (HIA'.out.below ((B17.out).trans (hS.mono B17.out.size))) HNA'.out).mono ?_
      rintro e v5 ⟨g5', rfl, ho, hb⟩
      have OS := Lib.hid (OS.out.below hb)
      have BXX := Lib.hid ((hb.block (w17.heap.size) (Array.getElem?_eq_some_iff.1 BXX.out).1).trans BXX.out)
      have OS' := Lib.hid ho
      clear ho
      refine hK.out _ _ (below_call hS hS.size hb) (fun hS => ?_)
      clear hb hK
      refine wpAnyH_ready (rs := [4]) (by kernel_rfl) (by simp) ?_
      refine AllReadyH.cons rfl (fun KQ hK => ?_) AllReadyH.nil
      rw [if_pos (by rfl)]
      go_simp
      have hsz7 := hS.size
      refine (hki.out g5 g5' _ OS.out OS'.out).mono ?_
      rintro e u7 ⟨v4, ys, rfl, hO0, hb⟩
      obtain ⟨a4, c4, rfl, hO⟩ := hO0.shapeN HNL.out
      have BXX := Lib.hid ((hb.block (w17.heap.size) (Array.getElem?_eq_some_iff.1 BXX.out).1).trans BXX.out)
      have RS := Lib.hid (hO.mono hsz7)
      clear hO hO0
      refine hK.out _ _ (below_call hS hS.size hb) (fun hS => ?_)
      clear hb hK
      refine takeS (i := 5) (v := .tuple #[.agg #[.slice a4 N c4], .int .i64 C]) rfl rfl (by kernel_rfl) (by kernel_rfl) (by kernel_rfl) (fun _ _ _ h => h) (Or.inl ⟨by rfl, fun U hU => by go_simp⟩) hS ?_
      try simp only [List.setIfInBounds_toArray, List.set_cons_zero, List.set_cons_succ]
      refine takeS (i := 6) (v := .agg #[.slice a4 N c4]) rfl rfl (by kernel_rfl) (by kernel_rfl) (by kernel_rfl) (fun _ _ _ h => h) (Or.inl ⟨by rfl, fun U hU => by go_simp⟩) hS ?_
      try simp only [List.setIfInBounds_toArray, List.set_cons_zero, List.set_cons_succ]
      refine takeS (i := 7) (v := .int .i64 C) rfl rfl (by kernel_rfl) (by kernel_rfl) (by kernel_rfl) (fun _ _ _ h => h) (Or.inl ⟨by rfl, fun U hU => by go_simp⟩) hS ?_
      try simp only [List.setIfInBounds_toArray, List.set_cons_zero, List.set_cons_succ]
      refine wpAnyH_ready (rs := [9]) (by kernel_rfl) (by simp) ?_
      refine AllReadyH.cons rfl (fun KQ hK => ?_) AllReadyH.nil
      rw [if_pos (by rfl)]
      have q0 := cell_of_row _ (w17.heap.size) 0 _ _ _ BXX.out
      have f0 := frozen_of_row _ (w17.heap.size) 0 _ _ BXX.out
      go_simp
      have BY := Lib.hid (st_box (a := .slice a4 N c4) BXX.out)
      have RY := Lib.hid (RS.out.setBox BXX.out (.slice a4 N c4))
      have hSY := hS.setCell (p := ⟨(w17.heap.size), 0, none⟩) BQ.out (.slice a4 N c4)
      refine hK.out _ _ hSY (fun hS => ?_)
      clear hK q0 f0
      refine takeS (i := 10) (v := .int .i64 C) rfl rfl (by kernel_rfl) (by kernel_rfl) (by kernel_rfl) (fun _ _ _ h => h) (Or.inl ⟨by rfl, fun U hU => by go_simp⟩) hS ?_
      try simp only [List.setIfInBounds_toArray, List.set_cons_zero, List.set_cons_succ]
      refine wpAnyH_done (by kernel_rfl) ?_ _
      go_wp2_with fail
      go_meet
      exact ⟨_, rfl, (w17.heap.size), a4, c4, rfl, rfl, BQ.out, BY.out, ⟨_, RY.out⟩, hS⟩
  obtain ⟨w18, rfl, q14, a14, c14, rfl, rfl, hq14, hBX, ⟨zs, hRd⟩, hb⟩ := hcut
  have R18 := Lib.hid (hRd.rdN HNL.out HLl.out)
  have T18 := Lib.hid (keep_block T17.out hb)
  have V18 := Lib.hid (V17.out.below hb)
  have B18 := Lib.hid (below_call B17.out B17.out.size hb)
  have C18 := Lib.hid (below_call C17.out C17.out.size hb)
  have S18 := Lib.hid (keep_block S17.out hb)
  clear hb T17 V17 B17 C17 S17
  have q0 := cell_of_row _ q14 0 _ _ _ hBX
  have p0 := cell_of_row _ q6 0 _ _ _ S18.out
  clear hBX hRd
  go_upto_region 32 with fail
  go_wp2_with fail
  clear q0 p0
  refine (eqStR a14 a4 c14 c4 N LL HNL.out HNb.out HLn.out _ R18.out (R3.out.below C18.out)).mono ?_
  rintro e w19 ⟨rfl, hb⟩
  have T19 := Lib.hid (keep_block T18.out hb)
  have V19 := Lib.hid (V18.out.below hb)
  have B19 := Lib.hid (below_call B18.out B18.out.size hb)
  clear hb T18 V18 B18
  have q0 := cell_of_row _ q9 0 _ _ _ T19.out
  clear C18 S18
  go_upto_region 35 with fail
  go_wp2_with fail
  clear q0
  refine (hhd.out _ V19.out).mono ?_
  rintro e w20 ⟨rfl, hb⟩
  have B20 := Lib.hid (below_call B19.out B19.out.size hb)
  go_wp2_with fail
  go_ret
  exact ⟨rfl, B20.out⟩
end Go.Proofs.Ytdoelmjaongjfaa
