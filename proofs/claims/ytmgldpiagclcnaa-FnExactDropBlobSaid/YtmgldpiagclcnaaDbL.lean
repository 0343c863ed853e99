/- The statement on ExactDropBlob: its walk. Written by wip/gen/storelaw.py. -/
import Derived.Test.YtmgldpiagclcnaaQaC

import Derived.Test.YtmgldpiagclcnaaStoN
import Derived.Test.YtmgldpiagclcnaaStoreL
import Derived.Test.YtmgldpiagclcnaaKeysM
namespace Go.Proofs.Ytmgldpiagclcnaa
open Go.ChangeShapes Go.WideShapes Go.ChangeAt Go.RowKit
set_option linter.unusedVariables false
set_option linter.unusedSimpArgs false
theorem IsBls.fineG {w : World} {a : Option Addr} {n : Nat} {bs : List BlV} (h : IsBls w a n bs) (hs : szS bs ≤ 1048576) : ∀ (i : Nat) (x : BlV), bs[i]? = some x → BlG x := by
  intro i x hx
  refine ⟨h.fine hs i x hx, ?_⟩
  obtain ⟨h1, h2, h3⟩ := h
  rcases h3 with h3 | ⟨b, off, e, hlt, hc⟩
  · have := (List.getElem?_eq_some_iff.1 hx).1
    omega
  · obtain ⟨_, hk, _⟩ := hc i x hx
    exact hk
theorem keep_row_baseB {w w1 : World} {B g : Nat} {o : Obj} (hg : w.heap[g]? = some o) (hB : g < B) (hb : Below B w w1) : w1.heap[g]? = some o := (hb.block g hB).trans hg
theorem sizeKeyL : (Try.prog.info? 40).map (·.size) = some 32 := by kernel_rfl
set_option maxRecDepth 100000 in
set_option maxHeartbeats 8000000 in
theorem FnExactDropBlob_walk (a : Option Addr) (n ca : Nat) (bs : List BlV) (key : List Int) (w : World) (hA : IsBls w a n bs) (hkl : key.length = 32) (hkf : ∀ z ∈ key, 0 ≤ z ∧ z ≤ 255) :
    Calls Try.prog 8 #[.agg #[.slice a n ca], .agg (ints .u8 key)] w fun e w' => e = .returned (.bool true) ∧ Below w.heap.size w w' := by
  have A0 := heap_alloc2_old w (.cells #[.slice a n ca] 24) (.cells (ints .u8 key) 40)
  have A1 := heap_alloc2_new w (.cells #[.slice a n ca] 24) (.cells (ints .u8 key) 40)
  have B0' := ((Below.refl w.heap.size w).alloc (Nat.le_refl _) (.cells #[.slice a n ca] 24)).alloc (by simp) (.cells (ints .u8 key) 40)
  obtain ⟨w0, hw0⟩ : ∃ w0, (w.alloc (.cells #[.slice a n ca] 24)).alloc (.cells (ints .u8 key) 40) = w0 := ⟨_, rfl⟩
  rw [hw0] at A0 A1 B0'
  have E0 := Lib.hid A0
  have F0 := Lib.hid A1
  have B0 := Lib.hid B0'
  have HIA := Lib.hid hA
  have HLA := Lib.hid hA.2.1
  have HKL := Lib.hid hkl
  have HKK : Hid (IsK key) := Lib.hid ⟨hkl, hkf⟩
  clear hA A0 A1 B0' hkl hkf
  go_enter Try.func8, Try.ntmps8
  have q0 := cell_of_row _ w.heap.size 0 _ _ _ E0.out
  go_wp2_with fail
  clear q0
  refine (szSt a n ca bs 1048576 (by omega) (by omega) _ (HIA.out.below B0.out)).mono ?_
  rintro e w1 ⟨⟨r, rfl, hr⟩, hb⟩
  have B1 := Lib.hid (below_call B0.out B0.out.size hb)
  have E1 := Lib.hid (keep_block E0.out hb)
  have F1 := Lib.hid (keep_block F0.out hb)
  clear hb hw0
  rcases hr with rfl | ⟨r0, hr⟩
  · go_wp2_with fail
    go_ret
    exact ⟨rfl, B1.out⟩
  have r1 : ¬ r < 0 := by omega
  have hn : n ≤ 1048576 := by omega
  have HGA := Lib.hid (HIA.out.fineG (by omega))
  have HFA := Lib.hid (fun (i : Nat) (x : BlV) (h : bs[i]? = some x) => (HGA.out i x h).1)
  have HNA := Lib.hid (fun (i : Nat) (x : BlV) (h : bs[i]? = some x) => (HFA.out i x h).1)
  have HSZ := Lib.hid (show (n : Int) + szS bs ≤ 1048576 by omega)
  clear hr r0
  have hks := Lib.hid (fun (g' : Nat) (W : World) (h : OutB W g' n n bs) => db_spec g' n bs key HKK.out hn HLA.out HGA.out W h)
  have hki := Lib.hid (fun (g' : Nat) (W : World) (h : OutB W g' n n bs) => db_impl g' n bs key HKK.out hn HLA.out HGA.out W h)
  unfold GrR at hks
  unfold OwR at hki
  have hLf := dbL_fine (key := key) HGA.out
  have hLn := (dbL_sub bs key).length_le
  have hLs := szS_sub (dbL_sub bs key)
  generalize dbL bs key = LL at hks hki hLf hLn hLs
  generalize dbC bs key = C at hks hki
  obtain ⟨N, hN⟩ : ∃ N, LL.length = N := ⟨_, rfl⟩
  rw [hN] at hLn
  have HNL := Lib.hid hN
  have HNb := Lib.hid (show N ≤ 1048576 by have := HLA.out; omega)
  have HNz := Lib.hid (show (1 : Int) + N + szS LL ≤ 1099511627776 by have := HSZ.out; have := HLA.out; omega)
  have HLf := Lib.hid hLf
  have HLn := Lib.hid (fun (i : Nat) (x : BlV) (h : LL[i]? = some x) => (hLf i x h).2)
  have HLl := Lib.hid (fun (i : Nat) (x : BlV) (h : LL[i]? = some x) => (hLf i x h).1)
  clear hN hLf hLn hLs
  go_upto_region 5 with fail
  go_cut [6, 7] (fun s6 s7 wx => ∃ u8, u8 = wx ∧ ∃ (q : Nat) (a4 : Option Addr) (c4 : Nat), s6 = .pointer (some ⟨q, 0, none⟩) ∧ s7 = .int .i64 C ∧ w1.heap.size ≤ q ∧ wx.heap[q]? = some (.cells #[.slice a4 N c4] 29) ∧ BlRd wx a4 LL ∧ Below w1.heap.size w1 wx)
  case first =>
    refine wp_region_held_drew (S := Below w1.heap.size w1) (by kernel_rfl) ((Below.refl _ _).drew) (fun hS => ?_)
    refine takeS (i := 0) (v := .agg #[.slice a n ca]) rfl rfl (by kernel_rfl) (by kernel_rfl) (by kernel_rfl) (fun _ _ _ h => h) (Or.inl ⟨by rfl, fun U hU => by have q0 := cell_of_row _ w.heap.size 0 _ _ _ (keep_block E1.out hU); go_simp⟩) hS ?_
    try simp only [List.setIfInBounds_toArray, List.set_cons_zero, List.set_cons_succ]
    refine takeS (i := 2) (v := .agg (ints .u8 key)) rfl rfl (by kernel_rfl) (by kernel_rfl) (by kernel_rfl) (fun _ _ _ h => h) (yields_rowS (by rfl) 40 _ rfl (w.heap.size + 1) rfl (ints .u8 key) 40 _ (fun U hU => keep_block F1.out hU) Try.underlying40 rfl (by rw [ints_size, HKL.out]; exact sizeKeyL)) hS ?_
    try simp only [List.setIfInBounds_toArray, List.set_cons_zero, List.set_cons_succ]
    refine wpAnyH_ready (rs := [1, 8]) (by kernel_rfl) (by simp) ?_
    refine AllReadyH.cons rfl (fun KQ hK => ?_) (AllReadyH.cons rfl (fun KQ hK => ?_) AllReadyH.nil)
    · rw [if_pos (by rfl)]
      go_simp
      refine (toSt a n ca bs (by omega) _ (HIA.out.below ((B1.out).trans (hS.mono B1.out.size))) HNA.out).mono ?_
      rintro e u5 ⟨g5, rfl, ho, hb⟩
      have OS := Lib.hid ho
      clear ho
      refine hK.out _ _ (below_call hS hS.size hb) (fun hS => ?_)
      clear hb hK
      refine wpAnyH_ready (rs := [3, 8]) (by kernel_rfl) (by simp) ?_
      refine AllReadyH.cons rfl (fun KQ hK => ?_) (AllReadyH.cons rfl (fun KQ hK => ?_) AllReadyH.nil)
      · rw [if_pos (by rfl)]
        go_simp
        refine (toKey_ key HKL.out _).mono ?_
        rintro e u6 ⟨rfl, hb⟩
        have OS := Lib.hid (OS.out.below hb)
        refine hK.out _ _ (below_call hS hS.size hb) (fun hS => ?_)
        clear hb hK
        refine wpAnyH_ready (rs := [4, 8]) (by kernel_rfl) (by simp) ?_
        refine AllReadyH.cons rfl (fun KQ hK => ?_) (AllReadyH.cons rfl (fun KQ hK => ?_) AllReadyH.nil)
        · rw [if_pos (by rfl)]
          go_simp
          refine (hks.out g5 _ OS.out).mono ?_
          rintro e u7 ⟨v4, us, rfl, hO0, hb⟩
          obtain ⟨a4, c4, rfl, hO⟩ := hO0.shape HNL.out
          have RS := Lib.hid hO
          clear hO hO0
          refine hK.out _ _ (below_call hS hS.size hb) (fun hS => ?_)
          clear hb hK
          refine takeS (i := 5) (v := .tuple #[.agg #[.slice a4 N c4], .int .i64 C]) rfl rfl (by kernel_rfl) (by kernel_rfl) (by kernel_rfl) (fun _ _ _ h => h) (Or.inl ⟨by rfl, fun U hU => by go_simp⟩) hS ?_
          try simp only [List.setIfInBounds_toArray, List.set_cons_zero, List.set_cons_succ]
          refine takeS (i := 6) (v := .agg #[.slice a4 N c4]) rfl rfl (by kernel_rfl) (by kernel_rfl) (by kernel_rfl) (fun _ _ _ h => h) (Or.inl ⟨by rfl, fun U hU => by go_simp⟩) hS ?_
          try simp only [List.setIfInBounds_toArray, List.set_cons_zero, List.set_cons_succ]
          refine takeS (i := 7) (v := .int .i64 C) rfl rfl (by kernel_rfl) (by kernel_rfl) (by kernel_rfl) (fun _ _ _ h => h) (Or.inl ⟨by rfl, fun U hU => by go_simp⟩) hS ?_
          try simp only [List.setIfInBounds_toArray, List.set_cons_zero, List.set_cons_succ]
          refine wpAnyH_ready (rs := [8]) (by kernel_rfl) (by simp) ?_
          refine AllReadyH.cons rfl (fun KQ hK => ?_) AllReadyH.nil
          rw [if_pos (by rfl)]
          go_simp
          have LA := (Below.refl (u7).heap.size (u7)).alloc (Nat.le_refl _) (.cells #[.slice none 0 0] 29)
          have BXX := Lib.hid (heap_alloc_last (u7) (.cells #[.slice none 0 0] 29))
          have BQ := Lib.hid (show w1.heap.size ≤ (u7).heap.size from hS.size)
          have RS := Lib.hid (RS.out.below LA)
          refine hK.out _ _ (hS.alloc hS.size _) (fun hS => ?_)
          clear hK LA
          obtain ⟨wA, hwA⟩ : ∃ wA, (u7).alloc (.cells #[.slice none 0 0] 29) = wA := ⟨_, rfl⟩
          obtain ⟨q, hq⟩ : ∃ q, (u7).heap.size = q := ⟨_, rfl⟩
          rw [hwA] at BXX hS RS ⊢
          rw [hq] at BXX ⊢
          replace BQ : Hid (w1.heap.size ≤ q) := Lib.hid (by rw [← hq]; exact BQ.out)
          clear hwA hq
          refine wpAnyH_ready (rs := [9]) (by kernel_rfl) (by simp) ?_
          refine AllReadyH.cons rfl (fun KQ hK => ?_) AllReadyH.nil
          rw [if_pos (by rfl)]
          have q0 := cell_of_row _ q 0 _ _ _ BXX.out
          have f0 := frozen_of_row _ q 0 _ _ BXX.out
          go_simp
          have BY := Lib.hid (st_box (a := .slice a4 N c4) BXX.out)
          have RY := Lib.hid (RS.out.setBox BXX.out (.slice a4 N c4))
          have hSY := hS.setCell (p := ⟨q, 0, none⟩) BQ.out (.slice a4 N c4)
          refine hK.out _ _ hSY (fun hS => ?_)
          clear hK q0 f0
          refine takeS (i := 10) (v := .int .i64 C) rfl rfl (by kernel_rfl) (by kernel_rfl) (by kernel_rfl) (fun _ _ _ h => h) (Or.inl ⟨by rfl, fun U hU => by go_simp⟩) hS ?_
          try simp only [List.setIfInBounds_toArray, List.set_cons_zero, List.set_cons_succ]
          refine wpAnyH_done (by kernel_rfl) ?_ _
          go_wp2_with fail
          go_meet
          exact ⟨_, rfl, q, a4, c4, rfl, rfl, BQ.out, BY.out, RY.out.rdN, hS⟩
        · rw [if_pos (by rfl)]
          go_simp
          have LA := (Below.refl (u6).heap.size (u6)).alloc (Nat.le_refl _) (.cells #[.slice none 0 0] 29)
          have BXX := Lib.hid (heap_alloc_last (u6) (.cells #[.slice none 0 0] 29))
          have BQ := Lib.hid (show w1.heap.size ≤ (u6).heap.size from hS.size)
          have OS := Lib.hid (OS.out.below LA)
          refine hK.out _ _ (hS.alloc hS.size _) (fun hS => ?_)
          clear hK LA
          obtain ⟨wA, hwA⟩ : ∃ wA, (u6).alloc (.cells #[.slice none 0 0] 29) = wA := ⟨_, rfl⟩
          obtain ⟨q, hq⟩ : ∃ q, (u6).heap.size = q := ⟨_, rfl⟩
          rw [hwA] at BXX hS OS ⊢
          rw [hq] at BXX ⊢
          replace BQ : Hid (w1.heap.size ≤ q) := Lib.hid (by rw [← hq]; exact BQ.out)
          clear hwA hq
          refine wpAnyH_ready (rs := [4]) (by kernel_rfl) (by simp) ?_
          refine AllReadyH.cons rfl (fun KQ hK => ?_) AllReadyH.nil
          rw [if_pos (by rfl)]
          go_simp
          refine (hks.out g5 _ OS.out).mono ?_
          rintro e u7 ⟨v4, us, rfl, hO0, hb⟩
          obtain ⟨a4, c4, rfl, hO⟩ := hO0.shape HNL.out
          have BXX := Lib.hid ((hb.block q (Array.getElem?_eq_some_iff.1 BXX.out).1).trans BXX.out)
          have RS := Lib.hid hO
          clear hO hO0
          refine hK.out _ _ (below_call hS hS.size hb) (fun hS => ?_)
          clear hb hK
          refine takeS (i := 5) (v := .tuple #[.agg #[.slice a4 N c4], .int .i64 C]) rfl rfl (by kernel_rfl) (by kernel_rfl) (by kernel_rfl) (fun _ _ _ h => h) (Or.inl ⟨by rfl, fun U hU => by go_simp⟩) hS ?_
          try simp only [List.setIfInBounds_toArray, List.set_cons_zero, List.set_cons_succ]
          refine takeS (i := 6) (v := .agg #[.slice a4 N c4]) rfl rfl (by kernel_rfl) (by kernel_rfl) (by kernel_rfl) (fun _ _ _ h => h) (Or.inl ⟨by rfl, fun U hU => by go_simp⟩) hS ?_
          try simp only [List.setIfInBounds_toArray, List.set_cons_zero, List.set_cons_succ]
          refine takeS (i := 7) (v := .int .i64 C) rfl rfl (by kernel_rfl) (by kernel_rfl) (by kernel_rfl) (fun _ _ _ h => h) (Or.inl ⟨by rfl, fun U hU => by go_simp⟩) hS ?_
          try simp only [List.setIfInBounds_toArray, List.set_cons_zero, List.set_cons_succ]
          refine wpAnyH_ready (rs := [9]) (by kernel_rfl) (by simp) ?_
          refine AllReadyH.cons rfl (fun KQ hK => ?_) AllReadyH.nil
          rw [if_pos (by rfl)]
          have q0 := cell_of_row _ q 0 _ _ _ BXX.out
          have f0 := frozen_of_row _ q 0 _ _ BXX.out
          go_simp
          have BY := Lib.hid (st_box (a := .slice a4 N c4) BXX.out)
          have RY := Lib.hid (RS.out.setBox BXX.out (.slice a4 N c4))
          have hSY := hS.setCell (p := ⟨q, 0, none⟩) BQ.out (.slice a4 N c4)
          refine hK.out _ _ hSY (fun hS => ?_)
          clear hK q0 f0
          refine takeS (i := 10) (v := .int .i64 C) rfl rfl (by kernel_rfl) (by kernel_rfl) (by kernel_rfl) (fun _ _ _ h => h) (Or.inl ⟨by rfl, fun U hU => by go_simp⟩) hS ?_
          try simp only [List.setIfInBounds_toArray, List.set_cons_zero, List.set_cons_succ]
          refine wpAnyH_done (by kernel_rfl) ?_ _
          go_wp2_with fail
          go_meet
          exact ⟨_, rfl, q, a4, c4, rfl, rfl, BQ.out, BY.out, RY.out.rdN, hS⟩
      · rw [if_pos (by rfl)]
        go_simp
        have LA := (Below.refl (u5).heap.size (u5)).alloc (Nat.le_refl _) (.cells #[.slice none 0 0] 29)
        have BXX := Lib.hid (heap_alloc_last (u5) (.cells #[.slice none 0 0] 29))
        have BQ := Lib.hid (show w1.heap.size ≤ (u5).heap.size from hS.size)
        have OS := Lib.hid (OS.out.below LA)
        refine hK.out _ _ (hS.alloc hS.size _) (fun hS => ?_)
        clear hK LA
        obtain ⟨wA, hwA⟩ : ∃ wA, (u5).alloc (.cells #[.slice none 0 0] 29) = wA := ⟨_, rfl⟩
        obtain ⟨q, hq⟩ : ∃ q, (u5).heap.size = q := ⟨_, rfl⟩
        rw [hwA] at BXX hS OS ⊢
        rw [hq] at BXX ⊢
        replace BQ : Hid (w1.heap.size ≤ q) := Lib.hid (by rw [← hq]; exact BQ.out)
        clear hwA hq
        refine wpAnyH_ready (rs := [3]) (by kernel_rfl) (by simp) ?_
        refine AllReadyH.cons rfl (fun KQ hK => ?_) AllReadyH.nil
        rw [if_pos (by rfl)]
        go_simp
        refine (toKey_ key HKL.out _).mono ?_
        rintro e u6 ⟨rfl, hb⟩
        have OS := Lib.hid (OS.out.below hb)
        have BXX := Lib.hid ((hb.block q (Array.getElem?_eq_some_iff.1 BXX.out).1).trans BXX.out)
        refine hK.out _ _ (below_call hS hS.size hb) (fun hS => ?_)
        clear hb hK
        refine wpAnyH_ready (rs := [4]) (by kernel_rfl) (by simp) ?_
        refine AllReadyH.cons rfl (fun KQ hK => ?_) AllReadyH.nil
        rw [if_pos (by rfl)]
        go_simp
        refine (hks.out g5 _ OS.out).mono ?_
        rintro e u7 ⟨v4, us, rfl, hO0, hb⟩
        obtain ⟨a4, c4, rfl, hO⟩ := hO0.shape HNL.out
        have BXX := Lib.hid ((hb.block q (Array.getElem?_eq_some_iff.1 BXX.out).1).trans BXX.out)
        have RS := Lib.hid hO
        clear hO hO0
        refine hK.out _ _ (below_call hS hS.size hb) (fun hS => ?_)
        clear hb hK
        refine takeS (i := 5) (v := .tuple #[.agg #[.slice a4 N c4], .int .i64 C]) rfl rfl (by kernel_rfl) (by kernel_rfl) (by kernel_rfl) (fun _ _ _ h => h) (Or.inl ⟨by rfl, fun U hU => by go_simp⟩) hS ?_
        try simp only [List.setIfInBounds_toArray, List.set_cons_zero, List.set_cons_succ]
        refine takeS (i := 6) (v := .agg #[.slice a4 N c4]) rfl rfl (by kernel_rfl) (by kernel_rfl) (by kernel_rfl) (fun _ _ _ h => h) (Or.inl ⟨by rfl, fun U hU => by go_simp⟩) hS ?_
        try simp only [List.setIfInBounds_toArray, List.set_cons_zero, List.set_cons_succ]
        refine takeS (i := 7) (v := .int .i64 C) rfl rfl (by kernel_rfl) (by kernel_rfl) (by kernel_rfl) (fun _ _ _ h => h) (Or.inl ⟨by rfl, fun U hU => by go_simp⟩) hS ?_
        try simp only [List.setIfInBounds_toArray, List.set_cons_zero, List.set_cons_succ]
        refine wpAnyH_ready (rs := [9]) (by kernel_rfl) (by simp) ?_
        refine AllReadyH.cons rfl (fun KQ hK => ?_) AllReadyH.nil
        rw [if_pos (by rfl)]
        have q0 := cell_of_row _ q 0 _ _ _ BXX.out
        have f0 := frozen_of_row _ q 0 _ _ BXX.out
        go_simp
        have BY := Lib.hid (st_box (a := .slice a4 N c4) BXX.out)
        have RY := Lib.hid (RS.out.setBox BXX.out (.slice a4 N c4))
        have hSY := hS.setCell (p := ⟨q, 0, none⟩) BQ.out (.slice a4 N c4)
        refine hK.out _ _ hSY (fun hS => ?_)
        clear hK q0 f0
        refine takeS (i := 10) (v := .int .i64 C) rfl rfl (by kernel_rfl) (by kernel_rfl) (by kernel_rfl) (fun _ _ _ h => h) (Or.inl ⟨by rfl, fun U hU => by go_simp⟩) hS ?_
        try simp only [List.setIfInBounds_toArray, List.set_cons_zero, List.set_cons_succ]
        refine wpAnyH_done (by kernel_rfl) ?_ _
        go_wp2_with fail
        go_meet
        exact ⟨_, rfl, q, a4, c4, rfl, rfl, BQ.out, BY.out, RY.out.rdN, hS⟩
    · rw [if_pos (by rfl)]
      go_simp
      have LA := (Below.refl (w1).heap.size (w1)).alloc (Nat.le_refl _) (.cells #[.slice none 0 0] 29)
      have BXX := Lib.hid (heap_alloc_last (w1) (.cells #[.slice none 0 0] 29))
      have BQ := Lib.hid (show w1.heap.size ≤ (w1).heap.size from hS.size)
      refine hK.out _ _ (hS.alloc hS.size _) (fun hS => ?_)
      clear hK LA
      obtain ⟨wA, hwA⟩ : ∃ wA, (w1).alloc (.cells #[.slice none 0 0] 29) = wA := ⟨_, rfl⟩
      obtain ⟨q, hq⟩ : ∃ q, (w1).heap.size = q := ⟨_, rfl⟩
      rw [hwA] at BXX hS  ⊢
      clear hwA hq
      refine wpAnyH_ready (rs := [1]) (by kernel_rfl) (by simp) ?_
      refine AllReadyH.cons rfl (fun KQ hK => ?_) AllReadyH.nil
      rw [if_pos (by rfl)]
      go_simp
      refine (toSt a n ca bs (by omega) _ (HIA.out.below ((B1.out).trans (hS.mono B1.out.size))) HNA.out).mono ?_
      rintro e u5 ⟨g5, rfl, ho, hb⟩
      have BXX := Lib.hid ((hb.block (w1.heap.size) (Array.getElem?_eq_some_iff.1 BXX.out).1).trans BXX.out)
      have OS := Lib.hid ho
      clear ho
      refine hK.out _ _ (below_call hS hS.size hb) (fun hS => ?_)
      clear hb hK
      refine wpAnyH_ready (rs := [3]) (by kernel_rfl) (by simp) ?_
      refine AllReadyH.cons rfl (fun KQ hK => ?_) AllReadyH.nil
      rw [if_pos (by rfl)]
      go_simp
      refine (toKey_ key HKL.out _).mono ?_
      rintro e u6 ⟨rfl, hb⟩
      have OS := Lib.hid (OS.out.below hb)
      have BXX := Lib.hid ((hb.block (w1.heap.size) (Array.getElem?_eq_some_iff.1 BXX.out).1).trans BXX.out)
      refine hK.out _ _ (below_call hS hS.size hb) (fun hS => ?_)
      clear hb hK
      refine wpAnyH_ready (rs := [4]) (by kernel_rfl) (by simp) ?_
      refine AllReadyH.cons rfl (fun KQ hK => ?_) AllReadyH.nil
      rw [if_pos (by rfl)]
      go_simp
      refine (hks.out g5 _ OS.out).mono ?_
      rintro e u7 ⟨v4, us, rfl, hO0, hb⟩
      obtain ⟨a4, c4, rfl, hO⟩ := hO0.shape HNL.out
      have BXX := Lib.hid ((hb.block (w1.heap.size) (Array.getElem?_eq_some_iff.1 BXX.out).1).trans BXX.out)
      have RS := Lib.hid hO
      clear hO hO0
      refine hK.out _ _ (below_call hS hS.size hb) (fun hS => ?_)
      clear hb hK
      refine takeS (i := 5) (v := .tuple #[.agg #[.slice a4 N c4], .int .i64 C]) rfl rfl (by kernel_rfl) (by kernel_rfl) (by kernel_rfl) (fun _ _ _ h => h) (Or.inl ⟨by rfl, fun U hU => by go_simp⟩) hS ?_
      try simp only [List.setIfInBounds_toArray, List.set_cons_zero, List.set_cons_succ]
      refine takeS (i := 6) (v := .agg #[.slice a4 N c4]) rfl rfl (by kernel_rfl) (by kernel_rfl) (by kernel_rfl) (fun _ _ _ h => h) (Or.inl ⟨by rfl, fun U hU => by go_simp⟩) hS ?_
      try simp only [List.setIfInBounds_toArray, List.set_cons_zero, List.set_cons_succ]
      refine takeS (i := 7) (v := .int .i64 C) rfl rfl (by kernel_rfl) (by kernel_rfl) (by kernel_rfl) (fun _ _ _ h => h) (Or.inl ⟨by rfl, fun U hU => by go_simp⟩) hS ?_
      try simp only [List.setIfInBounds_toArray, List.set_cons_zero, List.set_cons_succ]
      refine wpAnyH_ready (rs := [9]) (by kernel_rfl) (by simp) ?_
      refine AllReadyH.cons rfl (fun KQ hK => ?_) AllReadyH.nil
      rw [if_pos (by rfl)]
      have q0 := cell_of_row _ (w1.heap.size) 0 _ _ _ BXX.out
      have f0 := frozen_of_row _ (w1.heap.size) 0 _ _ BXX.out
      go_simp
      have BY := Lib.hid (st_box (a := .slice a4 N c4) BXX.out)
      have RY := Lib.hid (RS.out.setBox BXX.out (.slice a4 N c4))
      have hSY := hS.setCell (p := ⟨(w1.heap.size), 0, none⟩) BQ.out (.slice a4 N c4)
      refine hK.out _ _ hSY (fun hS => ?_)
      clear hK q0 f0
      refine takeS (i := 10) (v := .int .i64 C) rfl rfl (by kernel_rfl) (by kernel_rfl) (by kernel_rfl) (fun _ _ _ h => h) (Or.inl ⟨by rfl, fun U hU => by go_simp⟩) hS ?_
      try simp only [List.setIfInBounds_toArray, List.set_cons_zero, List.set_cons_succ]
      refine wpAnyH_done (by kernel_rfl) ?_ _
      go_wp2_with fail
      go_meet
      exact ⟨_, rfl, (w1.heap.size), a4, c4, rfl, rfl, BQ.out, BY.out, RY.out.rdN, hS⟩
  obtain ⟨w3, rfl, q6, a4, c4, rfl, rfl, hq6, hBX, hRd, hb⟩ := hcut
  have B3 := Lib.hid (below_call B1.out B1.out.size hb)
  have E3 := Lib.hid (keep_block E1.out hb)
  have F3 := Lib.hid (keep_block F1.out hb)
  have S3 := Lib.hid hBX
  have R3 := Lib.hid hRd
  clear hb hBX hRd B1 E1 F1
  have q0 := cell_of_row _ w.heap.size 0 _ _ _ E3.out
  go_wp2_with fail
  clear q0
  refine (toStN a n ca bs (by omega) _ (HIA.out.below B3.out) HNA.out).mono ?_
  rintro e w4 ⟨g4, hg4, rfl, ho, hb⟩
  have O4 := Lib.hid ho
  have C4 := Lib.hid hb
  have M4 := Lib.hid (ho.marked hg4 HFA.out)
  have B4 := Lib.hid (below_call B3.out B3.out.size hb)
  clear ho hb
  go_upto_region 7 with fail
  have LI := (Below.refl w4.heap.size w4).alloc (Nat.le_refl _) (.cells #[.slice (some ⟨g4, 0, none⟩) n n] 29)
  have B5 := Lib.hid (below_call B4.out B4.out.size LI)
  have C5 := Lib.hid (below_call C4.out C4.out.size LI)
  have O5 := Lib.hid (O4.out.out.below LI)
  have M5 := Lib.hid (M4.out.below LI)
  have X5 := Lib.hid (heap_alloc_last w4 (.cells #[.slice (some ⟨g4, 0, none⟩) n n] 29))
  have Z5 := Lib.hid (show w4.heap.size < (w4.alloc (.cells #[.slice (some ⟨g4, 0, none⟩) n n] 29)).heap.size by simp)
  clear LI
  generalize w4.alloc (.cells #[.slice (some ⟨g4, 0, none⟩) n n] 29) = w5 at B5 C5 O5 M5 X5 Z5 ⊢
  generalize w4.heap.size = x0 at M5 X5 Z5 ⊢
  have E5 := Lib.hid (keep_block E3.out C5.out)
  have F5 := Lib.hid (keep_block F3.out C5.out)
  have S5 := Lib.hid (keep_block S3.out C5.out)
  have R5 := Lib.hid (R3.out.below C5.out)
  clear B4 C4 O4 M4
  go_cut [9, 10] (fun s6 s7 wx => ∃ u8, u8 = wx ∧ ∃ (q : Nat) (a4 : Option Addr) (c4 : Nat), s6 = .pointer (some ⟨q, 0, none⟩) ∧ s7 = .int .i64 C ∧ w5.heap.size ≤ q ∧ wx.heap[q]? = some (.cells #[.slice a4 N c4] 29) ∧ (∃ ys, OwnS wx w5.heap.size (.slice a4 N c4) LL ys) ∧ Below w5.heap.size w5 wx)
  case first =>
    refine wp_region_held_drew (S := Below w5.heap.size w5) (by kernel_rfl) ((Below.refl _ _).drew) (fun hS => ?_)
    refine takeS (i := 0) (v := .agg #[.slice (some ⟨g4, 0, none⟩) n n]) rfl rfl (by kernel_rfl) (by kernel_rfl) (by kernel_rfl) (fun _ _ _ h => h) (Or.inl ⟨by rfl, fun U hU => by have q0 := cell_of_row _ x0 0 _ _ _ (keep_block X5.out hU); go_simp⟩) hS ?_
    try simp only [List.setIfInBounds_toArray, List.set_cons_zero, List.set_cons_succ]
    refine takeS (i := 1) (v := .agg (ints .u8 key)) rfl rfl (by kernel_rfl) (by kernel_rfl) (by kernel_rfl) (fun _ _ _ h => h) (yields_rowS (by rfl) 40 _ rfl (w.heap.size + 1) rfl (ints .u8 key) 40 _ (fun U hU => keep_block F5.out hU) Try.underlying40 rfl (by rw [ints_size, HKL.out]; exact sizeKeyL)) hS ?_
    try simp only [List.setIfInBounds_toArray, List.set_cons_zero, List.set_cons_succ]
    refine wpAnyH_ready (rs := [2, 7]) (by kernel_rfl) (by simp) ?_
    refine AllReadyH.cons rfl (fun KQ hK => ?_) (AllReadyH.cons rfl (fun KQ hK => ?_) AllReadyH.nil)
    · rw [if_pos (by rfl)]
      go_simp
      refine (toKey_ key HKL.out _).mono ?_
      rintro e u6 ⟨rfl, hb⟩
      refine hK.out _ _ (below_call hS hS.size hb) (fun hS => ?_)
      clear hb hK
      refine wpAnyH_ready (rs := [3, 7]) (by kernel_rfl) (by simp) ?_
      refine AllReadyH.cons rfl (fun KQ hK => ?_) (AllReadyH.cons rfl (fun KQ hK => ?_) AllReadyH.nil)
      · rw [if_pos (by rfl)]
        go_simp
        have hsz7 := hS.size
        refine (hki.out g4 _ (O5.out.below hS)).mono ?_
        rintro e u7 ⟨v4, ys, rfl, hO0, hb⟩
        obtain ⟨a4, c4, rfl, hO⟩ := hO0.shapeN HNL.out
        have RS := Lib.hid (hO.mono hsz7)
        clear hO hO0
        refine hK.out _ _ (below_call hS hS.size hb) (fun hS => ?_)
        clear hb hK
        refine takeS (i := 4) (v := .tuple #[.agg #[.slice a4 N c4], .int .i64 C]) rfl rfl (by kernel_rfl) (by kernel_rfl) (by kernel_rfl) (fun _ _ _ h => h) (Or.inl ⟨by rfl, fun U hU => by go_simp⟩) hS ?_
        try simp only [List.setIfInBounds_toArray, List.set_cons_zero, List.set_cons_succ]
        refine takeS (i := 5) (v := .agg #[.slice a4 N c4]) rfl rfl (by kernel_rfl) (by kernel_rfl) (by kernel_rfl) (fun _ _ _ h => h) (Or.inl ⟨by rfl, fun U hU => by go_simp⟩) hS ?_
        try simp only [List.setIfInBounds_toArray, List.set_cons_zero, List.set_cons_succ]
        refine takeS (i := 6) (v := .int .i64 C) rfl rfl (by kernel_rfl) (by kernel_rfl) (by kernel_rfl) (fun _ _ _ h => h) (Or.inl ⟨by rfl, fun U hU => by go_simp⟩) hS ?_
        try simp only [List.setIfInBounds_toArray, List.set_cons_zero, List.set_cons_succ]
        refine wpAnyH_ready (rs := [7]) (by kernel_rfl) (by simp) ?_
        refine AllReadyH.cons rfl (fun KQ hK => ?_) AllReadyH.nil
        rw [if_pos (by rfl)]
        go_simp
        have LA := (Below.refl (u7).heap.size (u7)).alloc (Nat.le_refl _) (.cells #[.slice none 0 0] 29)
        have BXX := Lib.hid (heap_alloc_last (u7) (.cells #[.slice none 0 0] 29))
        have BQ := Lib.hid (show w5.heap.size ≤ (u7).heap.size from hS.size)
        have RS := Lib.hid (RS.out.below LA)
        refine hK.out _ _ (hS.alloc hS.size _) (fun hS => ?_)
        clear hK LA
        obtain ⟨wA, hwA⟩ : ∃ wA, (u7).alloc (.cells #[.slice none 0 0] 29) = wA := ⟨_, rfl⟩
        obtain ⟨q, hq⟩ : ∃ q, (u7).heap.size = q := ⟨_, rfl⟩
        rw [hwA] at BXX hS RS ⊢
        rw [hq] at BXX ⊢
        replace BQ : Hid (w5.heap.size ≤ q) := Lib.hid (by rw [← hq]; exact BQ.out)
        clear hwA hq
        refine wpAnyH_ready (rs := [8]) (by kernel_rfl) (by simp) ?_
        refine AllReadyH.cons rfl (fun KQ hK => ?_) AllReadyH.nil
        rw [if_pos (by rfl)]
        have q0 := cell_of_row _ q 0 _ _ _ BXX.out
        have f0 := frozen_of_row _ q 0 _ _ BXX.out
        go_simp
        have BY := Lib.hid (st_box (a := .slice a4 N c4) BXX.out)
        have RY := Lib.hid (RS.out.setBox BXX.out (.slice a4 N c4))
        have hSY := hS.setCell (p := ⟨q, 0, none⟩) BQ.out (.slice a4 N c4)
        refine hK.out _ _ hSY (fun hS => ?_)
        clear hK q0 f0
        refine takeS (i := 9) (v := .int .i64 C) rfl rfl (by kernel_rfl) (by kernel_rfl) (by kernel_rfl) (fun _ _ _ h => h) (Or.inl ⟨by rfl, fun U hU => by go_simp⟩) hS ?_
        try simp only [List.setIfInBounds_toArray, List.set_cons_zero, List.set_cons_succ]
        refine wpAnyH_done (by kernel_rfl) ?_ _
        go_wp2_with fail
        go_meet
        exact ⟨_, rfl, q, a4, c4, rfl, rfl, BQ.out, BY.out, ⟨_, RY.out⟩, hS⟩
      · rw [if_pos (by rfl)]
        go_simp
        have LA := (Below.refl (u6).heap.size (u6)).alloc (Nat.le_refl _) (.cells #[.slice none 0 0] 29)
        have BXX := Lib.hid (heap_alloc_last (u6) (.cells #[.slice none 0 0] 29))
        have BQ := Lib.hid (show w5.heap.size ≤ (u6).heap.size from hS.size)
        refine hK.out _ _ (hS.alloc hS.size _) (fun hS => ?_)
        clear hK LA
        obtain ⟨wA, hwA⟩ : ∃ wA, (u6).alloc (.cells #[.slice none 0 0] 29) = wA := ⟨_, rfl⟩
        obtain ⟨q, hq⟩ : ∃ q, (u6).heap.size = q := ⟨_, rfl⟩
        rw [hwA] at BXX hS  ⊢
        rw [hq] at BXX ⊢
        replace BQ : Hid (w5.heap.size ≤ q) := Lib.hid (by rw [← hq]; exact BQ.out)
        clear hwA hq
        refine wpAnyH_ready (rs := [3]) (by kernel_rfl) (by simp) ?_
        refine AllReadyH.cons rfl (fun KQ hK => ?_) AllReadyH.nil
        rw [if_pos (by rfl)]
        go_simp
        have hsz7 := hS.size
        refine (hki.out g4 _ (O5.out.below hS)).mono ?_
        rintro e u7 ⟨v4, ys, rfl, hO0, hb⟩
        obtain ⟨a4, c4, rfl, hO⟩ := hO0.shapeN HNL.out
        have BXX := Lib.hid ((hb.block q (Array.getElem?_eq_some_iff.1 BXX.out).1).trans BXX.out)
        have RS := Lib.hid (hO.mono hsz7)
        clear hO hO0
        refine hK.out _ _ (below_call hS hS.size hb) (fun hS => ?_)
        clear hb hK
        refine takeS (i := 4) (v := .tuple #[.agg #[.slice a4 N c4], .int .i64 C]) rfl rfl (by kernel_rfl) (by kernel_rfl) (by kernel_rfl) (fun _ _ _ h => h) (Or.inl ⟨by rfl, fun U hU => by go_simp⟩) hS ?_
        try simp only [List.setIfInBounds_toArray, List.set_cons_zero, List.set_cons_succ]
        refine takeS (i := 5) (v := .agg #[.slice a4 N c4]) rfl rfl (by kernel_rfl) (by kernel_rfl) (by kernel_rfl) (fun _ _ _ h => h) (Or.inl ⟨by rfl, fun U hU => by go_simp⟩) hS ?_
        try simp only [List.setIfInBounds_toArray, List.set_cons_zero, List.set_cons_succ]
        refine takeS (i := 6) (v := .int .i64 C) rfl rfl (by kernel_rfl) (by kernel_rfl) (by kernel_rfl) (fun _ _ _ h => h) (Or.inl ⟨by rfl, fun U hU => by go_simp⟩) hS ?_
        try simp only [List.setIfInBounds_toArray, List.set_cons_zero, List.set_cons_succ]
        refine wpAnyH_ready (rs := [8]) (by kernel_rfl) (by simp) ?_
        refine AllReadyH.cons rfl (fun KQ hK => ?_) AllReadyH.nil
        rw [if_pos (by rfl)]
        have q0 := cell_of_row _ q 0 _ _ _ BXX.out
        have f0 := frozen_of_row _ q 0 _ _ BXX.out
        go_simp
        have BY := Lib.hid (st_box (a := .slice a4 N c4) BXX.out)
        have RY := Lib.hid (RS.out.setBox BXX.out (.slice a4 N c4))
        have hSY := hS.setCell (p := ⟨q, 0, none⟩) BQ.out (.slice a4 N c4)
        refine hK.out _ _ hSY (fun hS => ?_)
        clear hK q0 f0
        refine takeS (i := 9) (v := .int .i64 C) rfl rfl (by kernel_rfl) (by kernel_rfl) (by kernel_rfl) (fun _ _ _ h => h) (Or.inl ⟨by rfl, fun U hU => by go_simp⟩) hS ?_
        try simp only [List.setIfInBounds_toArray, List.set_cons_zero, List.set_cons_succ]
        refine wpAnyH_done (by kernel_rfl) ?_ _
        go_wp2_with fail
        go_meet
        exact ⟨_, rfl, q, a4, c4, rfl, rfl, BQ.out, BY.out, ⟨_, RY.out⟩, hS⟩
    · rw [if_pos (by rfl)]
      go_simp
      have LA := (Below.refl (w5).heap.size (w5)).alloc (Nat.le_refl _) (.cells #[.slice none 0 0] 29)
      have BXX := Lib.hid (heap_alloc_last (w5) (.cells #[.slice none 0 0] 29))
      have BQ := Lib.hid (show w5.heap.size ≤ (w5).heap.size from hS.size)
      refine hK.out _ _ (hS.alloc hS.size _) (fun hS => ?_)
      clear hK LA
      obtain ⟨wA, hwA⟩ : ∃ wA, (w5).alloc (.cells #[.slice none 0 0] 29) = wA := ⟨_, rfl⟩
      obtain ⟨q, hq⟩ : ∃ q, (w5).heap.size = q := ⟨_, rfl⟩
      rw [hwA] at BXX hS  ⊢
      clear hwA hq
      refine wpAnyH_ready (rs := [2]) (by kernel_rfl) (by simp) ?_
      refine AllReadyH.cons rfl (fun KQ hK => ?_) AllReadyH.nil
      rw [if_pos (by rfl)]
      go_simp
      refine (toKey_ key HKL.out _).mono ?_
      rintro e u6 ⟨rfl, hb⟩
      have BXX := Lib.hid ((hb.block (w5.heap.size) (Array.getElem?_eq_some_iff.1 BXX.out).1).trans BXX.out)
      refine hK.out _ _ (below_call hS hS.size hb) (fun hS => ?_)
      clear hb hK
      refine wpAnyH_ready (rs := [3]) (by kernel_rfl) (by simp) ?_
      refine AllReadyH.cons rfl (fun KQ hK => ?_) AllReadyH.nil
      rw [if_pos (by rfl)]
      go_simp
      have hsz7 := hS.size
      refine (hki.out g4 _ (O5.out.below hS)).mono ?_
      rintro e u7 ⟨v4, ys, rfl, hO0, hb⟩
      obtain ⟨a4, c4, rfl, hO⟩ := hO0.shapeN HNL.out
      have BXX := Lib.hid ((hb.block (w5.heap.size) (Array.getElem?_eq_some_iff.1 BXX.out).1).trans BXX.out)
      have RS := Lib.hid (hO.mono hsz7)
      clear hO hO0
      refine hK.out _ _ (below_call hS hS.size hb) (fun hS => ?_)
      clear hb hK
      refine takeS (i := 4) (v := .tuple #[.agg #[.slice a4 N c4], .int .i64 C]) rfl rfl (by kernel_rfl) (by kernel_rfl) (by kernel_rfl) (fun _ _ _ h => h) (Or.inl ⟨by rfl, fun U hU => by go_simp⟩) hS ?_
      try simp only [List.setIfInBounds_toArray, List.set_cons_zero, List.set_cons_succ]
      refine takeS (i := 5) (v := .agg #[.slice a4 N c4]) rfl rfl (by kernel_rfl) (by kernel_rfl) (by kernel_rfl) (fun _ _ _ h => h) (Or.inl ⟨by rfl, fun U hU => by go_simp⟩) hS ?_
      try simp only [List.setIfInBounds_toArray, List.set_cons_zero, List.set_cons_succ]
      refine takeS (i := 6) (v := .int .i64 C) rfl rfl (by kernel_rfl) (by kernel_rfl) (by kernel_rfl) (fun _ _ _ h => h) (Or.inl ⟨by rfl, fun U hU => by go_simp⟩) hS ?_
      try simp only [List.setIfInBounds_toArray, List.set_cons_zero, List.set_cons_succ]
      refine wpAnyH_ready (rs := [8]) (by kernel_rfl) (by simp) ?_
      refine AllReadyH.cons rfl (fun KQ hK => ?_) AllReadyH.nil
      rw [if_pos (by rfl)]
      have q0 := cell_of_row _ (w5.heap.size) 0 _ _ _ BXX.out
      have f0 := frozen_of_row _ (w5.heap.size) 0 _ _ BXX.out
      go_simp
      have BY := Lib.hid (st_box (a := .slice a4 N c4) BXX.out)
      have RY := Lib.hid (RS.out.setBox BXX.out (.slice a4 N c4))
      have hSY := hS.setCell (p := ⟨(w5.heap.size), 0, none⟩) BQ.out (.slice a4 N c4)
      refine hK.out _ _ hSY (fun hS => ?_)
      clear hK q0 f0
      refine takeS (i := 9) (v := .int .i64 C) rfl rfl (by kernel_rfl) (by kernel_rfl) (by kernel_rfl) (fun _ _ _ h => h) (Or.inl ⟨by rfl, fun U hU => by go_simp⟩) hS ?_
      try simp only [List.setIfInBounds_toArray, List.set_cons_zero, List.set_cons_succ]
      refine wpAnyH_done (by kernel_rfl) ?_ _
      go_wp2_with fail
      go_meet
      exact ⟨_, rfl, (w5.heap.size), a4, c4, rfl, rfl, BQ.out, BY.out, ⟨_, RY.out⟩, hS⟩
  obtain ⟨w6, rfl, q9, a7, c7, rfl, rfl, hq9, hBX, ⟨ys, hRd⟩, hb⟩ := hcut
  have T6 := Lib.hid hBX
  have V6 := Lib.hid hRd
  have B6 := Lib.hid (below_call B5.out B5.out.size hb)
  have C6 := Lib.hid (below_call C5.out C5.out.size hb)
  have O6 := Lib.hid (O5.out.below hb)
  have M6 := Lib.hid (M5.out.below hb)
  have X6 := Lib.hid (keep_block X5.out hb)
  have Z6 := Lib.hid (Nat.le_trans (Nat.le_of_lt Z5.out) hb.size)
  have S6 := Lib.hid (keep_block S5.out hb)
  have R6 := Lib.hid (R5.out.below hb)
  have F55 := Lib.hid C5.out.size
  have G55 := Lib.hid B5.out.size
  clear hb hBX hRd B5 C5 O5 M5 X5 S5 R5
  have q0 := cell_of_row _ q9 0 _ _ _ T6.out
  have p0 := cell_of_row _ q6 0 _ _ _ S6.out
  go_upto_region 8 with fail
  go_wp2_with fail
  clear q0 p0
  refine (eqStR a7 a4 c7 c4 N LL HNL.out HNb.out HLn.out _ (V6.out.rdN HNL.out HLl.out) R6.out).mono ?_
  rintro e w7 ⟨rfl, hb⟩
  have T7 := Lib.hid (keep_block T6.out hb)
  have V7 := Lib.hid (V6.out.below hb)
  have B7 := Lib.hid (below_call B6.out B6.out.size hb)
  have C7 := Lib.hid (below_call C6.out C6.out.size hb)
  have O7 := Lib.hid (O6.out.below hb)
  have M7 := Lib.hid (M6.out.below hb)
  have X7 := Lib.hid (keep_block X6.out hb)
  have Z7 := Lib.hid (Nat.le_trans Z6.out hb.size)
  have S7 := Lib.hid (keep_block S6.out hb)
  have R7 := Lib.hid (R6.out.below hb)
  have E7 := Lib.hid (keep_block E3.out C7.out)
  have F7 := Lib.hid (keep_block F3.out C7.out)
  clear hb V6 R6 B6 C6 O6 M6 X6 Z6 S6 T6
  go_upto_region 10 with fail
  refine wp_region_held_drew (S := Below (w7).heap.size (w7)) (by kernel_rfl) ((Below.refl _ _).drew) (fun hS => ?_)
  refine takeS (i := 0) (v := .agg #[.slice (some ⟨g4, 0, none⟩) n n]) rfl rfl (by kernel_rfl) (by kernel_rfl) (by kernel_rfl) (fun _ _ _ h => h) (Or.inl ⟨by rfl, fun U hU => by have q0 := cell_of_row _ (x0) 0 _ _ _ (keep_block X7.out hU); go_simp⟩) hS ?_
  try simp only [List.setIfInBounds_toArray, List.set_cons_zero, List.set_cons_succ]
  refine takeS (i := 1) (v := .agg #[.slice a n ca]) rfl rfl (by kernel_rfl) (by kernel_rfl) (by kernel_rfl) (fun _ _ _ h => h) (Or.inl ⟨by rfl, fun U hU => by have q0 := cell_of_row _ (w.heap.size) 0 _ _ _ (keep_block E7.out hU); go_simp⟩) hS ?_
  try simp only [List.setIfInBounds_toArray, List.set_cons_zero, List.set_cons_succ]
  refine wpAnyH_ready (rs := [2]) (by kernel_rfl) (by simp) ?_
  refine AllReadyH.cons rfl (fun KQ hK => ?_) AllReadyH.nil
  rw [if_pos (by rfl)]
  go_simp
  refine (toSt a n ca bs (by omega) _ (HIA.out.below ((B7.out).trans (hS.mono (B7.out).size))) HNA.out).mono ?_
  rintro e u5 ⟨g5, rfl, ho, hb⟩
  have OA := Lib.hid ho
  have OB := Lib.hid (O7.out.below (below_call hS hS.size hb))
  refine hK.out _ _ (below_call hS hS.size hb) (fun hS => ?_)
  clear hb hK ho
  refine wpAnyH_ready (rs := [3]) (by kernel_rfl) (by simp) ?_
  refine AllReadyH.cons rfl (fun KQ hK => ?_) AllReadyH.nil
  rw [if_pos (by rfl)]
  go_simp
  refine (eqSt g4 g5 n bs (by omega) HLA.out HFA.out _ OB.out OA.out).mono ?_
  rintro e u6 ⟨rfl, hb⟩
  refine hK.out _ _ (below_call hS hS.size hb) (fun hS => ?_)
  clear hb hK OA OB
  refine takeS (i := 4) (v := .bool false) rfl rfl (by kernel_rfl) (by kernel_rfl) (by kernel_rfl) (fun _ _ _ h => h) (Or.inl ⟨by rfl, fun U hU => by go_simp⟩) hS ?_
  try simp only [List.setIfInBounds_toArray, List.set_cons_zero, List.set_cons_succ]
  refine wpAnyH_done (by kernel_rfl) ?_ _
  have T8 := Lib.hid (keep_block T7.out hS)
  have V8 := Lib.hid (V7.out.below hS)
  have B8 := Lib.hid (below_call B7.out B7.out.size hS)
  have C8 := Lib.hid (below_call C7.out C7.out.size hS)
  have M8 := Lib.hid (M7.out.below hS)
  have X8 := Lib.hid (keep_block X7.out hS)
  have Z8 := Lib.hid (Nat.le_trans Z7.out hS.size)
  have S8 := Lib.hid (keep_block S7.out hS)
  have R8 := Lib.hid (R7.out.below hS)
  clear hS T7 V7 B7 C7 M7 X7 Z7 S7 R7 E7 F7 O7
  have q0 := cell_of_row _ x0 0 _ _ _ X8.out
  go_upto_region 13 with fail
  go_wp2_with fail
  clear q0
  refine (markSt w3.heap.size x0 g4 n bs 1 (by omega) (by have := HSZ.out; omega) (by omega) HLA.out _ Z8.out M8.out).mono ?_
  rintro e w9 ⟨rfl, hk⟩
  have hkB : Below w3.heap.size u6 w9 := hk.below C8.out.size (fun k h => h.1)
  have V9 := Lib.hid (V8.out.keepX (fun k h => Nat.lt_trans h.2 Z5.out) hk)
  have T9 := Lib.hid (hk.hold (g := q9) (fun h => by have := Z5.out; omega) T8.out)
  have B9 := Lib.hid (B8.out.trans (hkB.mono B3.out.size))
  have C9 := Lib.hid (C8.out.trans hkB)
  have S9 := Lib.hid (keep_row_baseB S8.out (Array.getElem?_eq_some_iff.1 S3.out).1 hkB)
  have R9 := Lib.hid (R3.out.below C9.out)
  clear hk hkB V8 B8 C8 M8 X8 Z8 S8 R8 T8
  generalize hr2 : (1 : Int) + ((n + szS bs : Nat) : Int) = r2
  have r2n : ¬ r2 < 0 := by omega
  clear hr2
  have q0 := cell_of_row _ q9 0 _ _ _ T9.out
  have p0 := cell_of_row _ q6 0 _ _ _ S9.out
  go_upto_region 14 with fail
  go_wp2_with fail
  clear q0 p0
  refine (eqStR a7 a4 c7 c4 N LL HNL.out HNb.out HLn.out _ (V9.out.rdN HNL.out HLl.out) R9.out).mono ?_
  rintro e w10 ⟨rfl, hb⟩
  have T10 := Lib.hid (keep_block T9.out hb)
  have V10 := Lib.hid (V9.out.below hb)
  have B10 := Lib.hid (below_call B9.out B9.out.size hb)
  have C10 := Lib.hid (below_call C9.out C9.out.size hb)
  have S10 := Lib.hid (keep_block S9.out hb)
  clear hb T9 V9 B9 C9 S9 R9
  have hw5 : w5.heap.size ≤ w10.heap.size := by have := (Array.getElem?_eq_some_iff.1 T10.out).1; omega
  have hmk := Lib.hid (markStO a7 c7 w5.heap.size N LL ys 1 HNL.out (by omega) HNz.out HNb.out HLf.out w10 hw5 V10.out)
  have hhd := Lib.hid (fun W h => heldStO a7 c7 N LL 1 HNL.out (by omega) HNz.out HNb.out HLn.out W h)
  have HLZ := Lib.hid (mkB_len 1 LL)
  have HLM := Lib.hid (fun (i : Nat) (x : BlV) (h : (mkB 1 LL)[i]? = some x) => (mkB_n h).choose_spec.2.2)
  generalize hm : (1 : Int) + ((N + szS LL : Nat) : Int) = m at hmk hhd
  have m0 : ¬ m < 0 := by omega
  clear hm
  have q0 := cell_of_row _ q9 0 _ _ _ T10.out
  go_upto_region 17 with fail
  go_wp2_with fail
  clear q0
  refine hmk.out.mono ?_
  rintro e w11 ⟨rfl, hO, hkB, hT⟩
  have T11 := Lib.hid (hT _ _ _ T10.out (by decide) (by decide))
  have V11 := Lib.hid (hO.rdN (HLZ.out.trans HNL.out) HLM.out)
  have B11 := Lib.hid (B10.out.trans (hkB.mono G55.out))
  have C11 := Lib.hid (C10.out.trans (hkB.mono F55.out))
  have S11 := Lib.hid (keep_row_baseB S10.out (Nat.lt_of_lt_of_le (Array.getElem?_eq_some_iff.1 S3.out).1 F55.out) hkB)
  clear hkB hO hT T10 V10 B10 C10 S10 hmk
  have q0 := cell_of_row _ q9 0 _ _ _ T11.out
  go_upto_region 19 with fail
  go_wp2_with fail
  clear q0
  refine (hhd.out _ V11.out).mono ?_
  rintro e w12 ⟨rfl, hb⟩
  have T12 := Lib.hid (keep_block T11.out hb)
  have V12 := Lib.hid (V11.out.below hb)
  have B12 := Lib.hid (below_call B11.out B11.out.size hb)
  have C12 := Lib.hid (below_call C11.out C11.out.size hb)
  have S12 := Lib.hid (keep_block S11.out hb)
  have E12 := Lib.hid (keep_block E3.out C12.out)
  have F12 := Lib.hid (keep_block F3.out C12.out)
  clear hb T11 V11 B11 C11 S11
  go_upto_region 24 with fail
  go_cut [14, 15] (fun s6 s7 wx => ∃ u8, u8 = wx ∧ ∃ (q : Nat) (a4 : Option Addr) (c4 : Nat), s6 = .pointer (some ⟨q, 0, none⟩) ∧ s7 = .int .i64 C ∧ w12.heap.size ≤ q ∧ wx.heap[q]? = some (.cells #[.slice a4 N c4] 29) ∧ (∃ ys, OwnS wx w12.heap.size (.slice a4 N c4) LL ys) ∧ Below w12.heap.size w12 wx)
  case first =>
    refine wp_region_held_drew (S := Below w12.heap.size w12) (by kernel_rfl) ((Below.refl _ _).drew) (fun hS => ?_)
    refine takeS (i := 0) (v := .agg #[.slice a n ca]) rfl rfl (by kernel_rfl) (by kernel_rfl) (by kernel_rfl) (fun _ _ _ h => h) (Or.inl ⟨by rfl, fun U hU => by have q0 := cell_of_row _ w.heap.size 0 _ _ _ (keep_block E12.out hU); go_simp⟩) hS ?_
    try simp only [List.setIfInBounds_toArray, List.set_cons_zero, List.set_cons_succ]
    refine takeS (i := 2) (v := .agg (ints .u8 key)) rfl rfl (by kernel_rfl) (by kernel_rfl) (by kernel_rfl) (fun _ _ _ h => h) (yields_rowS (by rfl) 40 _ rfl (w.heap.size + 1) rfl (ints .u8 key) 40 _ (fun U hU => keep_block F12.out hU) Try.underlying40 rfl (by rw [ints_size, HKL.out]; exact sizeKeyL)) hS ?_
    try simp only [List.setIfInBounds_toArray, List.set_cons_zero, List.set_cons_succ]
    refine wpAnyH_ready (rs := [1, 8]) (by kernel_rfl) (by simp) ?_
    refine AllReadyH.cons rfl (fun KQ hK => ?_) (AllReadyH.cons rfl (fun KQ hK => ?_) AllReadyH.nil)
    · rw [if_pos (by rfl)]
      go_simp
      refine (toSt a n ca bs (by omega) _ (HIA.out.below ((B12.out).trans (hS.mono B12.out.size))) HNA.out).mono ?_
      rintro e u5 ⟨g5, rfl, ho, hb⟩
      have OS := Lib.hid ho
      clear ho
      refine hK.out _ _ (below_call hS hS.size hb) (fun hS => ?_)
      clear hb hK
      refine wpAnyH_ready (rs := [3, 8]) (by kernel_rfl) (by simp) ?_
      refine AllReadyH.cons rfl (fun KQ hK => ?_) (AllReadyH.cons rfl (fun KQ hK => ?_) AllReadyH.nil)
      · rw [if_pos (by rfl)]
        go_simp
        refine (toKey_ key HKL.out _).mono ?_
        rintro e u6 ⟨rfl, hb⟩
        have OS := Lib.hid (OS.out.below hb)
        refine hK.out _ _ (below_call hS hS.size hb) (fun hS => ?_)
        clear hb hK
        refine wpAnyH_ready (rs := [4, 8]) (by kernel_rfl) (by simp) ?_
        refine AllReadyH.cons rfl (fun KQ hK => ?_) (AllReadyH.cons rfl (fun KQ hK => ?_) AllReadyH.nil)
        · rw [if_pos (by rfl)]
          go_simp
          have hsz7 := hS.size
          refine (hki.out g5 _ OS.out).mono ?_
          rintro e u7 ⟨v4, ys, rfl, hO0, hb⟩
          obtain ⟨a4, c4, rfl, hO⟩ := hO0.shapeN HNL.out
          have RS := Lib.hid (hO.mono hsz7)
          clear hO hO0
          refine hK.out _ _ (below_call hS hS.size hb) (fun hS => ?_)
          clear hb hK
          refine takeS (i := 5) (v := .tuple #[.agg #[.slice a4 N c4], .int .i64 C]) rfl rfl (by kernel_rfl) (by kernel_rfl) (by kernel_rfl) (fun _ _ _ h => h) (Or.inl ⟨by rfl, fun U hU => by go_simp⟩) hS ?_
          try simp only [List.setIfInBounds_toArray, List.set_cons_zero, List.set_cons_succ]
          refine takeS (i := 6) (v := .agg #[.slice a4 N c4]) rfl rfl (by kernel_rfl) (by kernel_rfl) (by kernel_rfl) (fun _ _ _ h => h) (Or.inl ⟨by rfl, fun U hU => by go_simp⟩) hS ?_
          try simp only [List.setIfInBounds_toArray, List.set_cons_zero, List.set_cons_succ]
          refine takeS (i := 7) (v := .int .i64 C) rfl rfl (by kernel_rfl) (by kernel_rfl) (by kernel_rfl) (fun _ _ _ h => h) (Or.inl ⟨by rfl, fun U hU => by go_simp⟩) hS ?_
          try simp only [List.setIfInBounds_toArray, List.set_cons_zero, List.set_cons_succ]
          refine wpAnyH_ready (rs := [8]) (by kernel_rfl) (by simp) ?_
          refine AllReadyH.cons rfl (fun KQ hK => ?_) AllReadyH.nil
          rw [if_pos (by rfl)]
          go_simp
          have LA := (Below.refl (u7).heap.size (u7)).alloc (Nat.le_refl _) (.cells #[.slice none 0 0] 29)
          have BXX := Lib.hid (heap_alloc_last (u7) (.cells #[.slice none 0 0] 29))
          have BQ := Lib.hid (show w12.heap.size ≤ (u7).heap.size from hS.size)
          have RS := Lib.hid (RS.out.below LA)
          refine hK.out _ _ (hS.alloc hS.size _) (fun hS => ?_)
          clear hK LA
          obtain ⟨wA, hwA⟩ : ∃ wA, (u7).alloc (.cells #[.slice none 0 0] 29) = wA := ⟨_, rfl⟩
          obtain ⟨q, hq⟩ : ∃ q, (u7).heap.size = q := ⟨_, rfl⟩
          rw [hwA] at BXX hS RS ⊢
          rw [hq] at BXX ⊢
          replace BQ : Hid (w12.heap.size ≤ q) := Lib.hid (by rw [← hq]; exact BQ.out)
          clear hwA hq
          refine wpAnyH_ready (rs := [9]) (by kernel_rfl) (by simp) ?_
          refine AllReadyH.cons rfl (fun KQ hK => ?_) AllReadyH.nil
          rw [if_pos (by rfl)]
          have q0 := cell_of_row _ q 0 _ _ _ BXX.out
          have f0 := frozen_of_row _ q 0 _ _ BXX.out
          go_simp
          have BY := Lib.hid (st_box (a := .slice a4 N c4) BXX.out)
          have RY := Lib.hid (RS.out.setBox BXX.out (.slice a4 N c4))
          have hSY := hS.setCell (p := ⟨q, 0, none⟩) BQ.out (.slice a4 N c4)
          refine hK.out _ _ hSY (fun hS => ?_)
          clear hK q0 f0
          refine takeS (i := 10) (v := .int .i64 C) rfl rfl (by kernel_rfl) (by kernel_rfl) (by kernel_rfl) (fun _ _ _ h => h) (Or.inl ⟨by rfl, fun U hU => by go_simp⟩) hS ?_
          try simp only [List.setIfInBounds_toArray, List.set_cons_zero, List.set_cons_succ]
          refine wpAnyH_done (by kernel_rfl) ?_ _
          go_wp2_with fail
          go_meet
          exact ⟨_, rfl, q, a4, c4, rfl, rfl, BQ.out, BY.out, ⟨_, RY.out⟩, hS⟩
        · rw [if_pos (by rfl)]
          go_simp
          have LA := (Below.refl (u6).heap.size (u6)).alloc (Nat.le_refl _) (.cells #[.slice none 0 0] 29)
          have BXX := Lib.hid (heap_alloc_last (u6) (.cells #[.slice none 0 0] 29))
          have BQ := Lib.hid (show w12.heap.size ≤ (u6).heap.size from hS.size)
          have OS := Lib.hid (OS.out.below LA)
          refine hK.out _ _ (hS.alloc hS.size _) (fun hS => ?_)
          clear hK LA
          obtain ⟨wA, hwA⟩ : ∃ wA, (u6).alloc (.cells #[.slice none 0 0] 29) = wA := ⟨_, rfl⟩
          obtain ⟨q, hq⟩ : ∃ q, (u6).heap.size = q := ⟨_, rfl⟩
          rw [hwA] at BXX hS OS ⊢
          rw [hq] at BXX ⊢
          replace BQ : Hid (w12.heap.size ≤ q) := Lib.hid (by rw [← hq]; exact BQ.out)
          clear hwA hq
          refine wpAnyH_ready (rs := [4]) (by kernel_rfl) (by simp) ?_
          refine AllReadyH.cons rfl (fun KQ hK => ?_) AllReadyH.nil
          rw [if_pos (by rfl)]
          go_simp
          have hsz7 := hS.size
          refine (hki.out g5 _ OS.out).mono ?_
          rintro e u7 ⟨v4, ys, rfl, hO0, hb⟩
          obtain ⟨a4, c4, rfl, hO⟩ := hO0.shapeN HNL.out
          have BXX := Lib.hid ((hb.block q (Array.getElem?_eq_some_iff.1 BXX.out).1).trans BXX.out)
          have RS := Lib.hid (hO.mono hsz7)
          clear hO hO0
          refine hK.out _ _ (below_call hS hS.size hb) (fun hS => ?_)
          clear hb hK
          refine takeS (i := 5) (v := .tuple #[.agg #[.slice a4 N c4], .int .i64 C]) rfl rfl (by kernel_rfl) (by kernel_rfl) (by kernel_rfl) (fun _ _ _ h => h) (Or.inl ⟨by rfl, fun U hU => by go_simp⟩) hS ?_
          try simp only [List.setIfInBounds_toArray, List.set_cons_zero, List.set_cons_succ]
          refine takeS (i := 6) (v := .agg #[.slice a4 N c4]) rfl rfl (by kernel_rfl) (by kernel_rfl) (by kernel_rfl) (fun _ _ _ h => h) (Or.inl ⟨by rfl, fun U hU => by go_simp⟩) hS ?_
          try simp only [List.setIfInBounds_toArray, List.set_cons_zero, List.set_cons_succ]
          refine takeS (i := 7) (v := .int .i64 C) rfl rfl (by kernel_rfl) (by kernel_rfl) (by kernel_rfl) (fun _ _ _ h => h) (Or.inl ⟨by rfl, fun U hU => by go_simp⟩) hS ?_
          try simp only [List.setIfInBounds_toArray, List.set_cons_zero, List.set_cons_succ]
          refine wpAnyH_ready (rs := [9]) (by kernel_rfl) (by simp) ?_
          refine AllReadyH.cons rfl (fun KQ hK => ?_) AllReadyH.nil
          rw [if_pos (by rfl)]
          have q0 := cell_of_row _ q 0 _ _ _ BXX.out
          have f0 := frozen_of_row _ q 0 _ _ BXX.out
          go_simp
          have BY := Lib.hid (st_box (a := .slice a4 N c4) BXX.out)
          have RY := Lib.hid (RS.out.setBox BXX.out (.slice a4 N c4))
          have hSY := hS.setCell (p := ⟨q, 0, none⟩) BQ.out (.slice a4 N c4)
          refine hK.out _ _ hSY (fun hS => ?_)
          clear hK q0 f0
          refine takeS (i := 10) (v := .int .i64 C) rfl rfl (by kernel_rfl) (by kernel_rfl) (by kernel_rfl) (fun _ _ _ h => h) (Or.inl ⟨by rfl, fun U hU => by go_simp⟩) hS ?_
          try simp only [List.setIfInBounds_toArray, List.set_cons_zero, List.set_cons_succ]
          refine wpAnyH_done (by kernel_rfl) ?_ _
          go_wp2_with fail
          go_meet
          exact ⟨_, rfl, q, a4, c4, rfl, rfl, BQ.out, BY.out, ⟨_, RY.out⟩, hS⟩
      · rw [if_pos (by rfl)]
        go_simp
        have LA := (Below.refl (u5).heap.size (u5)).alloc (Nat.le_refl _) (.cells #[.slice none 0 0] 29)
        have BXX := Lib.hid (heap_alloc_last (u5) (.cells #[.slice none 0 0] 29))
        have BQ := Lib.hid (show w12.heap.size ≤ (u5).heap.size from hS.size)
        have OS := Lib.hid (OS.out.below LA)
        refine hK.out _ _ (hS.alloc hS.size _) (fun hS => ?_)
        clear hK LA
        obtain ⟨wA, hwA⟩ : ∃ wA, (u5).alloc (.cells #[.slice none 0 0] 29) = wA := ⟨_, rfl⟩
        obtain ⟨q, hq⟩ : ∃ q, (u5).heap.size = q := ⟨_, rfl⟩
        rw [hwA] at BXX hS OS ⊢
        rw [hq] at BXX ⊢
        replace BQ : Hid (w12.heap.size ≤ q) := Lib.hid (by rw [← hq]; exact BQ.out)
        clear hwA hq
        refine wpAnyH_ready (rs := [3]) (by kernel_rfl) (by simp) ?_
        refine AllReadyH.cons rfl (fun KQ hK => ?_) AllReadyH.nil
        rw [if_pos (by rfl)]
        go_simp
        refine (toKey_ key HKL.out _).mono ?_
        rintro e u6 ⟨rfl, hb⟩
        have OS := Lib.hid (OS.out.below hb)
        have BXX := Lib.hid ((hb.block q (Array.getElem?_eq_some_iff.1 BXX.out).1).trans BXX.out)
        refine hK.out _ _ (below_call hS hS.size hb) (fun hS => ?_)
        clear hb hK
        refine wpAnyH_ready (rs := [4]) (by kernel_rfl) (by simp) ?_
        refine AllReadyH.cons rfl (fun KQ hK => ?_) AllReadyH.nil
        rw [if_pos (by rfl)]
        go_simp
        have hsz7 := hS.size
        refine (hki.out g5 _ OS.out).mono ?_
        rintro e u7 ⟨v4, ys, rfl, hO0, hb⟩
        obtain ⟨a4, c4, rfl, hO⟩ := hO0.shapeN HNL.out
        have BXX := Lib.hid ((hb.block q (Array.getElem?_eq_some_iff.1 BXX.out).1).trans BXX.out)
        have RS := Lib.hid (hO.mono hsz7)
        clear hO hO0
        refine hK.out _ _ (below_call hS hS.size hb) (fun hS => ?_)
        clear hb hK
        refine takeS (i := 5) (v := .tuple #[.agg #[.slice a4 N c4], .int .i64 C]) rfl rfl (by kernel_rfl) (by kernel_rfl) (by kernel_rfl) (fun _ _ _ h => h) (Or.inl ⟨by rfl, fun U hU => by go_simp⟩) hS ?_
        try simp only [List.setIfInBounds_toArray, List.set_cons_zero, List.set_cons_succ]
        refine takeS (i := 6) (v := .agg #[.slice a4 N c4]) rfl rfl (by kernel_rfl) (by kernel_rfl) (by kernel_rfl) (fun _ _ _ h => h) (Or.inl ⟨by rfl, fun U hU => by go_simp⟩) hS ?_
        try simp only [List.setIfInBounds_toArray, List.set_cons_zero, List.set_cons_succ]
        refine takeS (i := 7) (v := .int .i64 C) rfl rfl (by kernel_rfl) (by kernel_rfl) (by kernel_rfl) (fun _ _ _ h => h) (Or.inl ⟨by rfl, fun U hU => by go_simp⟩) hS ?_
        try simp only [List.setIfInBounds_toArray, List.set_cons_zero, List.set_cons_succ]
        refine wpAnyH_ready (rs := [9]) (by kernel_rfl) (by simp) ?_
        refine AllReadyH.cons rfl (fun KQ hK => ?_) AllReadyH.nil
        rw [if_pos (by rfl)]
        have q0 := cell_of_row _ q 0 _ _ _ BXX.out
        have f0 := frozen_of_row _ q 0 _ _ BXX.out
        go_simp
        have BY := Lib.hid (st_box (a := .slice a4 N c4) BXX.out)
        have RY := Lib.hid (RS.out.setBox BXX.out (.slice a4 N c4))
        have hSY := hS.setCell (p := ⟨q, 0, none⟩) BQ.out (.slice a4 N c4)
        refine hK.out _ _ hSY (fun hS => ?_)
        clear hK q0 f0
        refine takeS (i := 10) (v := .int .i64 C) rfl rfl (by kernel_rfl) (by kernel_rfl) (by kernel_rfl) (fun _ _ _ h => h) (Or.inl ⟨by rfl, fun U hU => by go_simp⟩) hS ?_
        try simp only [List.setIfInBounds_toArray, List.set_cons_zero, List.set_cons_succ]
        refine wpAnyH_done (by kernel_rfl) ?_ _
        go_wp2_with fail
        go_meet
        exact ⟨_, rfl, q, a4, c4, rfl, rfl, BQ.out, BY.out, ⟨_, RY.out⟩, hS⟩
    · rw [if_pos (by rfl)]
      go_simp
      have LA := (Below.refl (w12).heap.size (w12)).alloc (Nat.le_refl _) (.cells #[.slice none 0 0] 29)
      have BXX := Lib.hid (heap_alloc_last (w12) (.cells #[.slice none 0 0] 29))
      have BQ := Lib.hid (show w12.heap.size ≤ (w12).heap.size from hS.size)
      refine hK.out _ _ (hS.alloc hS.size _) (fun hS => ?_)
      clear hK LA
      obtain ⟨wA, hwA⟩ : ∃ wA, (w12).alloc (.cells #[.slice none 0 0] 29) = wA := ⟨_, rfl⟩
      obtain ⟨q, hq⟩ : ∃ q, (w12).heap.size = q := ⟨_, rfl⟩
      rw [hwA] at BXX hS  ⊢
      clear hwA hq
      refine wpAnyH_ready (rs := [1]) (by kernel_rfl) (by simp) ?_
      refine AllReadyH.cons rfl (fun KQ hK => ?_) AllReadyH.nil
      rw [if_pos (by rfl)]
      go_simp
      refine (toSt a n ca bs (by omega) _ (HIA.out.below ((B12.out).trans (hS.mono B12.out.size))) HNA.out).mono ?_
      rintro e u5 ⟨g5, rfl, ho, hb⟩
      have BXX := Lib.hid ((hb.block (w12.heap.size) (Array.getElem?_eq_some_iff.1 BXX.out).1).trans BXX.out)
      have OS := Lib.hid ho
      clear ho
      refine hK.out _ _ (below_call hS hS.size hb) (fun hS => ?_)
      clear hb hK
      refine wpAnyH_ready (rs := [3]) (by kernel_rfl) (by simp) ?_
      refine AllReadyH.cons rfl (fun KQ hK => ?_) AllReadyH.nil
      rw [if_pos (by rfl)]
      go_simp
      refine (toKey_ key HKL.out _).mono ?_
      rintro e u6 ⟨rfl, hb⟩
      have OS := Lib.hid (OS.out.below hb)
      have BXX := Lib.hid ((hb.block (w12.heap.size) (Array.getElem?_eq_some_iff.1 BXX.out).1).trans BXX.out)
      refine hK.out _ _ (below_call hS hS.size hb) (fun hS => ?_)
      clear hb hK
      refine wpAnyH_ready (rs := [4]) (by kernel_rfl) (by simp) ?_
      refine AllReadyH.cons rfl (fun KQ hK => ?_) AllReadyH.nil
      rw [if_pos (by rfl)]
      go_simp
      have hsz7 := hS.size
      refine (hki.out g5 _ OS.out).mono ?_
      rintro e u7 ⟨v4, ys, rfl, hO0, hb⟩
      obtain ⟨a4, c4, rfl, hO⟩ := hO0.shapeN HNL.out
      have BXX := Lib.hid ((hb.block (w12.heap.size) (Array.getElem?_eq_some_iff.1 BXX.out).1).trans BXX.out)
      have RS := Lib.hid (hO.mono hsz7)
      clear hO hO0
      refine hK.out _ _ (below_call hS hS.size hb) (fun hS => ?_)
      clear hb hK
      refine takeS (i := 5) (v := .tuple #[.agg #[.slice a4 N c4], .int .i64 C]) rfl rfl (by kernel_rfl) (by kernel_rfl) (by kernel_rfl) (fun _ _ _ h => h) (Or.inl ⟨by rfl, fun U hU => by go_simp⟩) hS ?_
      try simp only [List.setIfInBounds_toArray, List.set_cons_zero, List.set_cons_succ]
      refine takeS (i := 6) (v := .agg #[.slice a4 N c4]) rfl rfl (by kernel_rfl) (by kernel_rfl) (by kernel_rfl) (fun _ _ _ h => h) (Or.inl ⟨by rfl, fun U hU => by go_simp⟩) hS ?_
      try simp only [List.setIfInBounds_toArray, List.set_cons_zero, List.set_cons_succ]
      refine takeS (i := 7) (v := .int .i64 C) rfl rfl (by kernel_rfl) (by kernel_rfl) (by kernel_rfl) (fun _ _ _ h => h) (Or.inl ⟨by rfl, fun U hU => by go_simp⟩) hS ?_
      try simp only [List.setIfInBounds_toArray, List.set_cons_zero, List.set_cons_succ]
      refine wpAnyH_ready (rs := [9]) (by kernel_rfl) (by simp) ?_
      refine AllReadyH.cons rfl (fun KQ hK => ?_) AllReadyH.nil
      rw [if_pos (by rfl)]
      have q0 := cell_of_row _ (w12.heap.size) 0 _ _ _ BXX.out
      have f0 := frozen_of_row _ (w12.heap.size) 0 _ _ BXX.out
      go_simp
      have BY := Lib.hid (st_box (a := .slice a4 N c4) BXX.out)
      have RY := Lib.hid (RS.out.setBox BXX.out (.slice a4 N c4))
      have hSY := hS.setCell (p := ⟨(w12.heap.size), 0, none⟩) BQ.out (.slice a4 N c4)
      refine hK.out _ _ hSY (fun hS => ?_)
      clear hK q0 f0
      refine takeS (i := 10) (v := .int .i64 C) rfl rfl (by kernel_rfl) (by kernel_rfl) (by kernel_rfl) (fun _ _ _ h => h) (Or.inl ⟨by rfl, fun U hU => by go_simp⟩) hS ?_
      try simp only [List.setIfInBounds_toArray, List.set_cons_zero, List.set_cons_succ]
      refine wpAnyH_done (by kernel_rfl) ?_ _
      go_wp2_with fail
      go_meet
      exact ⟨_, rfl, (w12.heap.size), a4, c4, rfl, rfl, BQ.out, BY.out, ⟨_, RY.out⟩, hS⟩
  obtain ⟨w13, rfl, q14, a14, c14, rfl, rfl, hq14, hBX, ⟨zs, hRd⟩, hb⟩ := hcut
  have T13 := Lib.hid (keep_block T12.out hb)
  have V13 := Lib.hid (V12.out.below hb)
  have B13 := Lib.hid (below_call B12.out B12.out.size hb)
  have C13 := Lib.hid (below_call C12.out C12.out.size hb)
  have S13 := Lib.hid (keep_block S12.out hb)
  have R13 := Lib.hid (hRd.rdN HNL.out HLl.out)
  have q0 := cell_of_row _ q14 0 _ _ _ hBX
  have p0 := cell_of_row _ q6 0 _ _ _ S13.out
  clear hb hBX hRd
  go_upto_region 25 with fail
  go_wp2_with fail
  clear q0 p0
  refine (eqStR a14 a4 c14 c4 N LL HNL.out HNb.out HLn.out _ R13.out (R3.out.below C13.out)).mono ?_
  rintro e w14 ⟨rfl, hb⟩
  have T14 := Lib.hid (keep_block T13.out hb)
  have V14 := Lib.hid (V13.out.below hb)
  have B14 := Lib.hid (below_call B13.out B13.out.size hb)
  have q0 := cell_of_row _ q9 0 _ _ _ T14.out
  clear hb T13 V13 B13 C13 S13
  go_upto_region 28 with fail
  go_wp2_with fail
  clear q0
  refine (hhd.out _ V14.out).mono ?_
  rintro e w15 ⟨rfl, hb⟩
  have B15 := Lib.hid (below_call B14.out B14.out.size hb)
  go_wp2_with fail
  go_ret
  exact ⟨rfl, B15.out⟩
end Go.Proofs.Ytmgldpiagclcnaa
