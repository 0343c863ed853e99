/- The statement on FnExactSameBlob: its walk. Written by wip/gen/bloblaw.py. -/
import Derived.Test.YthehgifanieokaaBlobK
namespace Go.Proofs.Ythehgifanieokaa
open Go.ChangeShapes Go.WideShapes Go.ChangeAt Go.RowKit
set_option linter.unusedVariables false
set_option linter.unusedSimpArgs false
theorem rdb {w : World} {g n : Nat} {l : List Int} {T : TypeId} (hl : l.length = n) (h : w.heap[g]? = some (.cells (ints .u8 l) T)) : Rd .u8 w (some ⟨g, 0, none⟩) n l := by
  have := Rd.row h
  rw [hl] at this
  exact this
set_option maxRecDepth 100000 in
set_option maxHeartbeats 8000000 in
theorem FnExactSameBlob_in (ta tb : Int) (a b : Option Addr) (n m ca cb : Nat) (l k : List Int) (VV : Bool) (h : n + m ≤ 1048576) (w : World) (hr : Rd .u8 w a n l) (hr2 : Rd .u8 w b m k)
    (hs : ∀ (x y : Nat) (U : World), U.heap[x]? = some (.cells (ints .u8 l) 5) → U.heap[y]? = some (.cells (ints .u8 k) 5) → Calls Try.prog 20 #[.agg #[.int .u8 ta, .slice (some ⟨x, 0, none⟩) n n], .agg #[.int .u8 tb, .slice (some ⟨y, 0, none⟩) m m]] U fun e w' => e = .returned (.bool VV) ∧ Below U.heap.size U w')
    (hi : ∀ (x y : Nat) (U : World), U.heap[x]? = some (.cells (ints .u8 l) 5) → U.heap[y]? = some (.cells (ints .u8 k) 5) → Calls Try.prog 21 #[.agg #[.int .u8 ta, .slice (some ⟨x, 0, none⟩) n n], .agg #[.int .u8 tb, .slice (some ⟨y, 0, none⟩) m m]] U fun e w' => e = .returned (.bool VV) ∧ Below U.heap.size U w') :
    Calls Try.prog 4 #[.agg #[.int .u8 ta, .slice a n ca], .agg #[.int .u8 tb, .slice b m cb]] w fun e w' => e = .returned (.bool true) ∧ Below w.heap.size w w' := by
  have A0 := heap_alloc2_old w (.cells #[.int .u8 ta, .slice a n ca] 24) (.cells #[.int .u8 tb, .slice b m cb] 24)
  have A1 := heap_alloc2_new w (.cells #[.int .u8 ta, .slice a n ca] 24) (.cells #[.int .u8 tb, .slice b m cb] 24)
  have B0' := ((Below.refl w.heap.size w).alloc (Nat.le_refl _) (.cells #[.int .u8 ta, .slice a n ca] 24)).alloc (by simp) (.cells #[.int .u8 tb, .slice b m cb] 24)
  obtain ⟨w0, hw0⟩ : ∃ w0, (w.alloc (.cells #[.int .u8 ta, .slice a n ca] 24)).alloc (.cells #[.int .u8 tb, .slice b m cb] 24) = w0 := ⟨_, rfl⟩
  rw [hw0] at A0 A1 B0'
  have E0 := Lib.hid A0
  have F0 := Lib.hid A1
  have B0 := Lib.hid B0'
  have HRE := Lib.hid hr
  have HLE := Lib.hid hr.1
  have HRF := Lib.hid hr2
  have HLF := Lib.hid hr2.1
  have HSP := Lib.hid hs
  have HIM := Lib.hid hi
  have q0' : ¬ (1048576 : Int) - (n : Int) < 0 := by omega
  have q1' : ¬ (1048576 : Int) - (n : Int) - (m : Int) < 0 := by omega
  clear hr hr2 hs hi A0 A1 B0'
  go_enter Try.func4, Try.ntmps4
  have q0 := cell_of_row _ w.heap.size 0 _ _ _ E0.out
  have r0 := cell_of_row _ w.heap.size 1 _ _ _ E0.out
  go_wp2_with fail
  clear q0 r0
  refine (szBl_in ta a n ca 1048576 (by omega) (by omega) (by omega) _).mono ?_
  rintro e w1 ⟨rfl, hb⟩
  have B1 := Lib.hid (below_call B0.out B0.out.size hb)
  have E1 := Lib.hid (keep_block E0.out hb)
  have F1 := Lib.hid (keep_block F0.out hb)
  clear hw0
  clear hb
  have q0 := cell_of_row _ (w.heap.size + 1) 0 _ _ _ F1.out
  have r0 := cell_of_row _ (w.heap.size + 1) 1 _ _ _ F1.out
  go_wp2_with fail
  clear q0 r0
  refine (szBl_in tb b m cb (1048576 - (n : Int)) (by omega) (by omega) (by omega) _).mono ?_
  rintro e w2 ⟨rfl, hb⟩
  have B2 := Lib.hid (below_call B1.out B1.out.size hb)
  have E2 := Lib.hid (keep_block E1.out hb)
  have F2 := Lib.hid (keep_block F1.out hb)
  clear hb
  go_upto_region 8 with fail
  refine wp_region_held_drew (S := Below (w2).heap.size (w2)) (by kernel_rfl) ((Below.refl _ _).drew) (fun hS => ?_)
  refine takeS (i := 0) (v := .agg #[.int .u8 ta, .slice a n ca]) rfl rfl (by kernel_rfl) (by kernel_rfl) (by kernel_rfl) (fun _ _ _ h => h) (Or.inl ⟨by rfl, fun U hU => by have q0 := cell_of_row _ w.heap.size 0 _ _ _ (keep_block E2.out hU); have q1 := cell_of_row _ w.heap.size 1 _ _ _ (keep_block E2.out hU); go_simp⟩) hS ?_
  try simp only [List.setIfInBounds_toArray, List.set_cons_zero, List.set_cons_succ]
  refine takeS (i := 2) (v := .agg #[.int .u8 tb, .slice b m cb]) rfl rfl (by kernel_rfl) (by kernel_rfl) (by kernel_rfl) (fun _ _ _ h => h) (Or.inl ⟨by rfl, fun U hU => by have q0 := cell_of_row _ (w.heap.size + 1) 0 _ _ _ (keep_block F2.out hU); have q1 := cell_of_row _ (w.heap.size + 1) 1 _ _ _ (keep_block F2.out hU); go_simp⟩) hS ?_
  try simp only [List.setIfInBounds_toArray, List.set_cons_zero, List.set_cons_succ]
  refine wpAnyH_ready (rs := [1]) (by kernel_rfl) (by simp) ?_
  refine AllReadyH.cons rfl (fun KQ hK => ?_) AllReadyH.nil
  rw [if_pos (by rfl)]
  go_simp
  refine (toBl ta a n ca l (by omega) _ (HRE.out.below (below_call B2.out B2.out.size hS))).mono ?_
  rintro e wA ⟨gA, rfl, hg, hb⟩
  have XA := Lib.hid hg
  clear hg
  refine hK.out _ _ (below_call hS hS.size hb) (fun hS => ?_)
  clear hb hK
  refine wpAnyH_ready (rs := [3]) (by kernel_rfl) (by simp) ?_
  refine AllReadyH.cons rfl (fun KQ hK => ?_) AllReadyH.nil
  rw [if_pos (by rfl)]
  go_simp
  refine (toBl tb b m cb k (by omega) _ (HRF.out.below (below_call B2.out B2.out.size hS))).mono ?_
  rintro e wB ⟨gB, rfl, hg, hb⟩
  have YB := Lib.hid hg
  have XB := Lib.hid (keep_block XA.out hb)
  clear hg XA
  refine hK.out _ _ (below_call hS hS.size hb) (fun hS => ?_)
  clear hb hK
  refine wpAnyH_ready (rs := [4]) (by kernel_rfl) (by simp) ?_
  refine AllReadyH.cons rfl (fun KQ hK => ?_) AllReadyH.nil
  rw [if_pos (by rfl)]
  go_simp
  refine (HSP.out gA gB _ XB.out YB.out).mono ?_
  rintro e w3 ⟨rfl, hb⟩
  refine hK.out _ _ (below_call hS hS.size hb) (fun hS => ?_)
  clear hb hK
  refine takeS (i := 5) (v := .bool VV) rfl rfl (by kernel_rfl) (by kernel_rfl) (by kernel_rfl) (fun _ _ _ h => h) (Or.inl ⟨by rfl, fun U hU => by go_simp⟩) hS ?_
  try simp only [List.setIfInBounds_toArray, List.set_cons_zero, List.set_cons_succ]
  refine wpAnyH_done (by kernel_rfl) ?_ _
  have B3 := Lib.hid (below_call B2.out B2.out.size hS)
  have E3 := Lib.hid (keep_block E2.out hS)
  have F3 := Lib.hid (keep_block F2.out hS)
  clear hS XB YB
  have q0 := cell_of_row _ w.heap.size 0 _ _ _ E3.out
  have r0 := cell_of_row _ w.heap.size 1 _ _ _ E3.out
  go_wp2_with fail
  clear q0 r0
  refine (toBl ta a n ca l (by omega) _ (HRE.out.below B3.out)).mono ?_
  rintro e w4 ⟨gY, rfl, hg, hb⟩
  have B4 := Lib.hid (below_call B3.out B3.out.size hb)
  have E4 := Lib.hid (keep_block E3.out hb)
  have F4 := Lib.hid (keep_block F3.out hb)
  have XG4 := Lib.hid hg
  clear hg
  clear hb
  have LI := (Below.refl w4.heap.size w4).alloc (Nat.le_refl _) (.cells #[.int .u8 ta, .slice (some ⟨gY, 0, none⟩) n n] 27)
  have B5 := Lib.hid (below_call B4.out B4.out.size LI)
  have E5 := Lib.hid (keep_block E4.out LI)
  have F5 := Lib.hid (keep_block F4.out LI)
  have XG5 := Lib.hid (keep_block XG4.out LI)
  have G5 := Lib.hid (heap_alloc_last w4 (.cells #[.int .u8 ta, .slice (some ⟨gY, 0, none⟩) n n] 27))
  clear LI
  have q0 := cell_of_row _ (w.heap.size + 1) 0 _ _ _ F5.out
  have r0 := cell_of_row _ (w.heap.size + 1) 1 _ _ _ F5.out
  go_wp2_with fail
  clear q0 r0
  generalize w4.alloc (.cells #[.int .u8 ta, .slice (some ⟨gY, 0, none⟩) n n] 27) = w5 at B5 E5 F5 XG5 G5 ⊢
  generalize w4.heap.size = gG at G5 ⊢
  refine (toBl tb b m cb k (by omega) _ (HRF.out.below B5.out)).mono ?_
  rintro e w6 ⟨gZ, rfl, hg, hb⟩
  have B6 := Lib.hid (below_call B5.out B5.out.size hb)
  have E6 := Lib.hid (keep_block E5.out hb)
  have F6 := Lib.hid (keep_block F5.out hb)
  have XG6 := Lib.hid (keep_block XG5.out hb)
  have G6 := Lib.hid (keep_block G5.out hb)
  have XH6 := Lib.hid hg
  clear hg hb
  have LI := (Below.refl w6.heap.size w6).alloc (Nat.le_refl _) (.cells #[.int .u8 tb, .slice (some ⟨gZ, 0, none⟩) m m] 27)
  have B7 := Lib.hid (below_call B6.out B6.out.size LI)
  have E7 := Lib.hid (keep_block E6.out LI)
  have F7 := Lib.hid (keep_block F6.out LI)
  have XG7 := Lib.hid (keep_block XG6.out LI)
  have G7 := Lib.hid (keep_block G6.out LI)
  have XH7 := Lib.hid (keep_block XH6.out LI)
  have H7 := Lib.hid (heap_alloc_last w6 (.cells #[.int .u8 tb, .slice (some ⟨gZ, 0, none⟩) m m] 27))
  clear LI
  have q0 := cell_of_row _ gG 0 _ _ _ G7.out
  have r0 := cell_of_row _ gG 1 _ _ _ G7.out
  go_wp2_with fail
  clear q0 r0
  generalize w6.alloc (.cells #[.int .u8 tb, .slice (some ⟨gZ, 0, none⟩) m m] 27) = w7 at B7 E7 F7 XG7 G7 XH7 H7 ⊢
  generalize w6.heap.size = gH at H7 ⊢
  refine (HIM.out gY gZ _ XG7.out XH7.out).mono ?_
  rintro e w8 ⟨rfl, hb⟩
  have B8 := Lib.hid (below_call B7.out B7.out.size hb)
  have E8 := Lib.hid (keep_block E7.out hb)
  have F8 := Lib.hid (keep_block F7.out hb)
  have XG8 := Lib.hid (keep_block XG7.out hb)
  have G8 := Lib.hid (keep_block G7.out hb)
  have XH8 := Lib.hid (keep_block XH7.out hb)
  have H8 := Lib.hid (keep_block H7.out hb)
  clear hb
  go_upto_region 14 with fail
  refine wp_region_held_drew (S := Below (w8).heap.size (w8)) (by kernel_rfl) ((Below.refl _ _).drew) (fun hS => ?_)
  refine takeS (i := 0) (v := .agg #[.int .u8 ta, .slice (some ⟨gY, 0, none⟩) n n]) rfl rfl (by kernel_rfl) (by kernel_rfl) (by kernel_rfl) (fun _ _ _ h => h) (Or.inl ⟨by rfl, fun U hU => by have q0 := cell_of_row _ gG 0 _ _ _ (keep_block G8.out hU); have q1 := cell_of_row _ gG 1 _ _ _ (keep_block G8.out hU); go_simp⟩) hS ?_
  try simp only [List.setIfInBounds_toArray, List.set_cons_zero, List.set_cons_succ]
  refine takeS (i := 1) (v := .agg #[.int .u8 ta, .slice a n ca]) rfl rfl (by kernel_rfl) (by kernel_rfl) (by kernel_rfl) (fun _ _ _ h => h) (Or.inl ⟨by rfl, fun U hU => by have q0 := cell_of_row _ w.heap.size 0 _ _ _ (keep_block E8.out hU); have q1 := cell_of_row _ w.heap.size 1 _ _ _ (keep_block E8.out hU); go_simp⟩) hS ?_
  try simp only [List.setIfInBounds_toArray, List.set_cons_zero, List.set_cons_succ]
  refine wpAnyH_ready (rs := [2]) (by kernel_rfl) (by simp) ?_
  refine AllReadyH.cons rfl (fun KQ hK => ?_) AllReadyH.nil
  rw [if_pos (by rfl)]
  go_simp
  refine (toBl ta a n ca l (by omega) _ (HRE.out.below (below_call B8.out B8.out.size hS))).mono ?_
  rintro e wA ⟨gA, rfl, hg, hb⟩
  have YA := Lib.hid hg
  have XA := Lib.hid (keep_block XG8.out (below_call hS hS.size hb))
  clear hg
  refine hK.out _ _ (below_call hS hS.size hb) (fun hS => ?_)
  clear hb hK
  refine wpAnyH_ready (rs := [3]) (by kernel_rfl) (by simp) ?_
  refine AllReadyH.cons rfl (fun KQ hK => ?_) AllReadyH.nil
  rw [if_pos (by rfl)]
  go_simp
  refine (eqBl ta _ _ n n n l (by omega) _ (rdb HLE.out XA.out) (rdb HLE.out YA.out)).mono ?_
  rintro e w9 ⟨rfl, hb⟩
  refine hK.out _ _ (below_call hS hS.size hb) (fun hS => ?_)
  clear hb hK
  refine takeS (i := 4) (v := .bool false) rfl rfl (by kernel_rfl) (by kernel_rfl) (by kernel_rfl) (fun _ _ _ h => h) (Or.inl ⟨by rfl, fun U hU => by go_simp⟩) hS ?_
  try simp only [List.setIfInBounds_toArray, List.set_cons_zero, List.set_cons_succ]
  refine wpAnyH_done (by kernel_rfl) ?_ _
  have B9 := Lib.hid (below_call B8.out B8.out.size hS)
  have E9 := Lib.hid (keep_block E8.out hS)
  have F9 := Lib.hid (keep_block F8.out hS)
  have XG9 := Lib.hid (keep_block XG8.out hS)
  have G9 := Lib.hid (keep_block G8.out hS)
  have XH9 := Lib.hid (keep_block XH8.out hS)
  have H9 := Lib.hid (keep_block H8.out hS)
  clear hS XA YA
  go_upto_region 16 with fail
  refine wp_region_held_drew (S := Below (w9).heap.size (w9)) (by kernel_rfl) ((Below.refl _ _).drew) (fun hS => ?_)
  refine takeS (i := 0) (v := .agg #[.int .u8 tb, .slice (some ⟨gZ, 0, none⟩) m m]) rfl rfl (by kernel_rfl) (by kernel_rfl) (by kernel_rfl) (fun _ _ _ h => h) (Or.inl ⟨by rfl, fun U hU => by have q0 := cell_of_row _ gH 0 _ _ _ (keep_block H9.out hU); have q1 := cell_of_row _ gH 1 _ _ _ (keep_block H9.out hU); go_simp⟩) hS ?_
  try simp only [List.setIfInBounds_toArray, List.set_cons_zero, List.set_cons_succ]
  refine takeS (i := 1) (v := .agg #[.int .u8 tb, .slice b m cb]) rfl rfl (by kernel_rfl) (by kernel_rfl) (by kernel_rfl) (fun _ _ _ h => h) (Or.inl ⟨by rfl, fun U hU => by have q0 := cell_of_row _ (w.heap.size + 1) 0 _ _ _ (keep_block F9.out hU); have q1 := cell_of_row _ (w.heap.size + 1) 1 _ _ _ (keep_block F9.out hU); go_simp⟩) hS ?_
  try simp only [List.setIfInBounds_toArray, List.set_cons_zero, List.set_cons_succ]
  refine wpAnyH_ready (rs := [2]) (by kernel_rfl) (by simp) ?_
  refine AllReadyH.cons rfl (fun KQ hK => ?_) AllReadyH.nil
  rw [if_pos (by rfl)]
  go_simp
  refine (toBl tb b m cb k (by omega) _ (HRF.out.below (below_call B9.out B9.out.size hS))).mono ?_
  rintro e wA ⟨gA, rfl, hg, hb⟩
  have YA := Lib.hid hg
  have XA := Lib.hid (keep_block XH9.out (below_call hS hS.size hb))
  clear hg
  refine hK.out _ _ (below_call hS hS.size hb) (fun hS => ?_)
  clear hb hK
  refine wpAnyH_ready (rs := [3]) (by kernel_rfl) (by simp) ?_
  refine AllReadyH.cons rfl (fun KQ hK => ?_) AllReadyH.nil
  rw [if_pos (by rfl)]
  go_simp
  refine (eqBl tb _ _ m m m k (by omega) _ (rdb HLF.out XA.out) (rdb HLF.out YA.out)).mono ?_
  rintro e w10 ⟨rfl, hb⟩
  refine hK.out _ _ (below_call hS hS.size hb) (fun hS => ?_)
  clear hb hK
  refine takeS (i := 4) (v := .bool false) rfl rfl (by kernel_rfl) (by kernel_rfl) (by kernel_rfl) (fun _ _ _ h => h) (Or.inl ⟨by rfl, fun U hU => by go_simp⟩) hS ?_
  try simp only [List.setIfInBounds_toArray, List.set_cons_zero, List.set_cons_succ]
  refine wpAnyH_done (by kernel_rfl) ?_ _
  have B10 := Lib.hid (below_call B9.out B9.out.size hS)
  have E10 := Lib.hid (keep_block E9.out hS)
  have F10 := Lib.hid (keep_block F9.out hS)
  have XG10 := Lib.hid (keep_block XG9.out hS)
  have G10 := Lib.hid (keep_block G9.out hS)
  have XH10 := Lib.hid (keep_block XH9.out hS)
  have H10 := Lib.hid (keep_block H9.out hS)
  clear hS XA YA
  go_wp2
  go_ret
  exact ⟨rfl, B10.out⟩
set_option maxRecDepth 100000 in
set_option maxHeartbeats 2000000 in
theorem FnExactSameBlob_out1 (ta tb : Int) (a b : Option Addr) (n m ca cb : Nat) (hm : n ≤ maxLen) (h : ¬ n ≤ 1048576) (w : World) :
    Calls Try.prog 4 #[.agg #[.int .u8 ta, .slice a n ca], .agg #[.int .u8 tb, .slice b m cb]] w fun e w' => e = .returned (.bool true) ∧ Below w.heap.size w w' := by
  unfold maxLen at hm
  have A0 := heap_alloc2_old w (.cells #[.int .u8 ta, .slice a n ca] 24) (.cells #[.int .u8 tb, .slice b m cb] 24)
  have A1 := heap_alloc2_new w (.cells #[.int .u8 ta, .slice a n ca] 24) (.cells #[.int .u8 tb, .slice b m cb] 24)
  have B0' := ((Below.refl w.heap.size w).alloc (Nat.le_refl _) (.cells #[.int .u8 ta, .slice a n ca] 24)).alloc (by simp) (.cells #[.int .u8 tb, .slice b m cb] 24)
  obtain ⟨w0, hw0⟩ : ∃ w0, (w.alloc (.cells #[.int .u8 ta, .slice a n ca] 24)).alloc (.cells #[.int .u8 tb, .slice b m cb] 24) = w0 := ⟨_, rfl⟩
  rw [hw0] at A0 A1 B0'
  have E0 := Lib.hid A0
  have F0 := Lib.hid A1
  have B0 := Lib.hid B0'
  have q0 := cell_of_row _ w.heap.size 0 _ _ _ A0
  have q1 := cell_of_row _ w.heap.size 1 _ _ _ A0
  clear A0 A1 B0'
  go_enter Try.func4, Try.ntmps4
  go_wp2_with fail
  clear hw0
  refine (szBl_out ta a n ca 1048576 (by omega) (by omega) (by omega) (by omega) _).mono ?_
  rintro e w1 ⟨rfl, hb⟩
  have B1 := Lib.hid (below_call B0.out B0.out.size hb)
  clear hb
  go_wp2
  go_ret
  exact ⟨rfl, B1.out⟩
set_option maxRecDepth 100000 in
set_option maxHeartbeats 2000000 in
theorem FnExactSameBlob_out2 (ta tb : Int) (a b : Option Addr) (n m ca cb : Nat) (hm : m ≤ maxLen) (h : n ≤ 1048576) (h2 : ¬ n + m ≤ 1048576) (w : World) :
    Calls Try.prog 4 #[.agg #[.int .u8 ta, .slice a n ca], .agg #[.int .u8 tb, .slice b m cb]] w fun e w' => e = .returned (.bool true) ∧ Below w.heap.size w w' := by
  unfold maxLen at hm
  have A0 := heap_alloc2_old w (.cells #[.int .u8 ta, .slice a n ca] 24) (.cells #[.int .u8 tb, .slice b m cb] 24)
  have A1 := heap_alloc2_new w (.cells #[.int .u8 ta, .slice a n ca] 24) (.cells #[.int .u8 tb, .slice b m cb] 24)
  have B0' := ((Below.refl w.heap.size w).alloc (Nat.le_refl _) (.cells #[.int .u8 ta, .slice a n ca] 24)).alloc (by simp) (.cells #[.int .u8 tb, .slice b m cb] 24)
  obtain ⟨w0, hw0⟩ : ∃ w0, (w.alloc (.cells #[.int .u8 ta, .slice a n ca] 24)).alloc (.cells #[.int .u8 tb, .slice b m cb] 24) = w0 := ⟨_, rfl⟩
  rw [hw0] at A0 A1 B0'
  have E0 := Lib.hid A0
  have F0 := Lib.hid A1
  have B0 := Lib.hid B0'
  have q0 := cell_of_row _ w.heap.size 0 _ _ _ A0
  have q1 := cell_of_row _ w.heap.size 1 _ _ _ A0
  have q0' : ¬ (1048576 : Int) - (n : Int) < 0 := by omega
  clear A0 A1 B0'
  go_enter Try.func4, Try.ntmps4
  go_wp2_with fail
  clear hw0 q0 q1
  refine (szBl_in ta a n ca 1048576 (by omega) (by omega) (by omega) _).mono ?_
  rintro e w1 ⟨rfl, hb⟩
  have B1 := Lib.hid (below_call B0.out B0.out.size hb)
  have F1 := Lib.hid (keep_block F0.out hb)
  clear hb
  have q0 := cell_of_row _ (w.heap.size + 1) 0 _ _ _ F1.out
  have q1 := cell_of_row _ (w.heap.size + 1) 1 _ _ _ F1.out
  go_wp2_with fail
  clear q0 q1
  refine (szBl_out tb b m cb (1048576 - (n : Int)) (by omega) (by omega) (by omega) (by omega) _).mono ?_
  rintro e w2 ⟨rfl, hb⟩
  have B2 := Lib.hid (below_call B1.out B1.out.size hb)
  clear hb
  go_wp2
  go_ret
  exact ⟨rfl, B2.out⟩
theorem FnExactSameBlob_walk (ta : Int) (a : Option Addr) (n ca : Nat) (zs : List Int) (tb : Int) (b : Option Addr) (m cb : Nat) (ys : List Int) (w : World) (f : IsRow .u8 w a n ca zs) (g : (Lit.int .u8 ta).wf = true) (f2 : IsRow .u8 w b m cb ys) (g2 : (Lit.int .u8 tb).wf = true) :
    Calls Try.prog 4 #[.agg #[.int .u8 ta, .slice a n ca], .agg #[.int .u8 tb, .slice b m cb]] w fun e w' => e = .returned (.bool true) ∧ Below w.heap.size w w' := by
  have hm := row_len f
  have hm2 := row_len f2
  by_cases h : n ≤ 1048576
  · by_cases h2 : n + m ≤ 1048576
    · have fl : ∀ z ∈ zs.take n, 0 ≤ z ∧ z ≤ 255 := fun z hz => bounds_u8 (rd_wf f z hz)
      have fk : ∀ z ∈ ys.take m, 0 ≤ z ∧ z ≤ 255 := fun z hz => bounds_u8 (rd_wf f2 z hz)
      have hr := rd_of_row f
      have hr2 := rd_of_row f2
      exact FnExactSameBlob_in ta tb a b n m ca cb (zs.take n) (ys.take m) (decide (ta = tb ∧ zs.take n = ys.take m)) h2 w hr hr2 (fun x y U h1 h3 => sb_spec ta tb x y n m _ _ U (by omega) (by omega) hr.1 hr2.1 fl fk h1 h3) (fun x y U h1 h3 => sb_impl ta tb x y n m _ _ U (by omega) (by omega) hr.1 hr2.1 fl fk h1 h3)
    · exact FnExactSameBlob_out2 ta tb a b n m ca cb hm2 h h2 w
  · exact FnExactSameBlob_out1 ta tb a b n m ca cb hm h w
end Go.Proofs.Ythehgifanieokaa
