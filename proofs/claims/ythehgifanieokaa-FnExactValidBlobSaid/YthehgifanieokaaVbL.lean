/- The statement on FnExactValidBlob: its walk. Written by wip/gen/bloblaw.py. -/
import Derived.Test.YthehgifanieokaaBlobK
namespace Go.Proofs.Ythehgifanieokaa
open Go.ChangeShapes Go.WideShapes Go.ChangeAt Go.RowKit
set_option linter.unusedVariables false
set_option linter.unusedSimpArgs false
theorem rdb {w : World} {g n : Nat} {l : List Int} {T : TypeId} (hl : l.length = n) (h : w.heap[g]? = some (.cells (ints .u8 l) T)) : Rd .u8 w (some ⟨g, 0, none⟩) n l := by
  have := Rd.row h
  rw [hl] at this
  exact this
set_option maxRecDepth 100000 in
set_option maxHeartbeats 8000000 in
theorem FnExactValidBlob_in (ta : Int) (a : Option Addr) (n ca : Nat) (l : List Int) (VV : Bool) (h : n ≤ 1048576) (w : World) (hr : Rd .u8 w a n l)
    (hs : ∀ (g : Nat) (U : World), U.heap[g]? = some (.cells (ints .u8 l) 5) → Calls Try.prog 16 #[.agg #[.int .u8 ta, .slice (some ⟨g, 0, none⟩) n n]] U fun e w' => e = .returned (.bool VV) ∧ Below U.heap.size U w')
    (hi : ∀ (g : Nat) (U : World), U.heap[g]? = some (.cells (ints .u8 l) 5) → Calls Try.prog 18 #[.agg #[.int .u8 ta, .slice (some ⟨g, 0, none⟩) n n]] U fun e w' => e = .returned (.bool VV) ∧ Below U.heap.size U w') :
    Calls Try.prog 3 #[.agg #[.int .u8 ta, .slice a n ca]] w fun e w' => e = .returned (.bool true) ∧ Below w.heap.size w w' := by
  have A0 := heap_alloc_last w (.cells #[.int .u8 ta, .slice a n ca] 24)
  have B0' := (Below.refl w.heap.size w).alloc (Nat.le_refl _) (.cells #[.int .u8 ta, .slice a n ca] 24)
  obtain ⟨w0, hw0⟩ : ∃ w0, w.alloc (.cells #[.int .u8 ta, .slice a n ca] 24) = w0 := ⟨_, rfl⟩
  rw [hw0] at A0 B0'
  have E0 := Lib.hid A0
  have B0 := Lib.hid B0'
  have HRE := Lib.hid hr
  have HLE := Lib.hid hr.1
  have HSP := Lib.hid hs
  have HIM := Lib.hid hi
  have q0' : ¬ (1048576 : Int) - (n : Int) < 0 := by omega
  clear hr hs hi A0 B0'
  go_enter Try.func3, Try.ntmps3
  have q0 := cell_of_row _ w.heap.size 0 _ _ _ E0.out
  have r0 := cell_of_row _ w.heap.size 1 _ _ _ E0.out
  go_wp2_with fail
  clear q0 r0
  refine (szBl_in ta a n ca 1048576 (by omega) (by omega) (by omega) _).mono ?_
  rintro e w1 ⟨rfl, hb⟩
  have B1 := Lib.hid (below_call B0.out B0.out.size hb)
  have E1 := Lib.hid (keep_block E0.out hb)
  clear hw0
  clear hb
  have q0 := cell_of_row _ w.heap.size 0 _ _ _ E1.out
  have r0 := cell_of_row _ w.heap.size 1 _ _ _ E1.out
  go_wp2_with fail
  clear q0 r0
  refine (toBl ta a n ca l (by omega) _ (HRE.out.below B1.out)).mono ?_
  rintro e w2 ⟨gX, rfl, hg, hb⟩
  have B2 := Lib.hid (below_call B1.out B1.out.size hb)
  have E2 := Lib.hid (keep_block E1.out hb)
  have X2 := Lib.hid hg
  clear hg
  clear hb
  go_wp2_with fail
  refine (HSP.out gX _ X2.out).mono ?_
  rintro e w3 ⟨rfl, hb⟩
  have B3 := Lib.hid (below_call B2.out B2.out.size hb)
  have E3 := Lib.hid (keep_block E2.out hb)
  clear hb
  have q0 := cell_of_row _ w.heap.size 0 _ _ _ E3.out
  have r0 := cell_of_row _ w.heap.size 1 _ _ _ E3.out
  go_wp2_with fail
  clear q0 r0
  refine (toBl ta a n ca l (by omega) _ (HRE.out.below B3.out)).mono ?_
  rintro e w4 ⟨gY, rfl, hg, hb⟩
  have B4 := Lib.hid (below_call B3.out B3.out.size hb)
  have E4 := Lib.hid (keep_block E3.out hb)
  have XF4 := Lib.hid hg
  clear hg
  clear hb
  have LI := (Below.refl w4.heap.size w4).alloc (Nat.le_refl _) (.cells #[.int .u8 ta, .slice (some ⟨gY, 0, none⟩) n n] 27)
  have B5 := Lib.hid (below_call B4.out B4.out.size LI)
  have E5 := Lib.hid (keep_block E4.out LI)
  have XF5 := Lib.hid (keep_block XF4.out LI)
  have F5 := Lib.hid (heap_alloc_last w4 (.cells #[.int .u8 ta, .slice (some ⟨gY, 0, none⟩) n n] 27))
  clear LI
  go_wp2_with fail
  generalize w4.alloc (.cells #[.int .u8 ta, .slice (some ⟨gY, 0, none⟩) n n] 27) = w5 at B5 E5 XF5 F5 ⊢
  generalize w4.heap.size = gF at F5 ⊢
  refine (HIM.out gY _ XF5.out).mono ?_
  rintro e w6 ⟨rfl, hb⟩
  have B6 := Lib.hid (below_call B5.out B5.out.size hb)
  have E6 := Lib.hid (keep_block E5.out hb)
  have XF6 := Lib.hid (keep_block XF5.out hb)
  have F6 := Lib.hid (keep_block F5.out hb)
  clear hb
  go_upto_region 10 with fail
  refine wp_region_held_drew (S := Below (w6).heap.size (w6)) (by kernel_rfl) ((Below.refl _ _).drew) (fun hS => ?_)
  refine takeS (i := 0) (v := .agg #[.int .u8 ta, .slice (some ⟨gY, 0, none⟩) n n]) rfl rfl (by kernel_rfl) (by kernel_rfl) (by kernel_rfl) (fun _ _ _ h => h) (Or.inl ⟨by rfl, fun U hU => by have q0 := cell_of_row _ gF 0 _ _ _ (keep_block F6.out hU); have q1 := cell_of_row _ gF 1 _ _ _ (keep_block F6.out hU); go_simp⟩) hS ?_
  try simp only [List.setIfInBounds_toArray, List.set_cons_zero, List.set_cons_succ]
  refine takeS (i := 1) (v := .agg #[.int .u8 ta, .slice a n ca]) rfl rfl (by kernel_rfl) (by kernel_rfl) (by kernel_rfl) (fun _ _ _ h => h) (Or.inl ⟨by rfl, fun U hU => by have q0 := cell_of_row _ w.heap.size 0 _ _ _ (keep_block E6.out hU); have q1 := cell_of_row _ w.heap.size 1 _ _ _ (keep_block E6.out hU); go_simp⟩) hS ?_
  try simp only [List.setIfInBounds_toArray, List.set_cons_zero, List.set_cons_succ]
  refine wpAnyH_ready (rs := [2]) (by kernel_rfl) (by simp) ?_
  refine AllReadyH.cons rfl (fun KQ hK => ?_) AllReadyH.nil
  rw [if_pos (by rfl)]
  go_simp
  refine (toBl ta a n ca l (by omega) _ (HRE.out.below (below_call B6.out B6.out.size hS))).mono ?_
  rintro e wA ⟨gA, rfl, hg, hb⟩
  have YA := Lib.hid hg
  have XA := Lib.hid (keep_block XF6.out (below_call hS hS.size hb))
  clear hg
  refine hK.out _ _ (below_call hS hS.size hb) (fun hS => ?_)
  clear hb hK
  refine wpAnyH_ready (rs := [3]) (by kernel_rfl) (by simp) ?_
  refine AllReadyH.cons rfl (fun KQ hK => ?_) AllReadyH.nil
  rw [if_pos (by rfl)]
  go_simp
  refine (eqBl ta _ _ n n n l (by omega) _ (rdb HLE.out XA.out) (rdb HLE.out YA.out)).mono ?_
  rintro e w7 ⟨rfl, hb⟩
  refine hK.out _ _ (below_call hS hS.size hb) (fun hS => ?_)
  clear hb hK
  refine takeS (i := 4) (v := .bool false) rfl rfl (by kernel_rfl) (by kernel_rfl) (by kernel_rfl) (fun _ _ _ h => h) (Or.inl ⟨by rfl, fun U hU => by go_simp⟩) hS ?_
  try simp only [List.setIfInBounds_toArray, List.set_cons_zero, List.set_cons_succ]
  refine wpAnyH_done (by kernel_rfl) ?_ _
  have B7 := Lib.hid (below_call B6.out B6.out.size hS)
  have E7 := Lib.hid (keep_block E6.out hS)
  have XF7 := Lib.hid (keep_block XF6.out hS)
  have F7 := Lib.hid (keep_block F6.out hS)
  clear hS XA YA
  go_wp2
  go_ret
  exact ⟨rfl, B7.out⟩
set_option maxRecDepth 100000 in
set_option maxHeartbeats 2000000 in
theorem FnExactValidBlob_out (ta : Int) (a : Option Addr) (n ca : Nat) (hm : n ≤ maxLen) (h : ¬ n ≤ 1048576) (w : World) :
    Calls Try.prog 3 #[.agg #[.int .u8 ta, .slice a n ca]] w fun e w' => e = .returned (.bool true) ∧ Below w.heap.size w w' := by
  unfold maxLen at hm
  have A0 := heap_alloc_last w (.cells #[.int .u8 ta, .slice a n ca] 24)
  have B0' := (Below.refl w.heap.size w).alloc (Nat.le_refl _) (.cells #[.int .u8 ta, .slice a n ca] 24)
  obtain ⟨w0, hw0⟩ : ∃ w0, w.alloc (.cells #[.int .u8 ta, .slice a n ca] 24) = w0 := ⟨_, rfl⟩
  rw [hw0] at A0 B0'
  have E0 := Lib.hid A0
  have B0 := Lib.hid B0'
  have q0 := cell_of_row _ w.heap.size 0 _ _ _ A0
  have q1 := cell_of_row _ w.heap.size 1 _ _ _ A0
  clear A0 B0'
  go_enter Try.func3, Try.ntmps3
  go_wp2_with fail
  clear hw0
  refine (szBl_out ta a n ca 1048576 (by omega) (by omega) (by omega) (by omega) _).mono ?_
  rintro e w1 ⟨rfl, hb⟩
  have B1 := Lib.hid (below_call B0.out B0.out.size hb)
  clear hb
  go_wp2
  go_ret
  exact ⟨rfl, B1.out⟩
theorem FnExactValidBlob_walk (ta : Int) (a : Option Addr) (n ca : Nat) (zs : List Int) (w : World) (f : IsRow .u8 w a n ca zs) (g : (Lit.int .u8 ta).wf = true) :
    Calls Try.prog 3 #[.agg #[.int .u8 ta, .slice a n ca]] w fun e w' => e = .returned (.bool true) ∧ Below w.heap.size w w' := by
  have hm := row_len f
  by_cases h : n ≤ 1048576
  · have fl : ∀ z ∈ zs.take n, 0 ≤ z ∧ z ≤ 255 := fun z hz => bounds_u8 (rd_wf f z hz)
    have hr := rd_of_row f
    have ht := bounds_u8 g
    exact FnExactValidBlob_in ta a n ca (zs.take n) (blB n) h w hr (fun g U hU => vb_spec ta _ n n h U) (fun g U hU => vb_impl ta _ n n h U)
  · exact FnExactValidBlob_out ta a n ca hm h w
end Go.Proofs.Ythehgifanieokaa
