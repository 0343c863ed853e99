/- The statement on SameCutter: its walk. -/
import Derived.Test.YtdhjnpafijockaaSameC
namespace Go.Proofs.Ytdhjnpafijockaa
open Go.ChangeShapes Go.WideShapes Go.ChangeAt Go.RowKit
set_option linter.unusedVariables false
set_option maxRecDepth 100000 in
set_option maxHeartbeats 8000000 in
theorem same_law_in (x0 x1 x2 y0 y1 y2 : Int) (a b : Option Addr) (n m ca cb : Nat) (l k : List Int) (c d : Int) (hnm : n + m ≤ 1048576) (w : World) (hr : Rd .u8 w a n l) (hs : Rd .u8 w b m k) (fl : ∀ z ∈ l, 0 ≤ z ∧ z ≤ 255) (fk : ∀ z ∈ k, 0 ≤ z ∧ z ≤ 255) :
    Calls Try.prog 5 #[.agg #[.int .i64 x0, .int .i64 x1, .int .i64 x2, .int .u32 c, .slice a n ca], .agg #[.int .i64 y0, .int .i64 y1, .int .i64 y2, .int .u32 d, .slice b m cb]] w fun e w' => e = .returned (.bool true) ∧ Below w.heap.size w w' := by
  have Hr := Lib.hid hr
  have Hs := Lib.hid hs
  have Fl := Lib.hid fl
  have Fk := Lib.hid fk
  clear hr hs fl fk
  have hn : n ≤ 1048576 := by omega
  have hm : m ≤ 1048576 := by omega
  generalize hv : (decide ([x0, x1, x2] = [y0, y1, y2]) && (decide (c = d) && decide (l = k))) = V
  have HV := Lib.hid hv
  clear hv
  go_enter Try.func5, Try.ntmps5
  go_wp2_with fail
  refine (szC_in _ _ _ _ a n ca 1048576 (by omega) (by omega) (by omega) _).mono ?_
  rintro e w1 ⟨rfl, hb⟩
  have L1 := Lib.hid ((((Below.refl w.heap.size w).alloc (by simp) _).alloc (by simp) _).trans (hb.mono (by simp; omega)))
  have A1 := Lib.hid (keep_block (heap_alloc2_old w (.cells #[.int .i64 x0, .int .i64 x1, .int .i64 x2, .int .u32 c, .slice a n ca] 37) (.cells #[.int .i64 y0, .int .i64 y1, .int .i64 y2, .int .u32 d, .slice b m cb] 37)) hb)
  have B1 := Lib.hid (keep_block (heap_alloc2_new w (.cells #[.int .i64 x0, .int .i64 x1, .int .i64 x2, .int .u32 c, .slice a n ca] 37) (.cells #[.int .i64 y0, .int .i64 y1, .int .i64 y2, .int .u32 d, .slice b m cb] 37)) hb)
  clear hb
  go_wp2_with (refine wpList_load_row rfl 37 (.tmp 3) rfl (w.heap.size + 1) rfl 37 #[.int .i64 y0, .int .i64 y1, .int .i64 y2, .int .u32 d, .slice b m cb] (0, 0) _ B1.out Try.underlying37 rfl sizeCl ?_)
  refine (szC_in _ _ _ _ b m cb _ (by omega) (by omega) (by omega) _).mono ?_
  rintro e w2 ⟨rfl, hb⟩
  have L2 := Lib.hid (below_call L1.out L1.out.size hb)
  have A2 := Lib.hid (keep_block A1.out hb)
  have B2 := Lib.hid (keep_block B1.out hb)
  clear hb
  go_wp2_with fail
  refine wp_region_held_drew (S := Below w2.heap.size w2) (by kernel_rfl) ((Below.refl _ _).drew) (fun hS => ?_)
  refine wpAnyH_take (i := 0) (v := _) rfl (by kernel_rfl) (by kernel_rfl) (by kernel_rfl) (fun _ _ _ h => h) (yields_box (by rfl) 37 _ rfl w.heap.size rfl _ 37 _ A2.out Try.underlying37 rfl sizeCl) hS ?_
  refine wpAnyH_take (i := 2) (v := _) rfl (by kernel_rfl) (by kernel_rfl) (by kernel_rfl) (fun _ _ _ h => h) (yields_box (by rfl) 37 _ rfl (w.heap.size + 1) rfl _ 37 _ B2.out Try.underlying37 rfl sizeCl) hS ?_
  refine wpAnyH_ready (rs := [1]) (by kernel_rfl) (by simp) ?_
  refine AllReadyH.cons rfl (fun K hK => ?_) AllReadyH.nil
  rw [if_pos (by rfl)]
  go_simp
  refine (toC _ _ _ _ a n ca l hn _ (Hr.out.below (below_call L2.out L2.out.size hS))).mono ?_
  rintro e w3 ⟨_, rfl, hg3, hb⟩
  have S3 := below_call hS hS.size hb
  refine hK.out _ _ S3 (fun hS => ?_)
  clear hb hK
  refine wpAnyH_ready (rs := [3]) (by kernel_rfl) (by simp) ?_
  refine AllReadyH.cons rfl (fun K hK => ?_) AllReadyH.nil
  rw [if_pos (by rfl)]
  go_simp
  refine (toC _ _ _ _ b m cb k hm _ (Hs.out.below (below_call L2.out L2.out.size S3))).mono ?_
  rintro e w4 ⟨_, rfl, hg4, hb⟩
  have S4 := below_call S3 S3.size hb
  have hg3' := keep_block hg3 hb
  refine hK.out _ _ S4 (fun hS => ?_)
  clear hb hK
  refine wpAnyH_ready (rs := [4]) (by kernel_rfl) (by simp) ?_
  refine AllReadyH.cons rfl (fun K hK => ?_) AllReadyH.nil
  rw [if_pos (by rfl)]
  go_simp
  refine (same_spec _ _ _ _ _ _ _ _ n m l k c d _ hn hm Hr.out.1 Hs.out.1 Fl.out Fk.out hg3' hg4).mono ?_
  rw [HV.out]
  rintro e w5 ⟨rfl, hb⟩
  have S5 := below_call S4 S4.size hb
  refine hK.out _ _ S5 (fun hS => ?_)
  clear hb hK
  refine wpAnyH_ready (rs := [5]) (by kernel_rfl) (by simp) ?_
  refine AllReadyH.cons rfl (fun K hK => ?_) AllReadyH.nil
  rw [if_pos (by rfl)]
  go_simp
  refine hK.out _ _ S5 (fun hS => ?_)
  refine wpAnyH_done (by kernel_rfl) ?_ _
  have L5 := Lib.hid (below_call L2.out L2.out.size S5)
  have A5 := Lib.hid (keep_block A2.out S5)
  have B5 := Lib.hid (keep_block B2.out S5)
  clear S3 S4 S5 hg3 hg3' hg4 hK hS
  go_wp2_with (refine wpList_load_row rfl 37 (.tmp 2) rfl w.heap.size rfl 37 #[.int .i64 x0, .int .i64 x1, .int .i64 x2, .int .u32 c, .slice a n ca] (0, 0) _ A5.out Try.underlying37 rfl sizeCl ?_)
  refine (toC _ _ _ _ a n ca l hn _ (Hr.out.below L5.out)).mono ?_
  rintro e w6 ⟨g6, rfl, hg, hb⟩
  have L6 := Lib.hid ((below_call L5.out L5.out.size hb).alloc (Nat.le_trans L5.out.size hb.size) (.cells #[.int .i64 x0, .int .i64 x1, .int .i64 x2, .int .u32 c, .slice (some ⟨g6, 0, none⟩) n n] 31))
  have A6 := Lib.hid ((Below.heap_alloc w6 (.cells #[.int .i64 x0, .int .i64 x1, .int .i64 x2, .int .u32 c, .slice (some ⟨g6, 0, none⟩) n n] 31) _ (Array.getElem?_eq_some_iff.1 (keep_block A5.out hb)).1).trans (keep_block A5.out hb))
  have B6 := Lib.hid ((Below.heap_alloc w6 (.cells #[.int .i64 x0, .int .i64 x1, .int .i64 x2, .int .u32 c, .slice (some ⟨g6, 0, none⟩) n n] 31) _ (Array.getElem?_eq_some_iff.1 (keep_block B5.out hb)).1).trans (keep_block B5.out hb))
  have G6 := Lib.hid ((Below.heap_alloc w6 (.cells #[.int .i64 x0, .int .i64 x1, .int .i64 x2, .int .u32 c, .slice (some ⟨g6, 0, none⟩) n n] 31) _ (Array.getElem?_eq_some_iff.1 hg).1).trans hg)
  have H6 := Lib.hid (heap_alloc_last w6 (.cells #[.int .i64 x0, .int .i64 x1, .int .i64 x2, .int .u32 c, .slice (some ⟨g6, 0, none⟩) n n] 31))
  clear hb hg
  go_wp2_with (first | (refine wpList_store_row rfl 31 _ _ rfl w6.heap.size #[.int .i64 x0, .int .i64 x1, .int .i64 x2, .int .u32 c, .slice (some ⟨g6, 0, none⟩) n n] rfl rfl 31 #[.int .i64 0, .int .i64 0, .int .i64 0, .int .u32 0, .slice none 0 0] (heap_alloc_last _ _) sizeCi rfl (by simp [Value.oneCell']) ?_; rw [World.setRow_alloc_new]) | (refine wpList_load_row rfl 37 (.tmp 3) rfl (w.heap.size + 1) rfl 37 #[.int .i64 y0, .int .i64 y1, .int .i64 y2, .int .u32 d, .slice b m cb] (0, 0) _ B6.out Try.underlying37 rfl sizeCl ?_))
  refine (toC _ _ _ _ b m cb k hm _ (Hs.out.below L6.out)).mono ?_
  rintro e w7 ⟨g7, rfl, hg, hb⟩
  have L7 := Lib.hid ((below_call L6.out L6.out.size hb).alloc (Nat.le_trans L6.out.size hb.size) (.cells #[.int .i64 y0, .int .i64 y1, .int .i64 y2, .int .u32 d, .slice (some ⟨g7, 0, none⟩) m m] 31))
  have A7 := Lib.hid ((Below.heap_alloc w7 (.cells #[.int .i64 y0, .int .i64 y1, .int .i64 y2, .int .u32 d, .slice (some ⟨g7, 0, none⟩) m m] 31) _ (Array.getElem?_eq_some_iff.1 (keep_block A6.out hb)).1).trans (keep_block A6.out hb))
  have B7 := Lib.hid ((Below.heap_alloc w7 (.cells #[.int .i64 y0, .int .i64 y1, .int .i64 y2, .int .u32 d, .slice (some ⟨g7, 0, none⟩) m m] 31) _ (Array.getElem?_eq_some_iff.1 (keep_block B6.out hb)).1).trans (keep_block B6.out hb))
  have G7 := Lib.hid ((Below.heap_alloc w7 (.cells #[.int .i64 y0, .int .i64 y1, .int .i64 y2, .int .u32 d, .slice (some ⟨g7, 0, none⟩) m m] 31) _ (Array.getElem?_eq_some_iff.1 (keep_block G6.out hb)).1).trans (keep_block G6.out hb))
  have H7 := Lib.hid ((Below.heap_alloc w7 (.cells #[.int .i64 y0, .int .i64 y1, .int .i64 y2, .int .u32 d, .slice (some ⟨g7, 0, none⟩) m m] 31) _ (Array.getElem?_eq_some_iff.1 (keep_block H6.out hb)).1).trans (keep_block H6.out hb))
  have K7 := Lib.hid ((Below.heap_alloc w7 (.cells #[.int .i64 y0, .int .i64 y1, .int .i64 y2, .int .u32 d, .slice (some ⟨g7, 0, none⟩) m m] 31) _ (Array.getElem?_eq_some_iff.1 hg).1).trans hg)
  have J7 := Lib.hid (heap_alloc_last w7 (.cells #[.int .i64 y0, .int .i64 y1, .int .i64 y2, .int .u32 d, .slice (some ⟨g7, 0, none⟩) m m] 31))
  clear hb hg
  go_wp2_with (first | (refine wpList_store_row rfl 31 _ _ rfl w7.heap.size #[.int .i64 y0, .int .i64 y1, .int .i64 y2, .int .u32 d, .slice (some ⟨g7, 0, none⟩) m m] rfl rfl 31 #[.int .i64 0, .int .i64 0, .int .i64 0, .int .u32 0, .slice none 0 0] (heap_alloc_last _ _) sizeCi rfl (by simp [Value.oneCell']) ?_; rw [World.setRow_alloc_new]) | (refine wpList_load_row rfl 31 (.tmp 7) rfl w6.heap.size rfl 31 #[.int .i64 x0, .int .i64 x1, .int .i64 x2, .int .u32 c, .slice (some ⟨g6, 0, none⟩) n n] (0, 0) _ H7.out Try.underlying31 rfl sizeCi ?_) | (refine wpList_load_row rfl 31 (.tmp 8) rfl w7.heap.size rfl 31 #[.int .i64 y0, .int .i64 y1, .int .i64 y2, .int .u32 d, .slice (some ⟨g7, 0, none⟩) m m] (0, 0) _ J7.out Try.underlying31 rfl sizeCi ?_))
  refine (same_impl _ _ _ _ _ _ _ _ n m l k c d _ hn hm Hr.out.1 Hs.out.1 Fl.out Fk.out G7.out K7.out).mono ?_
  rw [HV.out]
  rintro e w8 ⟨rfl, hb⟩
  have L8 := Lib.hid (below_call L7.out L7.out.size hb)
  have A8 := Lib.hid (keep_block A7.out hb)
  have B8 := Lib.hid (keep_block B7.out hb)
  have G8 := Lib.hid (keep_block G7.out hb)
  have H8 := Lib.hid (keep_block H7.out hb)
  have K8 := Lib.hid (keep_block K7.out hb)
  have J8 := Lib.hid (keep_block J7.out hb)
  clear hb
  go_wp2_with fail
  refine wp_region_held_drew (S := Below w8.heap.size w8) (by kernel_rfl) ((Below.refl _ _).drew) (fun hS => ?_)
  refine wpAnyH_take (i := 0) (v := _) rfl (by kernel_rfl) (by kernel_rfl) (by kernel_rfl) (fun _ _ _ h => h) (yields_box (by rfl) 31 _ rfl w6.heap.size rfl _ 31 _ H8.out Try.underlying31 rfl sizeCi) hS ?_
  refine wpAnyH_take (i := 1) (v := _) rfl (by kernel_rfl) (by kernel_rfl) (by kernel_rfl) (fun _ _ _ h => h) (yields_box (by rfl) 37 _ rfl w.heap.size rfl _ 37 _ A8.out Try.underlying37 rfl sizeCl) hS ?_
  refine wpAnyH_ready (rs := [2]) (by kernel_rfl) (by simp) ?_
  refine AllReadyH.cons rfl (fun K hK => ?_) AllReadyH.nil
  rw [if_pos (by rfl)]
  go_simp
  refine (toC _ _ _ _ a n ca l hn _ (Hr.out.below (below_call L8.out L8.out.size hS))).mono ?_
  rintro e v1 ⟨_, rfl, hg6, hb⟩
  have S6 := below_call hS hS.size hb
  refine hK.out _ _ S6 (fun hS => ?_)
  clear hb hK
  refine wpAnyH_ready (rs := [3]) (by kernel_rfl) (by simp) ?_
  refine AllReadyH.cons rfl (fun K hK => ?_) AllReadyH.nil
  rw [if_pos (by rfl)]
  go_simp
  have R1 := Rd.row (keep_block G8.out S6)
  have R2 := Rd.row hg6
  rw [Hr.out.1] at R1 R2
  refine (eqC _ _ _ _ _ _ n n n l (by omega) _ R1 R2).mono ?_
  rintro e v2 ⟨rfl, hb⟩
  have S7 := below_call S6 S6.size hb
  refine hK.out _ _ S7 (fun hS => ?_)
  clear hb hK
  refine wpAnyH_ready (rs := [4]) (by kernel_rfl) (by simp) ?_
  refine AllReadyH.cons rfl (fun K hK => ?_) AllReadyH.nil
  rw [if_pos (by rfl)]
  go_simp
  refine hK.out _ _ S7 (fun hS => ?_)
  refine wpAnyH_done (by kernel_rfl) ?_ _
  have Lx9 := Lib.hid (below_call L8.out L8.out.size S7)
  have Bx9 := Lib.hid (keep_block B8.out S7)
  have Kx9 := Lib.hid (keep_block K8.out S7)
  have Jx9 := Lib.hid (keep_block J8.out S7)
  clear R1 R2 S6 S7 hg6 hK hS
  obtain ⟨w9, hw9⟩ : ∃ z : World, z = v2 := ⟨_, rfl⟩
  subst hw9
  have L9 := Lx9
  have B9 := Bx9
  have K9 := Kx9
  have J9 := Jx9
  go_wp2_with fail
  refine wp_region_held_drew (S := Below w9.heap.size w9) (by kernel_rfl) ((Below.refl _ _).drew) (fun hS => ?_)
  refine wpAnyH_take (i := 0) (v := _) rfl (by kernel_rfl) (by kernel_rfl) (by kernel_rfl) (fun _ _ _ h => h) (yields_box (by rfl) 31 _ rfl w7.heap.size rfl _ 31 _ J9.out Try.underlying31 rfl sizeCi) hS ?_
  refine wpAnyH_take (i := 1) (v := _) rfl (by kernel_rfl) (by kernel_rfl) (by kernel_rfl) (fun _ _ _ h => h) (yields_box (by rfl) 37 _ rfl (w.heap.size + 1) rfl _ 37 _ B9.out Try.underlying37 rfl sizeCl) hS ?_
  refine wpAnyH_ready (rs := [2]) (by kernel_rfl) (by simp) ?_
  refine AllReadyH.cons rfl (fun K hK => ?_) AllReadyH.nil
  rw [if_pos (by rfl)]
  go_simp
  refine (toC _ _ _ _ b m cb k hm _ (Hs.out.below (below_call L9.out L9.out.size hS))).mono ?_
  rintro e v1 ⟨_, rfl, hg6, hb⟩
  have S6 := below_call hS hS.size hb
  refine hK.out _ _ S6 (fun hS => ?_)
  clear hb hK
  refine wpAnyH_ready (rs := [3]) (by kernel_rfl) (by simp) ?_
  refine AllReadyH.cons rfl (fun K hK => ?_) AllReadyH.nil
  rw [if_pos (by rfl)]
  go_simp
  have R1 := Rd.row (keep_block K9.out S6)
  have R2 := Rd.row hg6
  rw [Hs.out.1] at R1 R2
  refine (eqC _ _ _ _ _ _ m m m k (by omega) _ R1 R2).mono ?_
  rintro e v2 ⟨rfl, hb⟩
  have S7 := below_call S6 S6.size hb
  refine hK.out _ _ S7 (fun hS => ?_)
  clear hb hK
  refine wpAnyH_ready (rs := [4]) (by kernel_rfl) (by simp) ?_
  refine AllReadyH.cons rfl (fun K hK => ?_) AllReadyH.nil
  rw [if_pos (by rfl)]
  go_simp
  refine hK.out _ _ S7 (fun hS => ?_)
  refine wpAnyH_done (by kernel_rfl) ?_ _
  have Lx10 := Lib.hid (below_call L9.out L9.out.size S7)
  clear R1 R2 S6 S7 hg6 hK hS
  go_wp2
  go_ret
  exact ⟨rfl, Lx10.out⟩
set_option maxRecDepth 100000 in
set_option maxHeartbeats 2000000 in
theorem same_law_out1 (x0 x1 x2 y0 y1 y2 : Int) (a b : Option Addr) (n m ca cb : Nat) (c d : Int) (hm : n ≤ maxLen) (hn : ¬ n ≤ 1048576) (w : World) :
    Calls Try.prog 5 #[.agg #[.int .i64 x0, .int .i64 x1, .int .i64 x2, .int .u32 c, .slice a n ca], .agg #[.int .i64 y0, .int .i64 y1, .int .i64 y2, .int .u32 d, .slice b m cb]] w fun e w' => e = .returned (.bool true) ∧ Below w.heap.size w w' := by
  unfold maxLen at hm
  have h1 : (1048576 : Int) < (n : Int) := by omega
  go_enter Try.func5, Try.ntmps5
  go_wp2_with fail
  refine (szC_out _ _ _ _ a n ca 1048576 (by omega) (by omega) hm h1 _).mono ?_
  rintro e w1 ⟨rfl, hb⟩
  have L1 := Lib.hid ((((Below.refl w.heap.size w).alloc (by simp) _).alloc (by simp) _).trans (hb.mono (by simp; omega)))
  clear hb
  go_wp2
  go_ret
  exact ⟨rfl, L1.out⟩
set_option maxRecDepth 100000 in
set_option maxHeartbeats 2000000 in
theorem same_law_out2 (x0 x1 x2 y0 y1 y2 : Int) (a b : Option Addr) (n m ca cb : Nat) (c d : Int) (hn : n ≤ 1048576) (hm : m ≤ maxLen) (hnm : ¬ n + m ≤ 1048576) (w : World) :
    Calls Try.prog 5 #[.agg #[.int .i64 x0, .int .i64 x1, .int .i64 x2, .int .u32 c, .slice a n ca], .agg #[.int .i64 y0, .int .i64 y1, .int .i64 y2, .int .u32 d, .slice b m cb]] w fun e w' => e = .returned (.bool true) ∧ Below w.heap.size w w' := by
  unfold maxLen at hm
  go_enter Try.func5, Try.ntmps5
  go_wp2_with fail
  refine (szC_in _ _ _ _ a n ca 1048576 (by omega) (by omega) (by omega) _).mono ?_
  rintro e w1 ⟨rfl, hb⟩
  have L1 := Lib.hid ((((Below.refl w.heap.size w).alloc (by simp) _).alloc (by simp) _).trans (hb.mono (by simp; omega)))
  have B1 := Lib.hid (keep_block (heap_alloc2_new w (.cells #[.int .i64 x0, .int .i64 x1, .int .i64 x2, .int .u32 c, .slice a n ca] 37) (.cells #[.int .i64 y0, .int .i64 y1, .int .i64 y2, .int .u32 d, .slice b m cb] 37)) hb)
  clear hb
  go_wp2_with (refine wpList_load_row rfl 37 (.tmp 3) rfl (w.heap.size + 1) rfl 37 #[.int .i64 y0, .int .i64 y1, .int .i64 y2, .int .u32 d, .slice b m cb] (0, 0) _ B1.out Try.underlying37 rfl sizeCl ?_)
  refine (szC_out _ _ _ _ b m cb _ (by omega) (by omega) hm (by omega) _).mono ?_
  rintro e w2 ⟨rfl, hb⟩
  have L2 := Lib.hid (below_call L1.out L1.out.size hb)
  clear hb
  go_wp2
  go_ret
  exact ⟨rfl, L2.out⟩
theorem FnExactSameCutter_walk (x0 x1 x2 c : Int) (a : Option Addr) (n ca : Nat) (zs : List Int) (y0 y1 y2 d : Int) (b : Option Addr) (m cb : Nat) (ys : List Int) (w : World)
    (f : IsRow .u8 w a n ca zs) (g : ∀ z ∈ [x0, x1, x2], (Lit.int .i64 z).wf = true) (e : (Lit.int .u32 c).wf = true) (f' : IsRow .u8 w b m cb ys) (g' : ∀ z ∈ [y0, y1, y2], (Lit.int .i64 z).wf = true) (e' : (Lit.int .u32 d).wf = true) :
    Calls Try.prog 5 #[.agg #[.int .i64 x0, .int .i64 x1, .int .i64 x2, .int .u32 c, .slice a n ca], .agg #[.int .i64 y0, .int .i64 y1, .int .i64 y2, .int .u32 d, .slice b m cb]] w fun e w' => e = .returned (.bool true) ∧ Below w.heap.size w w' := by
  by_cases hn : n ≤ 1048576
  · by_cases hnm : n + m ≤ 1048576
    · exact same_law_in x0 x1 x2 y0 y1 y2 a b n m ca cb (zs.take n) (ys.take m) c d hnm w (rd_of_row f) (rd_of_row f') (fun z hz => bounds_u8 (rd_wf f z hz)) (fun z hz => bounds_u8 (rd_wf f' z hz))
    · exact same_law_out2 x0 x1 x2 y0 y1 y2 a b n m ca cb c d hn (row_len f') hnm w
  · exact same_law_out1 x0 x1 x2 y0 y1 y2 a b n m ca cb c d (row_len f) hn w
end Go.Proofs.Ytdhjnpafijockaa
