/- The statement on FnExactCommonBits: its walk. Written by wip/gen/twokeys.py. -/
import Derived.Test.YthfokngbjkljdabCommon
namespace Go.Proofs.Ythfokngbjkljdab
open Go.ChangeShapes Go.WideShapes Go.ChangeAt Go.RowKit
set_option linter.unusedVariables false
set_option maxHeartbeats 4000000 in
theorem FnExactCommonBits_walk (a b : List Int) (w : World) (ha : a.length = 32) (fa : ∀ z ∈ a, (Lit.int .u8 z).wf = true) (hb : b.length = 32) (fb : ∀ z ∈ b, (Lit.int .u8 z).wf = true) :
    Calls Try.prog 6 #[.agg (ints .u8 a), .agg (ints .u8 b)] w fun e w' => e = .returned (.bool true) ∧ Below w.heap.size w w' := by
  have Ha := Lib.hid ha
  have Hb := Lib.hid hb
  have Fa := Lib.hid (fun x hx => bounds_u8 (fa x hx))
  have Fb := Lib.hid (fun x hx => bounds_u8 (fb x hx))
  clear ha hb fa fb
  go_enter Try.func6, Try.ntmps6
  go_upto_region 1 with fail
  go_cut [5] (fun s5 wx => s5 = .int .i64 (cbI (xorL a b)) ∧ Below ((w.alloc (.cells (ints .u8 a) 22)).alloc (.cells (ints .u8 b) 22)).heap.size ((w.alloc (.cells (ints .u8 a) 22)).alloc (.cells (ints .u8 b) 22)) wx)
  case first =>
    refine wp_region_held_drew (S := Below ((w.alloc (.cells (ints .u8 a) 22)).alloc (.cells (ints .u8 b) 22)).heap.size ((w.alloc (.cells (ints .u8 a) 22)).alloc (.cells (ints .u8 b) 22))) (by kernel_rfl) ((Below.refl _ _).drew) (fun hS => ?_)
    refine wpAnyH_take (i := 0) (v := _) rfl (by kernel_rfl) (by kernel_rfl) (by kernel_rfl) (fun _ _ _ h => h) (yields_box (by rfl) 22 _ rfl w.heap.size rfl _ 22 _ (heap_alloc2_old _ _ _) Try.underlying22 rfl (by rw [ints_size, Ha.out]; exact sizeA32)) hS ?_
    refine wpAnyH_take (i := 2) (v := _) rfl (by kernel_rfl) (by kernel_rfl) (by kernel_rfl) (fun _ _ _ h => h) (yields_box (by rfl) 22 _ rfl (w.heap.size + 1) rfl _ 22 _ (heap_alloc2_new _ _ _) Try.underlying22 rfl (by rw [ints_size, Hb.out]; exact sizeA32)) hS ?_
    refine wpAnyH_ready (rs := [1]) (by kernel_rfl) (by simp) ?_
    refine AllReadyH.cons rfl (fun K hK => ?_) AllReadyH.nil
    rw [if_pos (by rfl)]
    go_simp
    refine (toKey_ a Ha.out _).mono ?_
    rintro e w1 ⟨rfl, hb⟩
    refine hK.out _ _ (below_call hS hS.size hb) (fun hS => ?_)
    clear hb hK
    refine wpAnyH_ready (rs := [3]) (by kernel_rfl) (by simp) ?_
    refine AllReadyH.cons rfl (fun K hK => ?_) AllReadyH.nil
    rw [if_pos (by rfl)]
    go_simp
    refine (toKey_ b Hb.out _).mono ?_
    rintro e w2 ⟨rfl, hb⟩
    refine hK.out _ _ (below_call hS hS.size hb) (fun hS => ?_)
    clear hb hK
    refine wpAnyH_ready (rs := [4]) (by kernel_rfl) (by simp) ?_
    refine AllReadyH.cons rfl (fun K hK => ?_) AllReadyH.nil
    rw [if_pos (by rfl)]
    go_simp
    refine (common_spec a b Ha.out Hb.out _).mono ?_
    rintro e w3 ⟨rfl, hb⟩
    refine hK.out _ _ (below_call hS hS.size hb) (fun hS => ?_)
    clear hb hK
    refine wpAnyH_ready (rs := [5]) (by kernel_rfl) (by simp) ?_
    refine AllReadyH.cons rfl (fun K hK => ?_) AllReadyH.nil
    rw [if_pos (by rfl)]
    go_simp
    refine hK.out _ _ hS (fun hS => ?_)
    refine wpAnyH_done (by kernel_rfl) ?_ _
    go_wp2_with fail
    go_meet
    exact ⟨rfl, hS⟩
  case rest =>
    obtain ⟨rfl, h2⟩ := hcut
    have Ba := Lib.hid ((h2.block w.heap.size (by simp; omega)).trans (heap_alloc2_old w _ _))
    have Bb := Lib.hid ((h2.block (w.heap.size + 1) (by simp)).trans (heap_alloc2_new w _ _))
    have Bw := Lib.hid ((((Below.refl w.heap.size w).alloc (by simp) (.cells (ints .u8 a) 22)).alloc (by simp) (.cells (ints .u8 b) 22)).trans (h2.mono (by simp; omega)))
    clear h2
    go_upto_region 2 with fail
    go_cut [6] (fun s6 wx => s6 = .int .i64 (cbI (xorL a b)) ∧ Below w.heap.size w wx)
    case first =>
      refine wp_region_held_drew (S := Below (wc).heap.size (wc)) (by kernel_rfl) ((Below.refl _ _).drew) (fun hS => ?_)
      refine wpAnyH_take (i := 0) (v := _) rfl (by kernel_rfl) (by kernel_rfl) (by kernel_rfl) (fun _ _ _ h => h) (yields_box (by rfl) 22 _ rfl w.heap.size rfl _ 22 _ Ba.out Try.underlying22 rfl (by rw [ints_size, Ha.out]; exact sizeA32)) hS ?_
      refine wpAnyH_take (i := 2) (v := _) rfl (by kernel_rfl) (by kernel_rfl) (by kernel_rfl) (fun _ _ _ h => h) (yields_box (by rfl) 22 _ rfl (w.heap.size + 1) rfl _ 22 _ Bb.out Try.underlying22 rfl (by rw [ints_size, Hb.out]; exact sizeA32)) hS ?_
      refine wpAnyH_ready (rs := [1]) (by kernel_rfl) (by simp) ?_
      refine AllReadyH.cons rfl (fun K hK => ?_) AllReadyH.nil
      rw [if_pos (by rfl)]
      go_simp
      refine (toKey_ a Ha.out _).mono ?_
      rintro e w1 ⟨rfl, hb⟩
      refine hK.out _ _ (below_call hS hS.size hb) (fun hS => ?_)
      clear hb hK
      refine wpAnyH_ready (rs := [3]) (by kernel_rfl) (by simp) ?_
      refine AllReadyH.cons rfl (fun K hK => ?_) AllReadyH.nil
      rw [if_pos (by rfl)]
      go_simp
      refine (toKey_ b Hb.out _).mono ?_
      rintro e w2 ⟨rfl, hb⟩
      refine hK.out _ _ (below_call hS hS.size hb) (fun hS => ?_)
      clear hb hK
      refine wpAnyH_ready (rs := [4]) (by kernel_rfl) (by simp) ?_
      refine AllReadyH.cons rfl (fun K hK => ?_) AllReadyH.nil
      rw [if_pos (by rfl)]
      go_simp
      refine (common_impl a b Ha.out Hb.out _).mono ?_
      rintro e w3 ⟨rfl, hb⟩
      refine hK.out _ _ (below_call hS hS.size hb) (fun hS => ?_)
      clear hb hK
      refine wpAnyH_ready (rs := [5]) (by kernel_rfl) (by simp) ?_
      refine AllReadyH.cons rfl (fun K hK => ?_) AllReadyH.nil
      rw [if_pos (by rfl)]
      go_simp
      refine hK.out _ _ hS (fun hS => ?_)
      refine wpAnyH_done (by kernel_rfl) ?_ _
      go_wp2_with fail
      go_meet
      exact ⟨rfl, Bw.out.trans (hS.mono Bw.out.size)⟩
    case rest =>
      obtain ⟨rfl, h3⟩ := hcut
      have B3 := Lib.hid h3
      clear h3
      go_wp2
      go_ret
      exact ⟨rfl, B3.out⟩
end Go.Proofs.Ythfokngbjkljdab
