/- The statement on MixBlock: its walk. -/
import Derived.Test.YtdhjnpafijockabMixS
namespace Go.Proofs.Ytdhjnpafijockab
open Go.ChangeShapes Go.WideShapes Go.ChangeAt Go.RowKit
set_option linter.unusedVariables false
theorem mixF_len {st b : List Int} (sr : W32 st) : (mixF st b).length = 8 := xor8_len (W32_R sr 12).1 sr.1
set_option maxRecDepth 100000 in
set_option maxHeartbeats 1000000 in
theorem mixw_spec (a b : List Int) (hb : b.length = 32) (sr : W32 a) (br : ∀ x ∈ b, 0 ≤ x ∧ x ≤ 255) (w : World) :
    Calls Try.prog 15 #[.agg (ints .u32 a), .agg (ints .u8 b)] w fun e w' => e = .returned (.agg (ints .u32 (mixF a b))) ∧ Below w.heap.size w w' := by
  have Hz := Lib.hid z8_ints
  have Ha := Lib.hid sr.1
  have Hb := Lib.hid hb
  have Hx := Lib.hid (mixF_len (b := b) sr)
  have Hc := Lib.hid (fun W => mix_spec a b hb sr br W)
  clear hb sr br
  generalize mixF a b = X at Hx Hc ⊢
  go_enter Try.func15, Try.ntmps15
  go_wp2_with (first | (refine wpList_load_row rfl 23 (.tmp 2) rfl w.heap.size rfl 23 (ints .u32 a) (0, 0) _ (heap3_0 _ _ _ _) Try.underlying23 rfl (by rw [ints_size, Ha.out]; exact sizeA8) ?_) | (refine wpList_load_row rfl 24 (.tmp 3) rfl (w.heap.size + 1) rfl 24 (ints .u8 b) (0, 0) _ (heap3_1 _ _ _ _) Try.underlying24 rfl (by rw [ints_size, Hb.out]; exact sizeA32) ?_))
  refine (Hc.out _).mono ?_
  rintro e w1 ⟨rfl, h1⟩
  have G1 := Lib.hid (keep_block (heap3_2 w (.cells (ints .u32 a) 23) (.cells (ints .u8 b) 24) (.cells (ints .u32 z8) 23)) (by rw [Hz.out]; exact h1))
  have L1 := Lib.hid (((((Below.refl w.heap.size w).alloc (by simp) _).alloc (by simp) _).alloc (by simp; omega) _).trans (h1.mono (by simp; omega)))
  clear h1
  go_wp2_with (refine wpList_store_row rfl 23 _ _ rfl (w.heap.size + 1 + 1) (ints .u32 X) rfl rfl 23 (ints .u32 z8) G1.out (by rw [ints_size, Hx.out]; exact sizeA8) (by rw [ints_size, ints_size, Hx.out]; rfl) (ints_one _ _) ?_)
  refine bodyPost_ret (results_cell_row rfl _ _ (w.heap.size + 1 + 1) 23 (ints .u32 X) (0, 0) _ rfl (setRow_heap _ _ _ _ _ _ G1.out) Try.underlying23 rfl (by rw [ints_size, Hx.out]; exact sizeA8)) rfl ⟨rfl, ?_⟩
  exact Below.setRow L1.out (by omega) _
set_option maxRecDepth 100000 in
set_option maxHeartbeats 4000000 in
theorem mix_law (a b : List Int) (w : World) (ha : a.length = 8) (fa : ∀ z ∈ a, (Lit.int .u32 z).wf = true) (hb : b.length = 32) (fb : ∀ z ∈ b, (Lit.int .u8 z).wf = true) :
    Calls Try.prog 3 #[.agg (ints .u32 a), .agg (ints .u8 b)] w fun e w' => e = .returned (.bool true) ∧ Below w.heap.size w w' := by
  have Hz := Lib.hid z8_ints
  have Ha := Lib.hid ha
  have Hb := Lib.hid hb
  have Sr : Hid (W32 a) := Lib.hid ⟨ha, fun x hx => bounds_u32 (fa x hx)⟩
  have Br : Hid (∀ x ∈ b, 0 ≤ x ∧ x ≤ 255) := Lib.hid (fun x hx => bounds_u8 (fb x hx))
  have Hx := Lib.hid (mixF_len (b := b) Sr.out)
  have Hsp := Lib.hid (fun W => mixw_spec a b Hb.out Sr.out Br.out W)
  have Him := Lib.hid (fun W => mix_impl a b Hb.out Sr.out Br.out W)
  clear ha hb fa fb
  generalize mixF a b = X at Hx Hsp Him
  go_enter Try.func3, Try.ntmps3
  go_upto_region 1 with fail
  go_cut [5] (fun s5 wx => ∃ g : Nat, s5 = .pointer (some ⟨g, 0, none⟩) ∧ w.heap.size + 2 ≤ g ∧ wx.heap[g]? = some (.cells (ints .u32 X) 23) ∧ Below ((w.alloc (.cells (ints .u32 a) 23)).alloc (.cells (ints .u8 b) 24)).heap.size ((w.alloc (.cells (ints .u32 a) 23)).alloc (.cells (ints .u8 b) 24)) wx)
  case first =>
    refine wp_region_held_drew (S := Below ((w.alloc (.cells (ints .u32 a) 23)).alloc (.cells (ints .u8 b) 24)).heap.size ((w.alloc (.cells (ints .u32 a) 23)).alloc (.cells (ints .u8 b) 24))) (by kernel_rfl) ((Below.refl _ _).drew) (fun hS => ?_)
    refine wpAnyH_take (i := 0) (v := _) rfl (by kernel_rfl) (by kernel_rfl) (by kernel_rfl) (fun _ _ _ h => h) (yields_box (by rfl) 23 _ rfl w.heap.size rfl _ 23 _ (heap_alloc2_old _ _ _) Try.underlying23 rfl (by rw [ints_size, Ha.out]; exact sizeA8)) hS ?_
    refine wpAnyH_take (i := 2) (v := _) rfl (by kernel_rfl) (by kernel_rfl) (by kernel_rfl) (fun _ _ _ h => h) (yields_box (by rfl) 24 _ rfl (w.heap.size + 1) rfl _ 24 _ (heap_alloc2_new _ _ _) Try.underlying24 rfl (by rw [ints_size, Hb.out]; exact sizeA32)) hS ?_
    refine wpAnyH_ready (rs := [1, 5]) (by kernel_rfl) (by simp) ?_
    refine AllReadyH.cons rfl (fun K hK => ?_) (AllReadyH.cons rfl (fun K hK => ?_) AllReadyH.nil)
    · rw [if_pos (by rfl)]
      go_simp
      refine (toU32A8 a Ha.out _).mono ?_
      rintro e w1 ⟨rfl, hb⟩
      refine hK.out _ _ (below_call hS hS.size hb) (fun hS => ?_)
      clear hb hK
      refine wpAnyH_ready (rs := [3, 5]) (by kernel_rfl) (by simp) ?_
      refine AllReadyH.cons rfl (fun K hK => ?_) (AllReadyH.cons rfl (fun K hK => ?_) AllReadyH.nil)
      · rw [if_pos (by rfl)]
        go_simp
        refine (toB32 b Hb.out _).mono ?_
        rintro e w2 ⟨rfl, hb⟩
        refine hK.out _ _ (below_call hS hS.size hb) (fun hS => ?_)
        clear hb hK
        refine wpAnyH_ready (rs := [4, 5]) (by kernel_rfl) (by simp) ?_
        refine AllReadyH.cons rfl (fun K hK => ?_) (AllReadyH.cons rfl (fun K hK => ?_) AllReadyH.nil)
        · rw [if_pos (by rfl)]
          go_simp
          refine (Hsp.out _).mono ?_
          rintro e w3 ⟨rfl, hb⟩
          refine hK.out _ _ (below_call hS hS.size hb) (fun hS => ?_)
          clear hb hK
          refine wpAnyH_ready (rs := [5]) (by kernel_rfl) (by simp) ?_
          refine AllReadyH.cons rfl (fun K hK => ?_) AllReadyH.nil
          rw [if_pos (by rfl)]
          go_simp
          have hg4 := new_block (t := 23) Hz.out hS
          have hgg := hS.size
          refine hK.out _ _ (hS.alloc hS.size _) (fun hS => ?_)
          clear hK
          refine wpAnyH_ready (rs := [6]) (by kernel_rfl) (by simp) ?_
          refine AllReadyH.cons rfl (fun K hK => ?_) AllReadyH.nil
          rw [if_pos (by rfl)]
          refine wp_store_row (o := ⟨none, _, _, _, _, _⟩) 23 _ _ rfl _ (ints .u32 X) rfl rfl 23 _ hg4 (by rw [ints_size, Hx.out]; exact sizeA8) (by rw [ints_size, ints_size, Hx.out]; rfl) (ints_one _ _) ?_
          simp only [Act.put]
          refine hK.out _ _ (Below.setRow hS (by first | exact hgg | (simp; done)) _) (fun hS => ?_)
          refine wpAnyH_done (by kernel_rfl) ?_ _
          go_wp2_with fail
          go_meet
          exact ⟨_, rfl, (by first | (simp; done) | (have := hgg; simp at this; omega)), setRow_heap _ _ _ _ _ _ hg4, hS⟩
        · rw [if_pos (by rfl)]
          go_simp
          have hg3 := new_block (t := 23) Hz.out hS
          have hgg := hS.size
          refine hK.out _ _ (hS.alloc hS.size _) (fun hS => ?_)
          clear hK
          refine wpAnyH_ready (rs := [4]) (by kernel_rfl) (by simp) ?_
          refine AllReadyH.cons rfl (fun K hK => ?_) AllReadyH.nil
          rw [if_pos (by rfl)]
          go_simp
          refine (Hsp.out _).mono ?_
          rintro e w4 ⟨rfl, hb⟩
          have hg4 := keep_block hg3 hb
          refine hK.out _ _ (below_call hS hS.size hb) (fun hS => ?_)
          clear hb hK
          refine wpAnyH_ready (rs := [6]) (by kernel_rfl) (by simp) ?_
          refine AllReadyH.cons rfl (fun K hK => ?_) AllReadyH.nil
          rw [if_pos (by rfl)]
          refine wp_store_row (o := ⟨none, _, _, _, _, _⟩) 23 _ _ rfl _ (ints .u32 X) rfl rfl 23 _ hg4 (by rw [ints_size, Hx.out]; exact sizeA8) (by rw [ints_size, ints_size, Hx.out]; rfl) (ints_one _ _) ?_
          simp only [Act.put]
          refine hK.out _ _ (Below.setRow hS (by first | exact hgg | (simp; done)) _) (fun hS => ?_)
          refine wpAnyH_done (by kernel_rfl) ?_ _
          go_wp2_with fail
          go_meet
          exact ⟨_, rfl, (by first | (simp; done) | (have := hgg; simp at this; omega)), setRow_heap _ _ _ _ _ _ hg4, hS⟩
      · rw [if_pos (by rfl)]
        go_simp
        have hg2 := new_block (t := 23) Hz.out hS
        have hgg := hS.size
        refine hK.out _ _ (hS.alloc hS.size _) (fun hS => ?_)
        clear hK
        refine wpAnyH_ready (rs := [3]) (by kernel_rfl) (by simp) ?_
        refine AllReadyH.cons rfl (fun K hK => ?_) AllReadyH.nil
        rw [if_pos (by rfl)]
        go_simp
        refine (toB32 b Hb.out _).mono ?_
        rintro e w3 ⟨rfl, hb⟩
        have hg3 := keep_block hg2 hb
        refine hK.out _ _ (below_call hS hS.size hb) (fun hS => ?_)
        clear hb hK
        refine wpAnyH_ready (rs := [4]) (by kernel_rfl) (by simp) ?_
        refine AllReadyH.cons rfl (fun K hK => ?_) AllReadyH.nil
        rw [if_pos (by rfl)]
        go_simp
        refine (Hsp.out _).mono ?_
        rintro e w4 ⟨rfl, hb⟩
        have hg4 := keep_block hg3 hb
        refine hK.out _ _ (below_call hS hS.size hb) (fun hS => ?_)
        clear hb hK
        refine wpAnyH_ready (rs := [6]) (by kernel_rfl) (by simp) ?_
        refine AllReadyH.cons rfl (fun K hK => ?_) AllReadyH.nil
        rw [if_pos (by rfl)]
        refine wp_store_row (o := ⟨none, _, _, _, _, _⟩) 23 _ _ rfl _ (ints .u32 X) rfl rfl 23 _ hg4 (by rw [ints_size, Hx.out]; exact sizeA8) (by rw [ints_size, ints_size, Hx.out]; rfl) (ints_one _ _) ?_
        simp only [Act.put]
        refine hK.out _ _ (Below.setRow hS (by first | exact hgg | (simp; done)) _) (fun hS => ?_)
        refine wpAnyH_done (by kernel_rfl) ?_ _
        go_wp2_with fail
        go_meet
        exact ⟨_, rfl, (by first | (simp; done) | (have := hgg; simp at this; omega)), setRow_heap _ _ _ _ _ _ hg4, hS⟩
    · rw [if_pos (by rfl)]
      go_simp
      have hg1 := new_block (t := 23) Hz.out hS
      simp only [World.size_drew, World.size_alloc] at hg1
      have hgg := hS.size
      refine hK.out _ _ (hS.alloc hS.size _) (fun hS => ?_)
      clear hK
      refine wpAnyH_ready (rs := [1]) (by kernel_rfl) (by simp) ?_
      refine AllReadyH.cons rfl (fun K hK => ?_) AllReadyH.nil
      rw [if_pos (by rfl)]
      go_simp
      refine (toU32A8 a Ha.out _).mono ?_
      rintro e w2 ⟨rfl, hb⟩
      have hg2 := keep_block hg1 hb
      refine hK.out _ _ (below_call hS hS.size hb) (fun hS => ?_)
      clear hb hK
      refine wpAnyH_ready (rs := [3]) (by kernel_rfl) (by simp) ?_
      refine AllReadyH.cons rfl (fun K hK => ?_) AllReadyH.nil
      rw [if_pos (by rfl)]
      go_simp
      refine (toB32 b Hb.out _).mono ?_
      rintro e w3 ⟨rfl, hb⟩
      have hg3 := keep_block hg2 hb
      refine hK.out _ _ (below_call hS hS.size hb) (fun hS => ?_)
      clear hb hK
      refine wpAnyH_ready (rs := [4]) (by kernel_rfl) (by simp) ?_
      refine AllReadyH.cons rfl (fun K hK => ?_) AllReadyH.nil
      rw [if_pos (by rfl)]
      go_simp
      refine (Hsp.out _).mono ?_
      rintro e w4 ⟨rfl, hb⟩
      have hg4 := keep_block hg3 hb
      refine hK.out _ _ (below_call hS hS.size hb) (fun hS => ?_)
      clear hb hK
      refine wpAnyH_ready (rs := [6]) (by kernel_rfl) (by simp) ?_
      refine AllReadyH.cons rfl (fun K hK => ?_) AllReadyH.nil
      rw [if_pos (by rfl)]
      refine wp_store_row (o := ⟨none, _, _, _, _, _⟩) 23 _ _ rfl _ (ints .u32 X) rfl rfl 23 _ hg4 (by rw [ints_size, Hx.out]; exact sizeA8) (by rw [ints_size, ints_size, Hx.out]; rfl) (ints_one _ _) ?_
      simp only [Act.put]
      refine hK.out _ _ (Below.setRow hS (by first | exact hgg | (simp; done)) _) (fun hS => ?_)
      refine wpAnyH_done (by kernel_rfl) ?_ _
      go_wp2_with fail
      go_meet
      exact ⟨_, rfl, (by first | (simp; done) | (have := hgg; simp at this; omega)), setRow_heap _ _ _ _ _ _ hg4, hS⟩
  case rest =>
    obtain ⟨g, rfl, h0, h1, h2⟩ := hcut
    have Ba := Lib.hid ((h2.block w.heap.size (by simp; omega)).trans (heap_alloc2_old w _ _))
    have Bb := Lib.hid ((h2.block (w.heap.size + 1) (by simp)).trans (heap_alloc2_new w _ _))
    have Bg := Lib.hid h1
    have Lg := Lib.hid (Array.getElem?_eq_some_iff.1 h1).1
    have Bw := Lib.hid ((((Below.refl w.heap.size w).alloc (by simp) (.cells (ints .u32 a) 23)).alloc (by simp) (.cells (ints .u8 b) 24)).trans (h2.mono (by simp; omega)))
    clear h0 h1 h2
    go_upto_region 2 with fail
    go_cut [6] (fun s6 wx => ∃ g' : Nat, s6 = .pointer (some ⟨g', 0, none⟩) ∧ wx.heap[g']? = some (.cells (ints .u32 X) 23) ∧ wx.heap[g]? = some (.cells (ints .u32 X) 23) ∧ Below w.heap.size w wx)
    case first =>
      refine wp_region_held_drew (S := Below (wc).heap.size (wc)) (by kernel_rfl) ((Below.refl _ _).drew) (fun hS => ?_)
      refine wpAnyH_take (i := 0) (v := _) rfl (by kernel_rfl) (by kernel_rfl) (by kernel_rfl) (fun _ _ _ h => h) (yields_box (by rfl) 23 _ rfl w.heap.size rfl _ 23 _ Ba.out Try.underlying23 rfl (by rw [ints_size, Ha.out]; exact sizeA8)) hS ?_
      refine wpAnyH_take (i := 2) (v := _) rfl (by kernel_rfl) (by kernel_rfl) (by kernel_rfl) (fun _ _ _ h => h) (yields_box (by rfl) 24 _ rfl (w.heap.size + 1) rfl _ 24 _ Bb.out Try.underlying24 rfl (by rw [ints_size, Hb.out]; exact sizeA32)) hS ?_
      refine wpAnyH_ready (rs := [1, 5]) (by kernel_rfl) (by simp) ?_
      refine AllReadyH.cons rfl (fun K hK => ?_) (AllReadyH.cons rfl (fun K hK => ?_) AllReadyH.nil)
      · rw [if_pos (by rfl)]
        go_simp
        refine (toU32A8 a Ha.out _).mono ?_
        rintro e w1 ⟨rfl, hb⟩
        refine hK.out _ _ (below_call hS hS.size hb) (fun hS => ?_)
        clear hb hK
        refine wpAnyH_ready (rs := [3, 5]) (by kernel_rfl) (by simp) ?_
        refine AllReadyH.cons rfl (fun K hK => ?_) (AllReadyH.cons rfl (fun K hK => ?_) AllReadyH.nil)
        · rw [if_pos (by rfl)]
          go_simp
          refine (toB32 b Hb.out _).mono ?_
          rintro e w2 ⟨rfl, hb⟩
          refine hK.out _ _ (below_call hS hS.size hb) (fun hS => ?_)
          clear hb hK
          refine wpAnyH_ready (rs := [4, 5]) (by kernel_rfl) (by simp) ?_
          refine AllReadyH.cons rfl (fun K hK => ?_) (AllReadyH.cons rfl (fun K hK => ?_) AllReadyH.nil)
          · rw [if_pos (by rfl)]
            go_simp
            refine (Him.out _).mono ?_
            rintro e w3 ⟨rfl, hb⟩
            refine hK.out _ _ (below_call hS hS.size hb) (fun hS => ?_)
            clear hb hK
            refine wpAnyH_ready (rs := [5]) (by kernel_rfl) (by simp) ?_
            refine AllReadyH.cons rfl (fun K hK => ?_) AllReadyH.nil
            rw [if_pos (by rfl)]
            go_simp
            have hg4 := new_block (t := 23) Hz.out hS
            have hgg := hS.size
            refine hK.out _ _ (hS.alloc hS.size _) (fun hS => ?_)
            clear hK
            refine wpAnyH_ready (rs := [6]) (by kernel_rfl) (by simp) ?_
            refine AllReadyH.cons rfl (fun K hK => ?_) AllReadyH.nil
            rw [if_pos (by rfl)]
            refine wp_store_row (o := ⟨none, _, _, _, _, _⟩) 23 _ _ rfl _ (ints .u32 X) rfl rfl 23 _ hg4 (by rw [ints_size, Hx.out]; exact sizeA8) (by rw [ints_size, ints_size, Hx.out]; rfl) (ints_one _ _) ?_
            simp only [Act.put]
            refine hK.out _ _ (Below.setRow hS (by first | exact hgg | (simp; done)) _) (fun hS => ?_)
            refine wpAnyH_done (by kernel_rfl) ?_ _
            go_wp2_with fail
            go_meet
            exact ⟨_, rfl, setRow_heap _ _ _ _ _ _ hg4, (hS.block _ Lg.out).trans Bg.out, Bw.out.trans (hS.mono Bw.out.size)⟩
          · rw [if_pos (by rfl)]
            go_simp
            have hg3 := new_block (t := 23) Hz.out hS
            have hgg := hS.size
            refine hK.out _ _ (hS.alloc hS.size _) (fun hS => ?_)
            clear hK
            refine wpAnyH_ready (rs := [4]) (by kernel_rfl) (by simp) ?_
            refine AllReadyH.cons rfl (fun K hK => ?_) AllReadyH.nil
            rw [if_pos (by rfl)]
            go_simp
            refine (Him.out _).mono ?_
            rintro e w4 ⟨rfl, hb⟩
            have hg4 := keep_block hg3 hb
            refine hK.out _ _ (below_call hS hS.size hb) (fun hS => ?_)
            clear hb hK
            refine wpAnyH_ready (rs := [6]) (by kernel_rfl) (by simp) ?_
            refine AllReadyH.cons rfl (fun K hK => ?_) AllReadyH.nil
            rw [if_pos (by rfl)]
            refine wp_store_row (o := ⟨none, _, _, _, _, _⟩) 23 _ _ rfl _ (ints .u32 X) rfl rfl 23 _ hg4 (by rw [ints_size, Hx.out]; exact sizeA8) (by rw [ints_size, ints_size, Hx.out]; rfl) (ints_one _ _) ?_
            simp only [Act.put]
            refine hK.out _ _ (Below.setRow hS (by first | exact hgg | (simp; done)) _) (fun hS => ?_)
            refine wpAnyH_done (by kernel_rfl) ?_ _
            go_wp2_with fail
            go_meet
            exact ⟨_, rfl, setRow_heap _ _ _ _ _ _ hg4, (hS.block _ Lg.out).trans Bg.out, Bw.out.trans (hS.mono Bw.out.size)⟩
        · rw [if_pos (by rfl)]
          go_simp
          have hg2 := new_block (t := 23) Hz.out hS
          have hgg := hS.size
          refine hK.out _ _ (hS.alloc hS.size _) (fun hS => ?_)
          clear hK
          refine wpAnyH_ready (rs := [3]) (by kernel_rfl) (by simp) ?_
          refine AllReadyH.cons rfl (fun K hK => ?_) AllReadyH.nil
          rw [if_pos (by rfl)]
          go_simp
          refine (toB32 b Hb.out _).mono ?_
          rintro e w3 ⟨rfl, hb⟩
          have hg3 := keep_block hg2 hb
          refine hK.out _ _ (below_call hS hS.size hb) (fun hS => ?_)
          clear hb hK
          refine wpAnyH_ready (rs := [4]) (by kernel_rfl) (by simp) ?_
          refine AllReadyH.cons rfl (fun K hK => ?_) AllReadyH.nil
          rw [if_pos (by rfl)]
          go_simp
          refine (Him.out _).mono ?_
          rintro e w4 ⟨rfl, hb⟩
          have hg4 := keep_block hg3 hb
          refine hK.out _ _ (below_call hS hS.size hb) (fun hS => ?_)
          clear hb hK
          refine wpAnyH_ready (rs := [6]) (by kernel_rfl) (by simp) ?_
          refine AllReadyH.cons rfl (fun K hK => ?_) AllReadyH.nil
          rw [if_pos (by rfl)]
          refine wp_store_row (o := ⟨none, _, _, _, _, _⟩) 23 _ _ rfl _ (ints .u32 X) rfl rfl 23 _ hg4 (by rw [ints_size, Hx.out]; exact sizeA8) (by rw [ints_size, ints_size, Hx.out]; rfl) (ints_one _ _) ?_
          simp only [Act.put]
          refine hK.out _ _ (Below.setRow hS (by first | exact hgg | (simp; done)) _) (fun hS => ?_)
          refine wpAnyH_done (by kernel_rfl) ?_ _
          go_wp2_with fail
          go_meet
          exact ⟨_, rfl, setRow_heap _ _ _ _ _ _ hg4, (hS.block _ Lg.out).trans Bg.out, Bw.out.trans (hS.mono Bw.out.size)⟩
      · rw [if_pos (by rfl)]
        go_simp
        have hg1 := new_block (t := 23) Hz.out hS
        simp only [World.size_drew] at hg1
        have hgg := hS.size
        refine hK.out _ _ (hS.alloc hS.size _) (fun hS => ?_)
        clear hK
        refine wpAnyH_ready (rs := [1]) (by kernel_rfl) (by simp) ?_
        refine AllReadyH.cons rfl (fun K hK => ?_) AllReadyH.nil
        rw [if_pos (by rfl)]
        go_simp
        refine (toU32A8 a Ha.out _).mono ?_
        rintro e w2 ⟨rfl, hb⟩
        have hg2 := keep_block hg1 hb
        refine hK.out _ _ (below_call hS hS.size hb) (fun hS => ?_)
        clear hb hK
        refine wpAnyH_ready (rs := [3]) (by kernel_rfl) (by simp) ?_
        refine AllReadyH.cons rfl (fun K hK => ?_) AllReadyH.nil
        rw [if_pos (by rfl)]
        go_simp
        refine (toB32 b Hb.out _).mono ?_
        rintro e w3 ⟨rfl, hb⟩
        have hg3 := keep_block hg2 hb
        refine hK.out _ _ (below_call hS hS.size hb) (fun hS => ?_)
        clear hb hK
        refine wpAnyH_ready (rs := [4]) (by kernel_rfl) (by simp) ?_
        refine AllReadyH.cons rfl (fun K hK => ?_) AllReadyH.nil
        rw [if_pos (by rfl)]
        go_simp
        refine (Him.out _).mono ?_
        rintro e w4 ⟨rfl, hb⟩
        have hg4 := keep_block hg3 hb
        refine hK.out _ _ (below_call hS hS.size hb) (fun hS => ?_)
        clear hb hK
        refine wpAnyH_ready (rs := [6]) (by kernel_rfl) (by simp) ?_
        refine AllReadyH.cons rfl (fun K hK => ?_) AllReadyH.nil
        rw [if_pos (by rfl)]
        refine wp_store_row (o := ⟨none, _, _, _, _, _⟩) 23 _ _ rfl _ (ints .u32 X) rfl rfl 23 _ hg4 (by rw [ints_size, Hx.out]; exact sizeA8) (by rw [ints_size, ints_size, Hx.out]; rfl) (ints_one _ _) ?_
        simp only [Act.put]
        refine hK.out _ _ (Below.setRow hS (by first | exact hgg | (simp; done)) _) (fun hS => ?_)
        refine wpAnyH_done (by kernel_rfl) ?_ _
        go_wp2_with fail
        go_meet
        exact ⟨_, rfl, setRow_heap _ _ _ _ _ _ hg4, (hS.block _ Lg.out).trans Bg.out, Bw.out.trans (hS.mono Bw.out.size)⟩
    case rest =>
      obtain ⟨g', rfl, h1, h2, h3⟩ := hcut
      have B1 := Lib.hid h1
      have B2 := Lib.hid h2
      have B3 := Lib.hid h3
      clear h1 h2 h3
      go_wp2_with (first | (refine wpList_load_row rfl 23 (.tmp 6) rfl g' rfl 23 (ints .u32 X) (0, 0) _ B1.out Try.underlying23 rfl (by rw [ints_size, Hx.out]; exact sizeA8) ?_) | (refine wpList_load_row rfl 23 (.tmp 5) rfl g rfl 23 (ints .u32 X) (0, 0) _ B2.out Try.underlying23 rfl (by rw [ints_size, Hx.out]; exact sizeA8) ?_))
      refine (eqU32A8 X Hx.out _).mono ?_
      rintro e w3 ⟨rfl, hb3⟩
      have Hb3 := Lib.hid hb3
      clear hb3
      go_wp2
      go_ret
      exact ⟨rfl, below_call B3.out B3.out.size Hb3.out⟩
end Go.Proofs.Ytdhjnpafijockab
