/- The statement on NodeKey: its walk. -/
import Derived.Test.YtgpabgemkighhaaNode
import Derived.Test.YtgpabgemkighhaaBytes
namespace Go.Proofs.Ytgpabgemkighhaa
open Go.ChangeShapes Go.WideShapes Go.ChangeAt Go.RowKit
set_option linter.unusedVariables false
set_option maxRecDepth 100000 in
set_option maxHeartbeats 4000000 in
theorem FnExactNodeKey_walk (a b : List Int) (w : World) (ha : a.length = 32) (fa : ∀ z ∈ a, (Lit.int .u8 z).wf = true) (hb : b.length = 32) (fb : ∀ z ∈ b, (Lit.int .u8 z).wf = true) :
    Calls Try.prog 3 #[.agg (ints .u8 a), .agg (ints .u8 b)] w fun e w' => e = .returned (.bool true) ∧ Below w.heap.size w w' := by
  have Hz := Lib.hid z32_ints
  have Ha := Lib.hid ha
  have Hb := Lib.hid hb
  have Hsp := Lib.hid (fun W => nodekey_spec a b ha (fun z hz => bounds_u8 (fa z hz)) hb (fun z hz => bounds_u8 (fb z hz)) W)
  have Him := Lib.hid (fun W => node_impl a b ha (fun z hz => bounds_u8 (fa z hz)) hb (fun z hz => bounds_u8 (fb z hz)) W)
  have Hx := Lib.hid (nodeK_len a b)
  clear ha hb fa fb
  generalize nodeK a b = V at Hsp Him Hx
  go_enter Try.func3, Try.ntmps3
  go_upto_region 1 with fail
  go_cut [5] (fun s5 wx => ∃ g : Nat, s5 = .pointer (some ⟨g, 0, none⟩) ∧ w.heap.size + 2 ≤ g ∧ wx.heap[g]? = some (.cells (ints .u8 (V)) 23) ∧ Below ((w.alloc (.cells (ints .u8 a) 22)).alloc (.cells (ints .u8 b) 22)).heap.size ((w.alloc (.cells (ints .u8 a) 22)).alloc (.cells (ints .u8 b) 22)) wx)
  case first =>
    refine wp_region_held_drew (S := Below ((w.alloc (.cells (ints .u8 a) 22)).alloc (.cells (ints .u8 b) 22)).heap.size ((w.alloc (.cells (ints .u8 a) 22)).alloc (.cells (ints .u8 b) 22))) (by kernel_rfl) ((Below.refl _ _).drew) (fun hS => ?_)
    refine wpAnyH_take (i := 0) (v := _) rfl (by kernel_rfl) (by kernel_rfl) (by kernel_rfl) (fun _ _ _ h => h) (yields_box (by rfl) 22 _ rfl w.heap.size rfl _ 22 _ (heap_alloc2_old _ _ _) Try.underlying22 rfl (by rw [ints_size, Ha.out]; exact sizeA32)) hS ?_
    refine wpAnyH_take (i := 2) (v := _) rfl (by kernel_rfl) (by kernel_rfl) (by kernel_rfl) (fun _ _ _ h => h) (yields_box (by rfl) 22 _ rfl (w.heap.size + 1) rfl _ 22 _ (heap_alloc2_new _ _ _) Try.underlying22 rfl (by rw [ints_size, Hb.out]; exact sizeA32)) hS ?_
    refine wpAnyH_ready (rs := [1, 5]) (by kernel_rfl) (by simp) ?_
    refine AllReadyH.cons rfl (fun K hK => ?_) (AllReadyH.cons rfl (fun K hK => ?_) AllReadyH.nil)
    · rw [if_pos (by rfl)]
      go_simp
      refine (toKey_ a Ha.out _).mono ?_
      rintro e w1 ⟨rfl, hb⟩
      refine hK.out _ _ (below_call hS hS.size hb) (fun hS => ?_)
      clear hb hK
      refine wpAnyH_ready (rs := [3, 5]) (by kernel_rfl) (by simp) ?_
      refine AllReadyH.cons rfl (fun K hK => ?_) (AllReadyH.cons rfl (fun K hK => ?_) AllReadyH.nil)
      · rw [if_pos (by rfl)]
        go_simp
        refine (toKey_ b Hb.out _).mono ?_
        rintro e w2 ⟨rfl, hb⟩
        refine hK.out _ _ (below_call hS hS.size hb) (fun hS => ?_)
        clear hb hK
        refine wpAnyH_ready (rs := [4, 5]) (by kernel_rfl) (by simp) ?_
        refine AllReadyH.cons rfl (fun K hK => ?_) (AllReadyH.cons rfl (fun K hK => ?_) AllReadyH.nil)
        · rw [if_pos (by rfl)]
          go_simp
          refine (Hsp.out _).mono ?_
          rintro e w3 ⟨rfl, hb⟩
          refine hK.out _ _ (below_call hS hS.size hb) (fun hS => ?_)
          clear hb hK
          refine wpAnyH_ready (rs := [5]) (by kernel_rfl) (by simp) ?_
          refine AllReadyH.cons rfl (fun K hK => ?_) AllReadyH.nil
          rw [if_pos (by rfl)]
          go_simp
          have hg4 := new_block (t := 23) Hz.out hS
          have hgg := hS.size
          refine hK.out _ _ (hS.alloc hS.size _) (fun hS => ?_)
          clear hK
          refine wpAnyH_ready (rs := [6]) (by kernel_rfl) (by simp) ?_
          refine AllReadyH.cons rfl (fun K hK => ?_) AllReadyH.nil
          rw [if_pos (by rfl)]
          refine wp_store_row (o := ⟨none, _, _, _, _, _⟩) 23 _ _ rfl _ (ints .u8 (V)) rfl rfl 23 _ hg4 (by rw [ints_size, Hx.out]; exact sizeKey) (by rw [ints_size, ints_size, Hx.out]; rfl) (ints_one _ _) ?_
          simp only [Act.put]
          refine hK.out _ _ (Below.setRow hS (by first | exact hgg | (simp; done)) _) (fun hS => ?_)
          refine wpAnyH_done (by kernel_rfl) ?_ _
          go_wp2_with fail
          go_meet
          exact ⟨_, rfl, (by first | (simp; done) | (have := hgg; simp at this; omega)), setRow_heap _ _ _ _ _ _ hg4, hS⟩
        · rw [if_pos (by rfl)]
          go_simp
          have hg3 := new_block (t := 23) Hz.out hS
          have hgg := hS.size
          refine hK.out _ _ (hS.alloc hS.size _) (fun hS => ?_)
          clear hK
          refine wpAnyH_ready (rs := [4]) (by kernel_rfl) (by simp) ?_
          refine AllReadyH.cons rfl (fun K hK => ?_) AllReadyH.nil
          rw [if_pos (by rfl)]
          go_simp
          refine (Hsp.out _).mono ?_
          rintro e w4 ⟨rfl, hb⟩
          have hg4 := keep_block hg3 hb
          refine hK.out _ _ (below_call hS hS.size hb) (fun hS => ?_)
          clear hb hK
          refine wpAnyH_ready (rs := [6]) (by kernel_rfl) (by simp) ?_
          refine AllReadyH.cons rfl (fun K hK => ?_) AllReadyH.nil
          rw [if_pos (by rfl)]
          refine wp_store_row (o := ⟨none, _, _, _, _, _⟩) 23 _ _ rfl _ (ints .u8 (V)) rfl rfl 23 _ hg4 (by rw [ints_size, Hx.out]; exact sizeKey) (by rw [ints_size, ints_size, Hx.out]; rfl) (ints_one _ _) ?_
          simp only [Act.put]
          refine hK.out _ _ (Below.setRow hS (by first | exact hgg | (simp; done)) _) (fun hS => ?_)
          refine wpAnyH_done (by kernel_rfl) ?_ _
          go_wp2_with fail
          go_meet
          exact ⟨_, rfl, (by first | (simp; done) | (have := hgg; simp at this; omega)), setRow_heap _ _ _ _ _ _ hg4, hS⟩
      · rw [if_pos (by rfl)]
        go_simp
        have hg2 := new_block (t := 23) Hz.out hS
        have hgg := hS.size
        refine hK.out _ _ (hS.alloc hS.size _) (fun hS => ?_)
        clear hK
        refine wpAnyH_ready (rs := [3]) (by kernel_rfl) (by simp) ?_
        refine AllReadyH.cons rfl (fun K hK => ?_) AllReadyH.nil
        rw [if_pos (by rfl)]
        go_simp
        refine (toKey_ b Hb.out _).mono ?_
        rintro e w3 ⟨rfl, hb⟩
        have hg3 := keep_block hg2 hb
        refine hK.out _ _ (below_call hS hS.size hb) (fun hS => ?_)
        clear hb hK
        refine wpAnyH_ready (rs := [4]) (by kernel_rfl) (by simp) ?_
        refine AllReadyH.cons rfl (fun K hK => ?_) AllReadyH.nil
        rw [if_pos (by rfl)]
        go_simp
        refine (Hsp.out _).mono ?_
        rintro e w4 ⟨rfl, hb⟩
        have hg4 := keep_block hg3 hb
        refine hK.out _ _ (below_call hS hS.size hb) (fun hS => ?_)
        clear hb hK
        refine wpAnyH_ready (rs := [6]) (by kernel_rfl) (by simp) ?_
        refine AllReadyH.cons rfl (fun K hK => ?_) AllReadyH.nil
        rw [if_pos (by rfl)]
        refine wp_store_row (o := ⟨none, _, _, _, _, _⟩) 23 _ _ rfl _ (ints .u8 (V)) rfl rfl 23 _ hg4 (by rw [ints_size, Hx.out]; exact sizeKey) (by rw [ints_size, ints_size, Hx.out]; rfl) (ints_one _ _) ?_
        simp only [Act.put]
        refine hK.out _ _ (Below.setRow hS (by first | exact hgg | (simp; done)) _) (fun hS => ?_)
        refine wpAnyH_done (by kernel_rfl) ?_ _
        go_wp2_with fail
        go_meet
        exact ⟨_, rfl, (by first | (simp; done) | (have := hgg; simp at this; omega)), setRow_heap _ _ _ _ _ _ hg4, hS⟩
    · rw [if_pos (by rfl)]
      go_simp
      have hg1 := new_block (t := 23) Hz.out hS
      simp only [World.size_drew, World.size_alloc] at hg1
      have hgg := hS.size
      refine hK.out _ _ (hS.alloc hS.size _) (fun hS => ?_)
      clear hK
      refine wpAnyH_ready (rs := [1]) (by kernel_rfl) (by simp) ?_
      refine AllReadyH.cons rfl (fun K hK => ?_) AllReadyH.nil
      rw [if_pos (by rfl)]
      go_simp
      refine (toKey_ a Ha.out _).mono ?_
      rintro e w2 ⟨rfl, hb⟩
      have hg2 := keep_block hg1 hb
      refine hK.out _ _ (below_call hS hS.size hb) (fun hS => ?_)
      clear hb hK
      refine wpAnyH_ready (rs := [3]) (by kernel_rfl) (by simp) ?_
      refine AllReadyH.cons rfl (fun K hK => ?_) AllReadyH.nil
      rw [if_pos (by rfl)]
      go_simp
      refine (toKey_ b Hb.out _).mono ?_
      rintro e w3 ⟨rfl, hb⟩
      have hg3 := keep_block hg2 hb
      refine hK.out _ _ (below_call hS hS.size hb) (fun hS => ?_)
      clear hb hK
      refine wpAnyH_ready (rs := [4]) (by kernel_rfl) (by simp) ?_
      refine AllReadyH.cons rfl (fun K hK => ?_) AllReadyH.nil
      rw [if_pos (by rfl)]
      go_simp
      refine (Hsp.out _).mono ?_
      rintro e w4 ⟨rfl, hb⟩
      have hg4 := keep_block hg3 hb
      refine hK.out _ _ (below_call hS hS.size hb) (fun hS => ?_)
      clear hb hK
      refine wpAnyH_ready (rs := [6]) (by kernel_rfl) (by simp) ?_
      refine AllReadyH.cons rfl (fun K hK => ?_) AllReadyH.nil
      rw [if_pos (by rfl)]
      refine wp_store_row (o := ⟨none, _, _, _, _, _⟩) 23 _ _ rfl _ (ints .u8 (V)) rfl rfl 23 _ hg4 (by rw [ints_size, Hx.out]; exact sizeKey) (by rw [ints_size, ints_size, Hx.out]; rfl) (ints_one _ _) ?_
      simp only [Act.put]
      refine hK.out _ _ (Below.setRow hS (by first | exact hgg | (simp; done)) _) (fun hS => ?_)
      refine wpAnyH_done (by kernel_rfl) ?_ _
      go_wp2_with fail
      go_meet
      exact ⟨_, rfl, (by first | (simp; done) | (have := hgg; simp at this; omega)), setRow_heap _ _ _ _ _ _ hg4, hS⟩
  case rest =>
    obtain ⟨g, rfl, h0, h1, h2⟩ := hcut
    have Ba := Lib.hid ((h2.block w.heap.size (by simp; omega)).trans (heap_alloc2_old w _ _))
    have Bb := Lib.hid ((h2.block (w.heap.size + 1) (by simp)).trans (heap_alloc2_new w _ _))
    have Bg := Lib.hid h1
    have Lg := Lib.hid (Array.getElem?_eq_some_iff.1 h1).1
    have Bw := Lib.hid ((((Below.refl w.heap.size w).alloc (by simp) (.cells (ints .u8 a) 22)).alloc (by simp) (.cells (ints .u8 b) 22)).trans (h2.mono (by simp; omega)))
    clear h0 h1 h2
    go_upto_region 2 with fail
    go_cut [6] (fun s6 wx => ∃ g' : Nat, s6 = .pointer (some ⟨g', 0, none⟩) ∧ wx.heap[g']? = some (.cells (ints .u8 (V)) 23) ∧ wx.heap[g]? = some (.cells (ints .u8 (V)) 23) ∧ Below w.heap.size w wx)
    case first =>
      refine wp_region_held_drew (S := Below (wc).heap.size (wc)) (by kernel_rfl) ((Below.refl _ _).drew) (fun hS => ?_)
      refine wpAnyH_take (i := 0) (v := _) rfl (by kernel_rfl) (by kernel_rfl) (by kernel_rfl) (fun _ _ _ h => h) (yields_box (by rfl) 22 _ rfl w.heap.size rfl _ 22 _ Ba.out Try.underlying22 rfl (by rw [ints_size, Ha.out]; exact sizeA32)) hS ?_
      refine wpAnyH_take (i := 2) (v := _) rfl (by kernel_rfl) (by kernel_rfl) (by kernel_rfl) (fun _ _ _ h => h) (yields_box (by rfl) 22 _ rfl (w.heap.size + 1) rfl _ 22 _ Bb.out Try.underlying22 rfl (by rw [ints_size, Hb.out]; exact sizeA32)) hS ?_
      refine wpAnyH_ready (rs := [1, 5]) (by kernel_rfl) (by simp) ?_
      refine AllReadyH.cons rfl (fun K hK => ?_) (AllReadyH.cons rfl (fun K hK => ?_) AllReadyH.nil)
      · rw [if_pos (by rfl)]
        go_simp
        refine (toKey_ a Ha.out _).mono ?_
        rintro e w1 ⟨rfl, hb⟩
        refine hK.out _ _ (below_call hS hS.size hb) (fun hS => ?_)
        clear hb hK
        refine wpAnyH_ready (rs := [3, 5]) (by kernel_rfl) (by simp) ?_
        refine AllReadyH.cons rfl (fun K hK => ?_) (AllReadyH.cons rfl (fun K hK => ?_) AllReadyH.nil)
        · rw [if_pos (by rfl)]
          go_simp
          refine (toKey_ b Hb.out _).mono ?_
          rintro e w2 ⟨rfl, hb⟩
          refine hK.out _ _ (below_call hS hS.size hb) (fun hS => ?_)
          clear hb hK
          refine wpAnyH_ready (rs := [4, 5]) (by kernel_rfl) (by simp) ?_
          refine AllReadyH.cons rfl (fun K hK => ?_) (AllReadyH.cons rfl (fun K hK => ?_) AllReadyH.nil)
          · rw [if_pos (by rfl)]
            go_simp
            refine (Him.out _).mono ?_
            rintro e w3 ⟨rfl, hb⟩
            refine hK.out _ _ (below_call hS hS.size hb) (fun hS => ?_)
            clear hb hK
            refine wpAnyH_ready (rs := [5]) (by kernel_rfl) (by simp) ?_
            refine AllReadyH.cons rfl (fun K hK => ?_) AllReadyH.nil
            rw [if_pos (by rfl)]
            go_simp
            have hg4 := new_block (t := 23) Hz.out hS
            have hgg := hS.size
            refine hK.out _ _ (hS.alloc hS.size _) (fun hS => ?_)
            clear hK
            refine wpAnyH_ready (rs := [6]) (by kernel_rfl) (by simp) ?_
            refine AllReadyH.cons rfl (fun K hK => ?_) AllReadyH.nil
            rw [if_pos (by rfl)]
            refine wp_store_row (o := ⟨none, _, _, _, _, _⟩) 23 _ _ rfl _ (ints .u8 (V)) rfl rfl 23 _ hg4 (by rw [ints_size, Hx.out]; exact sizeKey) (by rw [ints_size, ints_size, Hx.out]; rfl) (ints_one _ _) ?_
            simp only [Act.put]
            refine hK.out _ _ (Below.setRow hS (by first | exact hgg | (simp; done)) _) (fun hS => ?_)
            refine wpAnyH_done (by kernel_rfl) ?_ _
            go_wp2_with fail
            go_meet
            exact ⟨_, rfl, setRow_heap _ _ _ _ _ _ hg4, (hS.block _ Lg.out).trans Bg.out, Bw.out.trans (hS.mono Bw.out.size)⟩
          · rw [if_pos (by rfl)]
            go_simp
            have hg3 := new_block (t := 23) Hz.out hS
            have hgg := hS.size
            refine hK.out _ _ (hS.alloc hS.size _) (fun hS => ?_)
            clear hK
            refine wpAnyH_ready (rs := [4]) (by kernel_rfl) (by simp) ?_
            refine AllReadyH.cons rfl (fun K hK => ?_) AllReadyH.nil
            rw [if_pos (by rfl)]
            go_simp
            refine (Him.out _).mono ?_
            rintro e w4 ⟨rfl, hb⟩
            have hg4 := keep_block hg3 hb
            refine hK.out _ _ (below_call hS hS.size hb) (fun hS => ?_)
            clear hb hK
            refine wpAnyH_ready (rs := [6]) (by kernel_rfl) (by simp) ?_
            refine AllReadyH.cons rfl (fun K hK => ?_) AllReadyH.nil
            rw [if_pos (by rfl)]
            refine wp_store_row (o := ⟨none, _, _, _, _, _⟩) 23 _ _ rfl _ (ints .u8 (V)) rfl rfl 23 _ hg4 (by rw [ints_size, Hx.out]; exact sizeKey) (by rw [ints_size, ints_size, Hx.out]; rfl) (ints_one _ _) ?_
            simp only [Act.put]
            refine hK.out _ _ (Below.setRow hS (by first | exact hgg | (simp; done)) _) (fun hS => ?_)
            refine wpAnyH_done (by kernel_rfl) ?_ _
            go_wp2_with fail
            go_meet
            exact ⟨_, rfl, setRow_heap _ _ _ _ _ _ hg4, (hS.block _ Lg.out).trans Bg.out, Bw.out.trans (hS.mono Bw.out.size)⟩
        · rw [if_pos (by rfl)]
          go_simp
          have hg2 := new_block (t := 23) Hz.out hS
          have hgg := hS.size
          refine hK.out _ _ (hS.alloc hS.size _) (fun hS => ?_)
          clear hK
          refine wpAnyH_ready (rs := [3]) (by kernel_rfl) (by simp) ?_
          refine AllReadyH.cons rfl (fun K hK => ?_) AllReadyH.nil
          rw [if_pos (by rfl)]
          go_simp
          refine (toKey_ b Hb.out _).mono ?_
          rintro e w3 ⟨rfl, hb⟩
          have hg3 := keep_block hg2 hb
          refine hK.out _ _ (below_call hS hS.size hb) (fun hS => ?_)
          clear hb hK
          refine wpAnyH_ready (rs := [4]) (by kernel_rfl) (by simp) ?_
          refine AllReadyH.cons rfl (fun K hK => ?_) AllReadyH.nil
          rw [if_pos (by rfl)]
          go_simp
          refine (Him.out _).mono ?_
          rintro e w4 ⟨rfl, hb⟩
          have hg4 := keep_block hg3 hb
          refine hK.out _ _ (below_call hS hS.size hb) (fun hS => ?_)
          clear hb hK
          refine wpAnyH_ready (rs := [6]) (by kernel_rfl) (by simp) ?_
          refine AllReadyH.cons rfl (fun K hK => ?_) AllReadyH.nil
          rw [if_pos (by rfl)]
          refine wp_store_row (o := ⟨none, _, _, _, _, _⟩) 23 _ _ rfl _ (ints .u8 (V)) rfl rfl 23 _ hg4 (by rw [ints_size, Hx.out]; exact sizeKey) (by rw [ints_size, ints_size, Hx.out]; rfl) (ints_one _ _) ?_
          simp only [Act.put]
          refine hK.out _ _ (Below.setRow hS (by first | exact hgg | (simp; done)) _) (fun hS => ?_)
          refine wpAnyH_done (by kernel_rfl) ?_ _
          go_wp2_with fail
          go_meet
          exact ⟨_, rfl, setRow_heap _ _ _ _ _ _ hg4, (hS.block _ Lg.out).trans Bg.out, Bw.out.trans (hS.mono Bw.out.size)⟩
      · rw [if_pos (by rfl)]
        go_simp
        have hg1 := new_block (t := 23) Hz.out hS
        simp only [World.size_drew] at hg1
        have hgg := hS.size
        refine hK.out _ _ (hS.alloc hS.size _) (fun hS => ?_)
        clear hK
        refine wpAnyH_ready (rs := [1]) (by kernel_rfl) (by simp) ?_
        refine AllReadyH.cons rfl (fun K hK => ?_) AllReadyH.nil
        rw [if_pos (by rfl)]
        go_simp
        refine (toKey_ a Ha.out _).mono ?_
        rintro e w2 ⟨rfl, hb⟩
        have hg2 := keep_block hg1 hb
        refine hK.out _ _ (below_call hS hS.size hb) (fun hS => ?_)
        clear hb hK
        refine wpAnyH_ready (rs := [3]) (by kernel_rfl) (by simp) ?_
        refine AllReadyH.cons rfl (fun K hK => ?_) AllReadyH.nil
        rw [if_pos (by rfl)]
        go_simp
        refine (toKey_ b Hb.out _).mono ?_
        rintro e w3 ⟨rfl, hb⟩
        have hg3 := keep_block hg2 hb
        refine hK.out _ _ (below_call hS hS.size hb) (fun hS => ?_)
        clear hb hK
        refine wpAnyH_ready (rs := [4]) (by kernel_rfl) (by simp) ?_
        refine AllReadyH.cons rfl (fun K hK => ?_) AllReadyH.nil
        rw [if_pos (by rfl)]
        go_simp
        refine (Him.out _).mono ?_
        rintro e w4 ⟨rfl, hb⟩
        have hg4 := keep_block hg3 hb
        refine hK.out _ _ (below_call hS hS.size hb) (fun hS => ?_)
        clear hb hK
        refine wpAnyH_ready (rs := [6]) (by kernel_rfl) (by simp) ?_
        refine AllReadyH.cons rfl (fun K hK => ?_) AllReadyH.nil
        rw [if_pos (by rfl)]
        refine wp_store_row (o := ⟨none, _, _, _, _, _⟩) 23 _ _ rfl _ (ints .u8 (V)) rfl rfl 23 _ hg4 (by rw [ints_size, Hx.out]; exact sizeKey) (by rw [ints_size, ints_size, Hx.out]; rfl) (ints_one _ _) ?_
        simp only [Act.put]
        refine hK.out _ _ (Below.setRow hS (by first | exact hgg | (simp; done)) _) (fun hS => ?_)
        refine wpAnyH_done (by kernel_rfl) ?_ _
        go_wp2_with fail
        go_meet
        exact ⟨_, rfl, setRow_heap _ _ _ _ _ _ hg4, (hS.block _ Lg.out).trans Bg.out, Bw.out.trans (hS.mono Bw.out.size)⟩
    case rest =>
      obtain ⟨g', rfl, h1, h2, h3⟩ := hcut
      have B1 := Lib.hid h1
      have B2 := Lib.hid h2
      have B3 := Lib.hid h3
      clear h1 h2 h3
      go_wp2_with (first | (refine wpList_load_row rfl 23 (.tmp 6) rfl g' rfl 23 (ints .u8 (V)) (0, 0) _ B1.out Try.underlying23 rfl (by rw [ints_size, Hx.out]; exact sizeKey) ?_) | (refine wpList_load_row rfl 23 (.tmp 5) rfl g rfl 23 (ints .u8 (V)) (0, 0) _ B2.out Try.underlying23 rfl (by rw [ints_size, Hx.out]; exact sizeKey) ?_))
      refine (eqKey_ (V) Hx.out _).mono ?_
      rintro e w3 ⟨rfl, hb3⟩
      have Hb3 := Lib.hid hb3
      clear hb3
      go_wp2
      go_ret
      exact ⟨rfl, below_call B3.out B3.out.size Hb3.out⟩
end Go.Proofs.Ytgpabgemkighhaa
