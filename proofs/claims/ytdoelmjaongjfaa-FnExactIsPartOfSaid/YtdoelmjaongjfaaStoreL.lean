/- The statement on SameStore: its walk. Written by wip/gen/storel.py. -/
import Derived.Test.YtdoelmjaongjfaaStoreQ
namespace Go.Proofs.Ytdoelmjaongjfaa
open Go.ChangeShapes Go.WideShapes Go.ChangeAt Go.RowKit
set_option linter.unusedVariables false
set_option linter.unusedSimpArgs false
theorem szS_le {bs : List BlV} {i : Nat} {x : BlV} (h : bs[i]? = some x) : x.n ≤ szS bs := by
  have hm : x ∈ bs := List.mem_of_getElem? h
  unfold szS
  induction bs generalizing i with
  | nil => simp at hm
  | cons y t ih =>
    rw [List.map_cons, List.sum_cons]
    rcases List.mem_cons.1 hm with rfl | hm
    · omega
    · obtain ⟨j, hj⟩ := List.getElem?_of_mem hm
      have := ih hj hm
      omega
theorem IsBls.fine {w : World} {a : Option Addr} {n : Nat} {bs : List BlV} (h : IsBls w a n bs) (hs : szS bs ≤ 1048576) : ∀ (i : Nat) (x : BlV), bs[i]? = some x → BlF x := by
  intro i x hx
  obtain ⟨h1, h2, h3⟩ := h
  rcases h3 with h3 | ⟨b, off, e, hlt, hc⟩
  · have := (List.getElem?_eq_some_iff.1 hx).1
    omega
  · obtain ⟨⟨_, _, hr⟩, _, hk, _⟩ := hc i x hx
    exact ⟨Nat.le_trans (szS_le hx) hs, hr.1, hk⟩
set_option maxRecDepth 100000 in
set_option maxHeartbeats 8000000 in
theorem FnExactSameStore_in (a b : Option Addr) (n m ca cb : Nat) (bs cs : List BlV) (w : World) (hA : IsBls w a n bs) (hB : IsBls w b m cs) :
    Calls Try.prog 4 #[.agg #[.slice a n ca], .agg #[.slice b m cb]] w fun e w' => e = .returned (.bool true) ∧ Below w.heap.size w w' := by
  have A0 := heap_alloc2_old w (.cells #[.slice a n ca] 24) (.cells #[.slice b m cb] 24)
  have A1 := heap_alloc2_new w (.cells #[.slice a n ca] 24) (.cells #[.slice b m cb] 24)
  have B0' := ((Below.refl w.heap.size w).alloc (Nat.le_refl _) (.cells #[.slice a n ca] 24)).alloc (by simp) (.cells #[.slice b m cb] 24)
  obtain ⟨w0, hw0⟩ : ∃ w0, (w.alloc (.cells #[.slice a n ca] 24)).alloc (.cells #[.slice b m cb] 24) = w0 := ⟨_, rfl⟩
  rw [hw0] at A0 A1 B0'
  have E0 := Lib.hid A0
  have F0 := Lib.hid A1
  have B0 := Lib.hid B0'
  have HIA := Lib.hid hA
  have HIB := Lib.hid hB
  have HLA := Lib.hid hA.2.1
  have HLB := Lib.hid hB.2.1
  clear hA hB A0 A1 B0'
  go_enter Try.func4, Try.ntmps4
  have q0 := cell_of_row _ w.heap.size 0 _ _ _ E0.out
  go_wp2_with fail
  clear q0
  refine (szSt a n ca bs 1048576 (by omega) (by omega) _ (HIA.out.below B0.out)).mono ?_
  rintro e w1 ⟨⟨r, rfl, hr⟩, hb⟩
  have B1 := Lib.hid (below_call B0.out B0.out.size hb)
  have E1 := Lib.hid (keep_block E0.out hb)
  have F1 := Lib.hid (keep_block F0.out hb)
  clear hb hw0
  rcases hr with rfl | ⟨r0, hr⟩
  · go_wp2_with fail
    go_ret
    exact ⟨rfl, B1.out⟩
  have r1 : ¬ r < 0 := by omega
  have HR := Lib.hid hr
  have r2 : r ≤ 1048576 := by omega
  clear hr
  have q0 := cell_of_row _ (w.heap.size + 1) 0 _ _ _ F1.out
  go_wp2_with fail
  clear q0
  refine (szSt b m cb cs r r0 (by omega) _ (HIB.out.below B1.out)).mono ?_
  rintro e w2 ⟨⟨s, rfl, hs⟩, hb⟩
  have B2 := Lib.hid (below_call B1.out B1.out.size hb)
  have E2 := Lib.hid (keep_block E1.out hb)
  have F2 := Lib.hid (keep_block F1.out hb)
  clear hb E0 F0 E1 F1
  rcases hs with rfl | ⟨s0, hs⟩
  · go_wp2_with fail
    go_ret
    exact ⟨rfl, B2.out⟩
  have s1 : ¬ s < 0 := by omega
  have hr := HR.out
  have hn : n ≤ 1048576 := by omega
  have hm : m ≤ 1048576 := by omega
  have HFA := Lib.hid (HIA.out.fine (by omega))
  have HFB := Lib.hid (HIB.out.fine (by omega))
  have HNA := Lib.hid (fun (i : Nat) (x : BlV) (h : bs[i]? = some x) => (HFA.out i x h).1)
  have HNB := Lib.hid (fun (i : Nat) (x : BlV) (h : cs[i]? = some x) => (HFB.out i x h).1)
  clear hr HR hs r0 r1 r2
  go_upto_region 8 with fail
  refine wp_region_held_drew (S := Below (w2).heap.size (w2)) (by kernel_rfl) ((Below.refl _ _).drew) (fun hS => ?_)
  refine takeS (i := 0) (v := .agg #[.slice a n ca]) rfl rfl (by kernel_rfl) (by kernel_rfl) (by kernel_rfl) (fun _ _ _ h => h) (Or.inl ⟨by rfl, fun U hU => by have q0 := cell_of_row _ (w.heap.size) 0 _ _ _ (keep_block E2.out hU); go_simp⟩) hS ?_
  try simp only [List.setIfInBounds_toArray, List.set_cons_zero, List.set_cons_succ]
  refine takeS (i := 2) (v := .agg #[.slice b m cb]) rfl rfl (by kernel_rfl) (by kernel_rfl) (by kernel_rfl) (fun _ _ _ h => h) (Or.inl ⟨by rfl, fun U hU => by have q0 := cell_of_row _ (w.heap.size + 1) 0 _ _ _ (keep_block F2.out hU); go_simp⟩) hS ?_
  try simp only [List.setIfInBounds_toArray, List.set_cons_zero, List.set_cons_succ]
  refine wpAnyH_ready (rs := [1]) (by kernel_rfl) (by simp) ?_
  refine AllReadyH.cons rfl (fun KQ hK => ?_) AllReadyH.nil
  rw [if_pos (by rfl)]
  go_simp
  refine (toSt a n ca bs (by omega) _ (HIA.out.below ((B2.out).trans (hS.mono (B2.out).size))) HNA.out).mono ?_
  rintro e u1 ⟨g1, rfl, ho, hb⟩
  have O1 := Lib.hid ho
  refine hK.out _ _ (below_call hS hS.size hb) (fun hS => ?_)
  clear hb hK ho
  refine wpAnyH_ready (rs := [3]) (by kernel_rfl) (by simp) ?_
  refine AllReadyH.cons rfl (fun KQ hK => ?_) AllReadyH.nil
  rw [if_pos (by rfl)]
  go_simp
  refine (toSt b m cb cs (by omega) _ (HIB.out.below ((B2.out).trans (hS.mono (B2.out).size))) HNB.out).mono ?_
  rintro e u2 ⟨g2, rfl, ho, hb⟩
  have O2 := Lib.hid ho
  have O1 := Lib.hid (O1.out.below hb)
  refine hK.out _ _ (below_call hS hS.size hb) (fun hS => ?_)
  clear hb hK ho
  refine wpAnyH_ready (rs := [4]) (by kernel_rfl) (by simp) ?_
  refine AllReadyH.cons rfl (fun KQ hK => ?_) AllReadyH.nil
  rw [if_pos (by rfl)]
  go_simp
  refine (ss_spec g1 g2 n m bs cs (by omega) (by omega) HLA.out HLB.out HFA.out HFB.out _ O1.out O2.out).mono ?_
  rintro e w3 ⟨rfl, hb⟩
  refine hK.out _ _ (below_call hS hS.size hb) (fun hS => ?_)
  clear hb hK O1 O2
  refine takeS (i := 5) (v := .bool (samB bs cs)) rfl rfl (by kernel_rfl) (by kernel_rfl) (by kernel_rfl) (fun _ _ _ h => h) (Or.inl ⟨by rfl, fun U hU => by go_simp⟩) hS ?_
  try simp only [List.setIfInBounds_toArray, List.set_cons_zero, List.set_cons_succ]
  refine wpAnyH_done (by kernel_rfl) ?_ _
  have B3 := Lib.hid (below_call B2.out B2.out.size hS)
  have E3 := Lib.hid (keep_block E2.out hS)
  have F3 := Lib.hid (keep_block F2.out hS)
  clear hS E2 F2
  have q0 := cell_of_row _ w.heap.size 0 _ _ _ E3.out
  go_wp2_with fail
  clear q0
  refine (toSt a n ca bs (by omega) _ (HIA.out.below B3.out) HNA.out).mono ?_
  rintro e w4 ⟨g3, rfl, ho, hb⟩
  have O4 := Lib.hid ho
  have B4 := Lib.hid (below_call B3.out B3.out.size hb)
  have E4 := Lib.hid (keep_block E3.out hb)
  have F4 := Lib.hid (keep_block F3.out hb)
  clear ho hb E3 F3
  have q0 : ∀ o, (w4.alloc o).cell? ⟨w.heap.size + 1, 0, none⟩ = some (.slice b m cb) := fun o => cell_of_row _ (w.heap.size + 1) 0 _ _ _ (keep_block F4.out ((Below.refl w4.heap.size w4).alloc (Nat.le_refl _) o))
  go_wp2_with fail
  clear q0
  have LI := (Below.refl w4.heap.size w4).alloc (Nat.le_refl _) (.cells #[.slice (some ⟨g3, 0, none⟩) n n] 29)
  have B5 := Lib.hid (below_call B4.out B4.out.size LI)
  have E5 := Lib.hid (keep_block E4.out LI)
  have F5 := Lib.hid (keep_block F4.out LI)
  have O5 := Lib.hid (O4.out.below LI)
  have X5 := Lib.hid (heap_alloc_last w4 (.cells #[.slice (some ⟨g3, 0, none⟩) n n] 29))
  clear LI
  generalize w4.alloc (.cells #[.slice (some ⟨g3, 0, none⟩) n n] 29) = w5 at B5 E5 F5 O5 X5 ⊢
  generalize w4.heap.size = x0 at X5 ⊢
  clear B4 E4 F4 O4
  refine (toSt b m cb cs (by omega) _ (HIB.out.below B5.out) HNB.out).mono ?_
  rintro e w6 ⟨g4, rfl, ho, hb⟩
  have P6 := Lib.hid ho
  have B6 := Lib.hid (below_call B5.out B5.out.size hb)
  have E6 := Lib.hid (keep_block E5.out hb)
  have F6 := Lib.hid (keep_block F5.out hb)
  have O6 := Lib.hid (O5.out.below hb)
  have X6 := Lib.hid (keep_block X5.out hb)
  clear ho hb B5 E5 F5 O5 X5
  have q0 : ∀ o, (w6.alloc o).cell? ⟨x0, 0, none⟩ = some (.slice (some ⟨g3, 0, none⟩) n n) := fun o => cell_of_row _ x0 0 _ _ _ (keep_block X6.out ((Below.refl w6.heap.size w6).alloc (Nat.le_refl _) o))
  go_wp2_with fail
  clear q0
  have LI := (Below.refl w6.heap.size w6).alloc (Nat.le_refl _) (.cells #[.slice (some ⟨g4, 0, none⟩) m m] 29)
  have B7 := Lib.hid (below_call B6.out B6.out.size LI)
  have E7 := Lib.hid (keep_block E6.out LI)
  have F7 := Lib.hid (keep_block F6.out LI)
  have O7 := Lib.hid (O6.out.below LI)
  have P7 := Lib.hid (P6.out.below LI)
  have X7 := Lib.hid (keep_block X6.out LI)
  have Y7 := Lib.hid (heap_alloc_last w6 (.cells #[.slice (some ⟨g4, 0, none⟩) m m] 29))
  clear LI
  generalize w6.alloc (.cells #[.slice (some ⟨g4, 0, none⟩) m m] 29) = w7 at B7 E7 F7 O7 P7 X7 Y7 ⊢
  generalize w6.heap.size = x1 at Y7 ⊢
  clear B6 E6 F6 O6 P6 X6
  refine (ss_impl g3 g4 n m bs cs (by omega) (by omega) HLA.out HLB.out HFA.out HFB.out _ O7.out P7.out).mono ?_
  rintro e w8 ⟨rfl, hb⟩
  have B8 := Lib.hid (below_call B7.out B7.out.size hb)
  have E8 := Lib.hid (keep_block E7.out hb)
  have F8 := Lib.hid (keep_block F7.out hb)
  have O8 := Lib.hid (O7.out.below hb)
  have P8 := Lib.hid (P7.out.below hb)
  have X8 := Lib.hid (keep_block X7.out hb)
  have Y8 := Lib.hid (keep_block Y7.out hb)
  clear hb B7 E7 F7 O7 P7 X7 Y7
  generalize samB bs cs = V
  go_upto_region 14 with fail
  refine wp_region_held_drew (S := Below (w8).heap.size (w8)) (by kernel_rfl) ((Below.refl _ _).drew) (fun hS => ?_)
  refine takeS (i := 0) (v := .agg #[.slice (some ⟨g3, 0, none⟩) n n]) rfl rfl (by kernel_rfl) (by kernel_rfl) (by kernel_rfl) (fun _ _ _ h => h) (Or.inl ⟨by rfl, fun U hU => by have q0 := cell_of_row _ (x0) 0 _ _ _ (keep_block X8.out hU); go_simp⟩) hS ?_
  try simp only [List.setIfInBounds_toArray, List.set_cons_zero, List.set_cons_succ]
  refine takeS (i := 1) (v := .agg #[.slice a n ca]) rfl rfl (by kernel_rfl) (by kernel_rfl) (by kernel_rfl) (fun _ _ _ h => h) (Or.inl ⟨by rfl, fun U hU => by have q0 := cell_of_row _ (w.heap.size) 0 _ _ _ (keep_block E8.out hU); go_simp⟩) hS ?_
  try simp only [List.setIfInBounds_toArray, List.set_cons_zero, List.set_cons_succ]
  refine wpAnyH_ready (rs := [2]) (by kernel_rfl) (by simp) ?_
  refine AllReadyH.cons rfl (fun KQ hK => ?_) AllReadyH.nil
  rw [if_pos (by rfl)]
  go_simp
  refine (toSt a n ca bs (by omega) _ (HIA.out.below ((B8.out).trans (hS.mono (B8.out).size))) HNA.out).mono ?_
  rintro e u5 ⟨g5, rfl, ho, hb⟩
  have OA := Lib.hid ho
  have OB := Lib.hid (O8.out.below (below_call hS hS.size hb))
  refine hK.out _ _ (below_call hS hS.size hb) (fun hS => ?_)
  clear hb hK ho
  refine wpAnyH_ready (rs := [3]) (by kernel_rfl) (by simp) ?_
  refine AllReadyH.cons rfl (fun KQ hK => ?_) AllReadyH.nil
  rw [if_pos (by rfl)]
  go_simp
  refine (eqSt g3 g5 n bs (by omega) HLA.out HFA.out _ OB.out OA.out).mono ?_
  rintro e w9 ⟨rfl, hb⟩
  refine hK.out _ _ (below_call hS hS.size hb) (fun hS => ?_)
  clear hb hK OA OB
  refine takeS (i := 4) (v := .bool false) rfl rfl (by kernel_rfl) (by kernel_rfl) (by kernel_rfl) (fun _ _ _ h => h) (Or.inl ⟨by rfl, fun U hU => by go_simp⟩) hS ?_
  try simp only [List.setIfInBounds_toArray, List.set_cons_zero, List.set_cons_succ]
  refine wpAnyH_done (by kernel_rfl) ?_ _
  have B9 := Lib.hid (below_call B8.out B8.out.size hS)
  have F9 := Lib.hid (keep_block F8.out hS)
  have P9 := Lib.hid (P8.out.below hS)
  have Y9 := Lib.hid (keep_block Y8.out hS)
  clear hS B8 E8 F8 O8 P8 X8 Y8
  go_upto_region 16 with fail
  refine wp_region_held_drew (S := Below (w9).heap.size (w9)) (by kernel_rfl) ((Below.refl _ _).drew) (fun hS => ?_)
  refine takeS (i := 0) (v := .agg #[.slice (some ⟨g4, 0, none⟩) m m]) rfl rfl (by kernel_rfl) (by kernel_rfl) (by kernel_rfl) (fun _ _ _ h => h) (Or.inl ⟨by rfl, fun U hU => by have q0 := cell_of_row _ (x1) 0 _ _ _ (keep_block Y9.out hU); go_simp⟩) hS ?_
  try simp only [List.setIfInBounds_toArray, List.set_cons_zero, List.set_cons_succ]
  refine takeS (i := 1) (v := .agg #[.slice b m cb]) rfl rfl (by kernel_rfl) (by kernel_rfl) (by kernel_rfl) (fun _ _ _ h => h) (Or.inl ⟨by rfl, fun U hU => by have q0 := cell_of_row _ (w.heap.size + 1) 0 _ _ _ (keep_block F9.out hU); go_simp⟩) hS ?_
  try simp only [List.setIfInBounds_toArray, List.set_cons_zero, List.set_cons_succ]
  refine wpAnyH_ready (rs := [2]) (by kernel_rfl) (by simp) ?_
  refine AllReadyH.cons rfl (fun KQ hK => ?_) AllReadyH.nil
  rw [if_pos (by rfl)]
  go_simp
  refine (toSt b m cb cs (by omega) _ (HIB.out.below ((B9.out).trans (hS.mono (B9.out).size))) HNB.out).mono ?_
  rintro e u5 ⟨g5, rfl, ho, hb⟩
  have OA := Lib.hid ho
  have OB := Lib.hid (P9.out.below (below_call hS hS.size hb))
  refine hK.out _ _ (below_call hS hS.size hb) (fun hS => ?_)
  clear hb hK ho
  refine wpAnyH_ready (rs := [3]) (by kernel_rfl) (by simp) ?_
  refine AllReadyH.cons rfl (fun KQ hK => ?_) AllReadyH.nil
  rw [if_pos (by rfl)]
  go_simp
  refine (eqSt g4 g5 m cs (by omega) HLB.out HFB.out _ OB.out OA.out).mono ?_
  rintro e wA ⟨rfl, hb⟩
  refine hK.out _ _ (below_call hS hS.size hb) (fun hS => ?_)
  clear hb hK OA OB
  refine takeS (i := 4) (v := .bool false) rfl rfl (by kernel_rfl) (by kernel_rfl) (by kernel_rfl) (fun _ _ _ h => h) (Or.inl ⟨by rfl, fun U hU => by go_simp⟩) hS ?_
  try simp only [List.setIfInBounds_toArray, List.set_cons_zero, List.set_cons_succ]
  refine wpAnyH_done (by kernel_rfl) ?_ _
  have BE := Lib.hid (below_call B9.out B9.out.size hS)
  clear hS
  go_wp2_with fail
  go_ret
  exact ⟨rfl, BE.out⟩
theorem FnExactSameStore_walk (a : Option Addr) (n ca : Nat) (bs : List BlV) (b : Option Addr) (m cb : Nat) (cs : List BlV) (w : World) (f1 : IsBls w a n bs) (f2 : IsBls w b m cs) :
    Calls Try.prog 4 #[.agg #[.slice a n ca], .agg #[.slice b m cb]] w fun e w' => e = .returned (.bool true) ∧ Below w.heap.size w w' := FnExactSameStore_in a b n m ca cb bs cs w f1 f2
end Go.Proofs.Ytdoelmjaongjfaa
