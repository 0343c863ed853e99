/- The statement on ExactValidStore: its walk. Written by wip/gen/storelaw.py. -/
import Derived.Test.YtdoelmjaongjfaaVs
import Derived.Test.YtdoelmjaongjfaaStoreL
namespace Go.Proofs.Ytdoelmjaongjfaa
open Go.ChangeShapes Go.WideShapes Go.ChangeAt Go.RowKit
set_option linter.unusedVariables false
set_option linter.unusedSimpArgs false
theorem IsBls.fineG {w : World} {a : Option Addr} {n : Nat} {bs : List BlV} (h : IsBls w a n bs) (hs : szS bs ≤ 1048576) : ∀ (i : Nat) (x : BlV), bs[i]? = some x → BlG x := by
  intro i x hx
  refine ⟨h.fine hs i x hx, ?_⟩
  obtain ⟨h1, h2, h3⟩ := h
  rcases h3 with h3 | ⟨b, off, e, hlt, hc⟩
  · have := (List.getElem?_eq_some_iff.1 hx).1
    omega
  · obtain ⟨_, hk, _⟩ := hc i x hx
    exact hk
set_option maxRecDepth 100000 in
set_option maxHeartbeats 8000000 in
theorem FnExactValidStore_in (a : Option Addr) (n ca : Nat) (bs : List BlV) (w : World) (hA : IsBls w a n bs) :
    Calls Try.prog 3 #[.agg #[.slice a n ca]] w fun e w' => e = .returned (.bool true) ∧ Below w.heap.size w w' := by
  have A0 := heap_alloc_last w (.cells #[.slice a n ca] 24)
  have B0' := (Below.refl w.heap.size w).alloc (Nat.le_refl _) (.cells #[.slice a n ca] 24)
  obtain ⟨w0, hw0⟩ : ∃ w0, w.alloc (.cells #[.slice a n ca] 24) = w0 := ⟨_, rfl⟩
  rw [hw0] at A0 B0'
  have E0 := Lib.hid A0
  have B0 := Lib.hid B0'
  have HIA := Lib.hid hA
  have HLA := Lib.hid hA.2.1
  clear hA A0 B0'
  go_enter Try.func3, Try.ntmps3
  have q0 := cell_of_row _ w.heap.size 0 _ _ _ E0.out
  go_wp2_with fail
  clear q0
  refine (szSt a n ca bs 1048576 (by omega) (by omega) _ (HIA.out.below B0.out)).mono ?_
  rintro e w1 ⟨⟨r, rfl, hr⟩, hb⟩
  have B1 := Lib.hid (below_call B0.out B0.out.size hb)
  have E1 := Lib.hid (keep_block E0.out hb)
  clear hb hw0
  rcases hr with rfl | ⟨r0, hr⟩
  · go_wp2_with fail
    go_ret
    exact ⟨rfl, B1.out⟩
  have r1 : ¬ r < 0 := by omega
  have hn : n ≤ 1048576 := by omega
  have HGA := Lib.hid (HIA.out.fineG (by omega))
  have HFA := Lib.hid (fun (i : Nat) (x : BlV) (h : bs[i]? = some x) => (HGA.out i x h).1)
  have HNA := Lib.hid (fun (i : Nat) (x : BlV) (h : bs[i]? = some x) => (HFA.out i x h).1)
  clear hr r0
  have q0 := cell_of_row _ w.heap.size 0 _ _ _ E1.out
  go_wp2_with fail
  clear q0
  refine (toSt a n ca bs (by omega) _ (HIA.out.below B1.out) HNA.out).mono ?_
  rintro e w2 ⟨g2, rfl, ho, hb⟩
  have O2 := Lib.hid ho
  have B2 := Lib.hid (below_call B1.out B1.out.size hb)
  have E2 := Lib.hid (keep_block E1.out hb)
  clear ho hb E0 B0
  go_wp2_with fail
  refine (vs_spec g2 n bs (by omega) HLA.out HGA.out _ O2.out).mono ?_
  rintro e w3 ⟨rfl, hb⟩
  have B3 := Lib.hid (below_call B2.out B2.out.size hb)
  have E3 := Lib.hid (keep_block E2.out hb)
  clear hb O2 B2 E2
  have q0 := cell_of_row _ w.heap.size 0 _ _ _ E3.out
  go_wp2_with fail
  clear q0
  refine (toSt a n ca bs (by omega) _ (HIA.out.below B3.out) HNA.out).mono ?_
  rintro e w4 ⟨g4, rfl, ho, hb⟩
  have O4 := Lib.hid ho
  have B4 := Lib.hid (below_call B3.out B3.out.size hb)
  have E4 := Lib.hid (keep_block E3.out hb)
  clear ho hb E3 B3 E1 B1
  go_wp2_with fail
  have LI := (Below.refl w4.heap.size w4).alloc (Nat.le_refl _) (.cells #[.slice (some ⟨g4, 0, none⟩) n n] 29)
  have B5 := Lib.hid (below_call B4.out B4.out.size LI)
  have E5 := Lib.hid (keep_block E4.out LI)
  have O5 := Lib.hid (O4.out.below LI)
  have X5 := Lib.hid (heap_alloc_last w4 (.cells #[.slice (some ⟨g4, 0, none⟩) n n] 29))
  clear LI
  generalize w4.alloc (.cells #[.slice (some ⟨g4, 0, none⟩) n n] 29) = w5 at B5 E5 O5 X5 ⊢
  generalize w4.heap.size = x0 at X5 ⊢
  clear B4 E4 O4
  refine (vs_impl g4 n bs (by omega) HLA.out HGA.out _ O5.out).mono ?_
  rintro e w6 ⟨rfl, hb⟩
  have B6 := Lib.hid (below_call B5.out B5.out.size hb)
  have E6 := Lib.hid (keep_block E5.out hb)
  have O6 := Lib.hid (O5.out.below hb)
  have X6 := Lib.hid (keep_block X5.out hb)
  clear hb B5 E5 O5 X5
  generalize stV bs = V
  go_upto_region 10 with fail
  refine wp_region_held_drew (S := Below (w6).heap.size (w6)) (by kernel_rfl) ((Below.refl _ _).drew) (fun hS => ?_)
  refine takeS (i := 0) (v := .agg #[.slice (some ⟨g4, 0, none⟩) n n]) rfl rfl (by kernel_rfl) (by kernel_rfl) (by kernel_rfl) (fun _ _ _ h => h) (Or.inl ⟨by rfl, fun U hU => by have q0 := cell_of_row _ (x0) 0 _ _ _ (keep_block X6.out hU); go_simp⟩) hS ?_
  try simp only [List.setIfInBounds_toArray, List.set_cons_zero, List.set_cons_succ]
  refine takeS (i := 1) (v := .agg #[.slice a n ca]) rfl rfl (by kernel_rfl) (by kernel_rfl) (by kernel_rfl) (fun _ _ _ h => h) (Or.inl ⟨by rfl, fun U hU => by have q0 := cell_of_row _ (w.heap.size) 0 _ _ _ (keep_block E6.out hU); go_simp⟩) hS ?_
  try simp only [List.setIfInBounds_toArray, List.set_cons_zero, List.set_cons_succ]
  refine wpAnyH_ready (rs := [2]) (by kernel_rfl) (by simp) ?_
  refine AllReadyH.cons rfl (fun KQ hK => ?_) AllReadyH.nil
  rw [if_pos (by rfl)]
  go_simp
  refine (toSt a n ca bs (by omega) _ (HIA.out.below ((B6.out).trans (hS.mono (B6.out).size))) HNA.out).mono ?_
  rintro e u5 ⟨g5, rfl, ho, hb⟩
  have OA := Lib.hid ho
  have OB := Lib.hid (O6.out.below (below_call hS hS.size hb))
  refine hK.out _ _ (below_call hS hS.size hb) (fun hS => ?_)
  clear hb hK ho
  refine wpAnyH_ready (rs := [3]) (by kernel_rfl) (by simp) ?_
  refine AllReadyH.cons rfl (fun KQ hK => ?_) AllReadyH.nil
  rw [if_pos (by rfl)]
  go_simp
  refine (eqSt g4 g5 n bs (by omega) HLA.out HFA.out _ OB.out OA.out).mono ?_
  rintro e u6 ⟨rfl, hb⟩
  refine hK.out _ _ (below_call hS hS.size hb) (fun hS => ?_)
  clear hb hK OA OB
  refine takeS (i := 4) (v := .bool false) rfl rfl (by kernel_rfl) (by kernel_rfl) (by kernel_rfl) (fun _ _ _ h => h) (Or.inl ⟨by rfl, fun U hU => by go_simp⟩) hS ?_
  try simp only [List.setIfInBounds_toArray, List.set_cons_zero, List.set_cons_succ]
  refine wpAnyH_done (by kernel_rfl) ?_ _
  have BE := Lib.hid (below_call B6.out B6.out.size hS)
  clear hS
  go_wp2_with fail
  go_ret
  exact ⟨rfl, BE.out⟩
theorem FnExactValidStore_walk (a : Option Addr) (n ca : Nat) (bs : List BlV) (w : World) (f1 : IsBls w a n bs) :
    Calls Try.prog 3 #[.agg #[.slice a n ca]] w fun e w' => e = .returned (.bool true) ∧ Below w.heap.size w w' := FnExactValidStore_in a n ca bs w f1
end Go.Proofs.Ytdoelmjaongjfaa
