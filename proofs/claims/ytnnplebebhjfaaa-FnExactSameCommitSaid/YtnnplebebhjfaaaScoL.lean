/- The statement on ExactSameCommit: its walk. Written by wip/gen/cml.py. -/
import Derived.Test.YtnnplebebhjfaaaSmC
import Derived.Test.YtnnplebebhjfaaaVcoL
namespace Go.Proofs.Ytnnplebebhjfaaa
open Go.ChangeShapes Go.WideShapes Go.ChangeAt Go.RowKit
set_option linter.unusedVariables false
set_option linter.unusedSimpArgs false
set_option maxRecDepth 100000 in
set_option maxHeartbeats 16000000 in
theorem FnExactSameCommit_in (r : List Int) (a : Option Addr) (n ca : Nat) (fl : List Int) (z : Int) (nt : ByteArray) (r' : List Int) (a' : Option Addr) (n' ca' : Nat) (fl' : List Int) (z' : Int) (nt' : ByteArray) (hr : r.length = 32) (hr' : r'.length = 32) (w : World) (hK : IsKeys w a n fl) (hK' : IsKeys w a' n' fl') (hs : nt.size ≤ maxLen) (hs' : nt'.size ≤ maxLen) (V : Bool)
    (hS : ∀ (g g' : Nat) (U : World), n ≤ 1048576 → n' ≤ 1048576 → RdK U (some ⟨g, 0, none⟩) n fl → RdK U (some ⟨g', 0, none⟩) n' fl' → Calls Try.prog 14 #[.agg (comC r (.slice (some ⟨g, 0, none⟩) n n) z nt), .agg (comC r' (.slice (some ⟨g', 0, none⟩) n' n') z' nt')] U fun e w' => e = .returned (.bool V) ∧ Below U.heap.size U w')
    (hI : ∀ (g g' : Nat) (U : World), n ≤ 1048576 → n' ≤ 1048576 → RdK U (some ⟨g, 0, none⟩) n fl → RdK U (some ⟨g', 0, none⟩) n' fl' → Calls Try.prog 15 #[.agg (comC r (.slice (some ⟨g, 0, none⟩) n n) z nt), .agg (comC r' (.slice (some ⟨g', 0, none⟩) n' n') z' nt')] U fun e w' => e = .returned (.bool V) ∧ Below U.heap.size U w') :
    Calls Try.prog 4 #[.agg (comC r (.slice a n ca) z nt), .agg (comC r' (.slice a' n' ca') z' nt')] w fun e w' => e = .returned (.bool true) ∧ Below w.heap.size w w' := by
  have A0 := heap_alloc2_old w (.cells (comC r (.slice a n ca) z nt) 25) (.cells (comC r' (.slice a' n' ca') z' nt') 25)
  have A1 := heap_alloc2_new w (.cells (comC r (.slice a n ca) z nt) 25) (.cells (comC r' (.slice a' n' ca') z' nt') 25)
  have B0' := ((Below.refl w.heap.size w).alloc (Nat.le_refl _) (.cells (comC r (.slice a n ca) z nt) 25)).alloc (by simp) (.cells (comC r' (.slice a' n' ca') z' nt') 25)
  obtain ⟨w0, hw0⟩ : ∃ w0, (w.alloc (.cells (comC r (.slice a n ca) z nt) 25)).alloc (.cells (comC r' (.slice a' n' ca') z' nt') 25) = w0 := ⟨_, rfl⟩
  rw [hw0] at A0 A1 B0'
  have E0 := Lib.hid A0
  have F0 := Lib.hid A1
  have B0 := Lib.hid B0'
  have HR := Lib.hid hr
  have HR' := Lib.hid hr'
  have HS := Lib.hid (fun v => comC_size v z nt hr)
  have HS' := Lib.hid (fun v => comC_size v z' nt' hr')
  have HIA := Lib.hid hK.2.1
  have HIA' := Lib.hid hK'.2.1
  have HL := Lib.hid hK.2.1.1
  have HL' := Lib.hid hK'.2.1.1
  have HMX := Lib.hid hK.1
  have HMX' := Lib.hid hK'.1
  have HNT := Lib.hid hs
  have HNT' := Lib.hid hs'
  have CZ := Lib.hid comZ
  clear A0 A1 B0' hr hr' hK hK' hs hs'
  go_enter Try.func4, Try.ntmps4
  go_wp2_with (refine wpList_load_row rfl 25 _ rfl w.heap.size rfl 25 (comC r (.slice a n ca) z nt) (0, 0) _ E0.out Try.underlying25 rfl (by rw [HS.out]; exact sizeLCom) ?_)
  refine (szCom r a n ca z nt HR.out HMX.out HNT.out 1048576 (by omega) (by omega) _).mono ?_
  rintro e w1 ⟨⟨q0, rfl, hq⟩, hb⟩
  have B1 := Lib.hid (below_call B0.out B0.out.size hb)
  have E1 := Lib.hid (keep_block E0.out hb)
  have F1 := Lib.hid (keep_block F0.out hb)
  clear hb hw0
  rcases hq with rfl | ⟨q1, hq⟩
  · go_wp2_with fail
    go_ret
    exact ⟨rfl, B1.out⟩
  have q2 : ¬ q0 < 0 := by omega
  have q3 : q0 ≤ 1099511627776 := by omega
  have HQ := Lib.hid (And.intro q1 hq)
  clear hq E0 F0 B0
  go_wp2_with (refine wpList_load_row rfl 25 _ rfl (w.heap.size + 1) rfl 25 (comC r' (.slice a' n' ca') z' nt') (0, 0) _ F1.out Try.underlying25 rfl (by rw [HS'.out]; exact sizeLCom) ?_)
  refine (szCom r' a' n' ca' z' nt' HR'.out HMX'.out HNT'.out q0 q1 q3 _).mono ?_
  rintro e w2 ⟨⟨p0, rfl, hp⟩, hb⟩
  have B2 := Lib.hid (below_call B1.out B1.out.size hb)
  have E2 := Lib.hid (keep_block E1.out hb)
  have F2 := Lib.hid (keep_block F1.out hb)
  clear hb E1 F1 B1
  rcases hp with rfl | ⟨p1, hp⟩
  · go_wp2_with fail
    go_ret
    exact ⟨rfl, B2.out⟩
  have p2 : ¬ p0 < 0 := by omega
  have hqq := HQ.out.2
  have hn : n ≤ 1048576 := by omega
  have hn' : n' ≤ 1048576 := by omega
  clear hp p1 hqq HQ q1 q3
  have HSP := Lib.hid (fun g g' U => hS g g' U hn hn')
  have HIM := Lib.hid (fun g g' U => hI g g' U hn hn')
  clear hS hI
  go_upto_region 8 with fail
  refine wp_region_held_drew (S := Below w2.heap.size w2) (by kernel_rfl) ((Below.refl _ _).drew) (fun hS => ?_)
  refine takeS (i := 0) (v := .agg (comC r (.slice a n ca) z nt)) rfl rfl (by kernel_rfl) (by kernel_rfl) (by kernel_rfl) (fun _ _ _ h => h) (yields_rowC (by rfl) 25 _ rfl w.heap.size rfl (comC r (.slice a n ca) z nt) 25 _ (fun U hU => keep_block E2.out hU) Try.underlying25 rfl (by rw [HS.out]; exact sizeLCom)) hS ?_
  try simp only [List.setIfInBounds_toArray, List.set_cons_zero, List.set_cons_succ]
  refine takeS (i := 2) (v := .agg (comC r' (.slice a' n' ca') z' nt')) rfl rfl (by kernel_rfl) (by kernel_rfl) (by kernel_rfl) (fun _ _ _ h => h) (yields_rowC (by rfl) 25 _ rfl (w.heap.size + 1) rfl (comC r' (.slice a' n' ca') z' nt') 25 _ (fun U hU => keep_block F2.out hU) Try.underlying25 rfl (by rw [HS'.out]; exact sizeLCom)) hS ?_
  try simp only [List.setIfInBounds_toArray, List.set_cons_zero, List.set_cons_succ]
  refine wpAnyH_ready (rs := [1]) (by kernel_rfl) (by simp) ?_
  refine AllReadyH.cons rfl (fun KQ hK => ?_) AllReadyH.nil
  rw [if_pos (by rfl)]
  go_simp
  refine (toCom r a n ca fl z nt HR.out hn _ (HIA.out.below ((B2.out).trans (hS.mono B2.out.size)))).mono ?_
  rintro e u5 ⟨g5, rfl, -, ho, hb⟩
  have OA := Lib.hid (rdk_blk HL.out ho)
  refine hK.out _ _ (below_call hS hS.size hb) (fun hS => ?_)
  clear hb hK ho
  refine wpAnyH_ready (rs := [3]) (by kernel_rfl) (by simp) ?_
  refine AllReadyH.cons rfl (fun KQ hK => ?_) AllReadyH.nil
  rw [if_pos (by rfl)]
  go_simp
  refine (toCom r' a' n' ca' fl' z' nt' HR'.out hn' _ (HIA'.out.below ((B2.out).trans (hS.mono B2.out.size)))).mono ?_
  rintro e u6 ⟨g6, rfl, -, ho, hb⟩
  have OB := Lib.hid (rdk_blk HL'.out ho)
  have OA := Lib.hid (OA.out.below hb)
  refine hK.out _ _ (below_call hS hS.size hb) (fun hS => ?_)
  clear hb hK ho
  refine wpAnyH_ready (rs := [4]) (by kernel_rfl) (by simp) ?_
  refine AllReadyH.cons rfl (fun KQ hK => ?_) AllReadyH.nil
  rw [if_pos (by rfl)]
  go_simp
  refine (HSP.out g5 g6 _ OA.out OB.out).mono ?_
  rintro e u7 ⟨rfl, hb⟩
  refine hK.out _ _ (below_call hS hS.size hb) (fun hS => ?_)
  clear hb hK OA OB
  refine takeS (i := 5) (v := .bool V) rfl rfl (by kernel_rfl) (by kernel_rfl) (by kernel_rfl) (fun _ _ _ h => h) (Or.inl ⟨by rfl, fun U hU => by go_simp⟩) hS ?_
  try simp only [List.setIfInBounds_toArray, List.set_cons_zero, List.set_cons_succ]
  refine wpAnyH_done (by kernel_rfl) ?_ _
  have B3 := Lib.hid (below_call B2.out B2.out.size hS)
  have E3 := Lib.hid (keep_block E2.out hS)
  have F3 := Lib.hid (keep_block F2.out hS)
  clear hS E2 F2 B2
  go_wp2_with (refine wpList_load_row rfl 25 _ rfl w.heap.size rfl 25 (comC r (.slice a n ca) z nt) (0, 0) _ E3.out Try.underlying25 rfl (by rw [HS.out]; exact sizeLCom) ?_)
  refine (toCom r a n ca fl z nt HR.out hn _ (HIA.out.below B3.out)).mono ?_
  rintro e w4 ⟨g4, rfl, -, ho, hb⟩
  have K4 := Lib.hid ho
  clear ho
  have B4 := Lib.hid (below_call B3.out B3.out.size hb)
  have E4 := Lib.hid (keep_block E3.out hb)
  have F4 := Lib.hid (keep_block F3.out hb)
  clear hb B3 E3 F3
  have LB := layBC w4 (comC z32 (.slice none 0 0) 0 ⟨#[]⟩) (comC r (.slice (some ⟨g4, 0, none⟩) n n) z nt) 31
  have LN := layNC w4 (comC z32 (.slice none 0 0) 0 ⟨#[]⟩) (comC r (.slice (some ⟨g4, 0, none⟩) n n) z nt) 31
  have B5 := Lib.hid (below_call B4.out B4.out.size LB)
  have E5 := Lib.hid (keep_block E4.out LB)
  have F5 := Lib.hid (keep_block F4.out LB)
  have K5 := Lib.hid (keep_block K4.out LB)
  have X5 := Lib.hid LN
  clear LB LN
  rw [CZ.out] at B5 X5 E5 F5 K5
  go_upto_region 10 with (refine wpList_store_row rfl 31 _ _ rfl w4.heap.size (comC r (.slice (some ⟨g4, 0, none⟩) n n) z nt) rfl rfl 31 (comC z32 (.slice none 0 0) 0 ⟨#[]⟩) (by rw [CZ.out]; exact heap_alloc_last _ _) (by rw [HS.out]; exact sizeCom) (by rw [HS.out, comC_size _ _ _ z32_len]) (comC_one _ _ _ _ rfl) ?_)
  rw [← CZ.out] at B5 X5 E5 F5 K5 ⊢
  generalize (w4.alloc (.cells (comC z32 (.slice none 0 0) 0 ⟨#[]⟩) 31)).setRow w4.heap.size (comC r (.slice (some ⟨g4, 0, none⟩) n n) z nt) = w5 at B5 X5 E5 F5 K5 ⊢
  generalize w4.heap.size = x0 at X5 ⊢
  clear B4 E4 F4 K4
  go_wp2_with (refine wpList_load_row rfl 25 _ rfl (w.heap.size + 1) rfl 25 (comC r' (.slice a' n' ca') z' nt') (0, 0) _ F5.out Try.underlying25 rfl (by rw [HS'.out]; exact sizeLCom) ?_)
  refine (toCom r' a' n' ca' fl' z' nt' HR'.out hn' _ (HIA'.out.below B5.out)).mono ?_
  rintro e w6 ⟨g6, rfl, -, ho, hb⟩
  have J6 := Lib.hid ho
  clear ho
  have B6 := Lib.hid (below_call B5.out B5.out.size hb)
  have E6 := Lib.hid (keep_block E5.out hb)
  have F6 := Lib.hid (keep_block F5.out hb)
  have K6 := Lib.hid (keep_block K5.out hb)
  have X6 := Lib.hid (keep_block X5.out hb)
  clear hb B5 E5 F5 K5 X5
  have LB := layBC w6 (comC z32 (.slice none 0 0) 0 ⟨#[]⟩) (comC r' (.slice (some ⟨g6, 0, none⟩) n' n') z' nt') 31
  have LN := layNC w6 (comC z32 (.slice none 0 0) 0 ⟨#[]⟩) (comC r' (.slice (some ⟨g6, 0, none⟩) n' n') z' nt') 31
  have B7 := Lib.hid (below_call B6.out B6.out.size LB)
  have E7 := Lib.hid (keep_block E6.out LB)
  have F7 := Lib.hid (keep_block F6.out LB)
  have K7 := Lib.hid (keep_block K6.out LB)
  have X7 := Lib.hid (keep_block X6.out LB)
  have J7 := Lib.hid (keep_block J6.out LB)
  have Y7 := Lib.hid LN
  clear LB LN
  rw [CZ.out] at B7 Y7 E7 F7 K7 X7 J7
  go_upto_region 11 with (refine wpList_store_row rfl 31 _ _ rfl w6.heap.size (comC r' (.slice (some ⟨g6, 0, none⟩) n' n') z' nt') rfl rfl 31 (comC z32 (.slice none 0 0) 0 ⟨#[]⟩) (by rw [CZ.out]; exact heap_alloc_last _ _) (by rw [HS'.out]; exact sizeCom) (by rw [HS'.out, comC_size _ _ _ z32_len]) (comC_one _ _ _ _ rfl) ?_)
  rw [← CZ.out] at B7 Y7 E7 F7 K7 X7 J7 ⊢
  generalize (w6.alloc (.cells (comC z32 (.slice none 0 0) 0 ⟨#[]⟩) 31)).setRow w6.heap.size (comC r' (.slice (some ⟨g6, 0, none⟩) n' n') z' nt') = w7 at B7 Y7 E7 F7 K7 X7 J7 ⊢
  generalize w6.heap.size = x1 at Y7 ⊢
  clear B6 E6 F6 K6 X6 J6
  go_wp2_with (first | (refine wpList_load_row rfl 31 _ rfl x0 rfl 31 (comC r (.slice (some ⟨g4, 0, none⟩) n n) z nt) (0, 0) _ X7.out Try.underlying31 rfl (by rw [HS.out]; exact sizeCom) ?_) | (refine wpList_load_row rfl 31 _ rfl x1 rfl 31 (comC r' (.slice (some ⟨g6, 0, none⟩) n' n') z' nt') (0, 0) _ Y7.out Try.underlying31 rfl (by rw [HS'.out]; exact sizeCom) ?_))
  refine (HIM.out g4 g6 _ (rdk_blk HL.out K7.out) (rdk_blk HL'.out J7.out)).mono ?_
  rintro e w8 ⟨rfl, hb⟩
  have B8 := Lib.hid (below_call B7.out B7.out.size hb)
  have E8 := Lib.hid (keep_block E7.out hb)
  have F8 := Lib.hid (keep_block F7.out hb)
  have K8 := Lib.hid (keep_block K7.out hb)
  have X8 := Lib.hid (keep_block X7.out hb)
  have J8 := Lib.hid (keep_block J7.out hb)
  have Y8 := Lib.hid (keep_block Y7.out hb)
  clear hb B7 E7 F7 K7 X7 J7 Y7
  have hVV : (V != V) = false := by simp
  go_upto_region 14 with fail
  refine wp_region_held_drew (S := Below w8.heap.size w8) (by kernel_rfl) ((Below.refl _ _).drew) (fun hS => ?_)
  refine takeS (i := 0) (v := .agg (comC r (.slice (some ⟨g4, 0, none⟩) n n) z nt)) rfl rfl (by kernel_rfl) (by kernel_rfl) (by kernel_rfl) (fun _ _ _ h => h) (yields_rowC (by rfl) 31 _ rfl x0 rfl (comC r (.slice (some ⟨g4, 0, none⟩) n n) z nt) 31 _ (fun U hU => keep_block X8.out hU) Try.underlying31 rfl (by rw [HS.out]; exact sizeCom)) hS ?_
  try simp only [List.setIfInBounds_toArray, List.set_cons_zero, List.set_cons_succ]
  refine takeS (i := 1) (v := .agg (comC r (.slice a n ca) z nt)) rfl rfl (by kernel_rfl) (by kernel_rfl) (by kernel_rfl) (fun _ _ _ h => h) (yields_rowC (by rfl) 25 _ rfl w.heap.size rfl (comC r (.slice a n ca) z nt) 25 _ (fun U hU => keep_block E8.out hU) Try.underlying25 rfl (by rw [HS.out]; exact sizeLCom)) hS ?_
  try simp only [List.setIfInBounds_toArray, List.set_cons_zero, List.set_cons_succ]
  refine wpAnyH_ready (rs := [2]) (by kernel_rfl) (by simp) ?_
  refine AllReadyH.cons rfl (fun KQ hK => ?_) AllReadyH.nil
  rw [if_pos (by rfl)]
  go_simp
  refine (toCom r a n ca fl z nt HR.out hn _ (HIA.out.below ((B8.out).trans (hS.mono B8.out.size)))).mono ?_
  rintro e u5 ⟨g5, rfl, -, ho, hb⟩
  have OA := Lib.hid (rdk_blk HL.out ho)
  have OB := Lib.hid ((rdk_blk HL.out K8.out).below (below_call hS hS.size hb))
  refine hK.out _ _ (below_call hS hS.size hb) (fun hS => ?_)
  clear hb hK ho
  refine wpAnyH_ready (rs := [3]) (by kernel_rfl) (by simp) ?_
  refine AllReadyH.cons rfl (fun KQ hK => ?_) AllReadyH.nil
  rw [if_pos (by rfl)]
  go_simp
  refine (eqCom r _ _ n n n fl z nt HR.out hn _ OB.out OA.out).mono ?_
  rintro e u6 ⟨rfl, hb⟩
  refine hK.out _ _ (below_call hS hS.size hb) (fun hS => ?_)
  clear hb hK OA OB
  refine takeS (i := 4) (v := .bool false) rfl rfl (by kernel_rfl) (by kernel_rfl) (by kernel_rfl) (fun _ _ _ h => h) (Or.inl ⟨by rfl, fun U hU => by go_simp⟩) hS ?_
  try simp only [List.setIfInBounds_toArray, List.set_cons_zero, List.set_cons_succ]
  refine wpAnyH_done (by kernel_rfl) ?_ _
  have B9 := Lib.hid (below_call B8.out B8.out.size hS)
  have F9 := Lib.hid (keep_block F8.out hS)
  have J9 := Lib.hid (keep_block J8.out hS)
  have Y9 := Lib.hid (keep_block Y8.out hS)
  clear hS B8 F8 J8 Y8
  go_upto_region 16 with fail
  refine wp_region_held_drew (S := Below u6.heap.size u6) (by kernel_rfl) ((Below.refl _ _).drew) (fun hS => ?_)
  refine takeS (i := 0) (v := .agg (comC r' (.slice (some ⟨g6, 0, none⟩) n' n') z' nt')) rfl rfl (by kernel_rfl) (by kernel_rfl) (by kernel_rfl) (fun _ _ _ h => h) (yields_rowC (by rfl) 31 _ rfl x1 rfl (comC r' (.slice (some ⟨g6, 0, none⟩) n' n') z' nt') 31 _ (fun U hU => keep_block Y9.out hU) Try.underlying31 rfl (by rw [HS'.out]; exact sizeCom)) hS ?_
  try simp only [List.setIfInBounds_toArray, List.set_cons_zero, List.set_cons_succ]
  refine takeS (i := 1) (v := .agg (comC r' (.slice a' n' ca') z' nt')) rfl rfl (by kernel_rfl) (by kernel_rfl) (by kernel_rfl) (fun _ _ _ h => h) (yields_rowC (by rfl) 25 _ rfl (w.heap.size + 1) rfl (comC r' (.slice a' n' ca') z' nt') 25 _ (fun U hU => keep_block F9.out hU) Try.underlying25 rfl (by rw [HS'.out]; exact sizeLCom)) hS ?_
  try simp only [List.setIfInBounds_toArray, List.set_cons_zero, List.set_cons_succ]
  refine wpAnyH_ready (rs := [2]) (by kernel_rfl) (by simp) ?_
  refine AllReadyH.cons rfl (fun KQ hK => ?_) AllReadyH.nil
  rw [if_pos (by rfl)]
  go_simp
  refine (toCom r' a' n' ca' fl' z' nt' HR'.out hn' _ (HIA'.out.below ((B9.out).trans (hS.mono B9.out.size)))).mono ?_
  rintro e u5 ⟨g5, rfl, -, ho, hb⟩
  have OA := Lib.hid (rdk_blk HL'.out ho)
  have OB := Lib.hid ((rdk_blk HL'.out J9.out).below (below_call hS hS.size hb))
  refine hK.out _ _ (below_call hS hS.size hb) (fun hS => ?_)
  clear hb hK ho
  refine wpAnyH_ready (rs := [3]) (by kernel_rfl) (by simp) ?_
  refine AllReadyH.cons rfl (fun KQ hK => ?_) AllReadyH.nil
  rw [if_pos (by rfl)]
  go_simp
  refine (eqCom r' _ _ n' n' n' fl' z' nt' HR'.out hn' _ OB.out OA.out).mono ?_
  rintro e u6 ⟨rfl, hb⟩
  refine hK.out _ _ (below_call hS hS.size hb) (fun hS => ?_)
  clear hb hK OA OB
  refine takeS (i := 4) (v := .bool false) rfl rfl (by kernel_rfl) (by kernel_rfl) (by kernel_rfl) (fun _ _ _ h => h) (Or.inl ⟨by rfl, fun U hU => by go_simp⟩) hS ?_
  try simp only [List.setIfInBounds_toArray, List.set_cons_zero, List.set_cons_succ]
  refine wpAnyH_done (by kernel_rfl) ?_ _
  have B10 := Lib.hid (below_call B9.out B9.out.size hS)
  clear hS
  go_wp2_with fail
  go_ret
  exact ⟨rfl, B10.out⟩
theorem FnExactSameCommit_walk (r : List Int) (a : Option Addr) (n ca : Nat) (fl : List Int) (z : Int) (nt : ByteArray) (r' : List Int) (a' : Option Addr) (n' ca' : Nat) (fl' : List Int) (z' : Int) (nt' : ByteArray) (w : World) (f : r.length = 32 ∧ ∀ y ∈ r, 0 ≤ y ∧ y ≤ 255) (g : IsKeys w a n fl) (h : nt.size ≤ maxLen) (f' : r'.length = 32 ∧ ∀ y ∈ r', 0 ≤ y ∧ y ≤ 255) (g' : IsKeys w a' n' fl') (h' : nt'.size ≤ maxLen) :
    Calls Try.prog 4 #[.agg (comC r (.slice a n ca) z nt), .agg (comC r' (.slice a' n' ca') z' nt')] w fun e w' => e = .returned (.bool true) ∧ Below w.heap.size w w' :=
  FnExactSameCommit_in r a n ca fl z nt r' a' n' ca' fl' z' nt' f.1 f'.1 w g g' h h' (smB r r' fl fl' z z' nt nt') (fun q q' U hn hn' hk hk' => sm_spec r r' _ _ n n n' n' fl fl' z z' nt nt' f.1 f'.1 hn hn' U hk hk') (fun q q' U hn hn' hk hk' => sm_impl r r' _ _ n n n' n' fl fl' z z' nt nt' f.1 f'.1 hn hn' U hk hk')
end Go.Proofs.Ytnnplebebhjfaaa
