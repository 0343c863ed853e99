/- The statement on PutEntry: its walk. Written by wip/gen/put2.py. -/
import Derived.Test.YtmkddiconpacnaaMkV
import Derived.Test.YtmkddiconpacnaaPutK
namespace Go.Proofs.Ytmkddiconpacnaa
open Go.ChangeShapes Go.WideShapes Go.ChangeAt Go.RowKit
set_option linter.unusedVariables false
set_option linter.unusedSimpArgs false
set_option maxRecDepth 100000 in
set_option maxHeartbeats 2000000 in
theorem pt_spec_long (a : Option Addr) (n cap : Nat) (es : List ByteArray) (nm vl : ByteArray) (hn : n ≤ 1048576) (h64 : 65536 < n) (hm : ∀ s ∈ es, s.size ≤ maxLen) (w : World) (hr : RdE w a n es) :
    Calls Try.prog 17 #[.slice a n cap, .agg #[.string nm, .string vl]] w fun e w' => ∃ v, e = .returned (.tuple #[v, .int .i64 1]) ∧ w'.ownsRow w.heap.size 31 2 v 0 (([] : List ByteArray).map Value.string) ∧ Below w.heap.size w w' := by
  have B0' := (Below.refl w.heap.size w).alloc (Nat.le_refl _) (.cells #[.string nm, .string vl] 31)
  obtain ⟨W0, hW0⟩ : ∃ W0, w.alloc (.cells #[.string nm, .string vl] 31) = W0 := ⟨_, rfl⟩
  rw [hW0] at B0'
  have B0 := Lib.hid B0'
  have hok : ¬ okE es n := fun h => by have := h.1; omega
  have HOK := Lib.hid (ok_spec a n cap es hn hm W0 (hr.below B0'))
  rw [decide_eq_false hok] at HOK
  clear hr hm hok B0'
  go_enter Try.func17, Try.ntmps17
  go_wp2_with fail
  clear hW0
  refine HOK.out.mono ?_
  rintro e w1 ⟨rfl, hb⟩
  have B1 := Lib.hid (below_call B0.out B0.out.size hb)
  clear hb
  go_wp2_with fail
  go_ret2
  exact ⟨_, rfl, ownsE_base B1.out.size (ownsE_empty w1 31 2), B1.out.alloc B1.out.size _⟩
set_option maxRecDepth 100000 in
set_option maxHeartbeats 2000000 in
theorem pt_impl_long (a : Option Addr) (n cap : Nat) (es : List ByteArray) (nm vl : ByteArray) (hn : n ≤ 1048576) (h64 : 65536 < n) (hm : ∀ s ∈ es, s.size ≤ maxLen) (w : World) (hr : RdE w a n es) :
    Calls Try.prog 20 #[.slice a n cap, .agg #[.string nm, .string vl]] w fun e w' => ∃ v, e = .returned (.tuple #[v, .int .i64 1]) ∧ w'.ownsRow w.heap.size 31 2 v 0 (([] : List ByteArray).map Value.string) ∧ Below w.heap.size w w' := by
  have B0' := (Below.refl w.heap.size w).alloc (Nat.le_refl _) (.cells #[.string nm, .string vl] 31)
  obtain ⟨W0, hW0⟩ : ∃ W0, w.alloc (.cells #[.string nm, .string vl] 31) = W0 := ⟨_, rfl⟩
  rw [hW0] at B0'
  have B0 := Lib.hid B0'
  have hok : ¬ okE es n := fun h => by have := h.1; omega
  have HOK := Lib.hid (ok_impl a n cap es hn hm W0 (hr.below B0'))
  rw [decide_eq_false hok] at HOK
  clear hr hm hok B0'
  go_enter Try.func20, Try.ntmps20
  go_wp2_with fail
  clear hW0
  refine HOK.out.mono ?_
  rintro e w1 ⟨rfl, hb⟩
  have B1 := Lib.hid (below_call B0.out B0.out.size hb)
  clear hb
  go_wp2_with fail
  go_ret2
  exact ⟨_, rfl, ⟨rfl, Or.inl ⟨rfl, rfl⟩⟩, B1.out⟩
set_option maxRecDepth 100000 in
set_option maxHeartbeats 8000000 in
theorem pt_in (nm vl : ByteArray) (a : Option Addr) (n cap : Nat) (es VV : List ByteArray) (NN : Nat) (EE : Int) (hm : ∀ s ∈ es, s.size ≤ maxLen) (hz : nm.size ≤ maxLen) (hy : vl.size ≤ maxLen) (h : n + sumS es + (nm.size + vl.size) ≤ 1048576) (hV : VV.length = 2 * NN) (hN : NN ≤ 1048576) (w : World) (hr : RdE w a n es)
    (hs : ∀ (U : World) b, RdE U b n es → Calls Try.prog 17 #[.slice b n n, .agg #[.string nm, .string vl]] U fun e w' => ∃ v, e = .returned (.tuple #[v, .int .i64 EE]) ∧ w'.ownsRow U.heap.size 31 2 v NN (VV.map Value.string) ∧ Below U.heap.size U w')
    (hi : ∀ (U : World) b, RdE U b n es → Calls Try.prog 20 #[.slice b n n, .agg #[.string nm, .string vl]] U fun e w' => ∃ v, e = .returned (.tuple #[v, .int .i64 EE]) ∧ w'.ownsRow U.heap.size 31 2 v NN (VV.map Value.string) ∧ Below U.heap.size U w') :
    Calls Try.prog 3 #[.slice a n cap, .agg #[.string nm, .string vl]] w fun e w' => e = .returned (.bool true) ∧ Below w.heap.size w w' := by
  have A0 := heap_alloc_last w (.cells #[.string nm, .string vl] 24)
  have B0' := (Below.refl w.heap.size w).alloc (Nat.le_refl _) (.cells #[.string nm, .string vl] 24)
  obtain ⟨w0, hw0⟩ : ∃ w0, w.alloc (.cells #[.string nm, .string vl] 24) = w0 := ⟨_, rfl⟩
  rw [hw0] at A0 B0'
  have E0 := Lib.hid A0
  have B0 := Lib.hid B0'
  have HR := Lib.hid hr
  have HL := Lib.hid hr.1
  have HV := Lib.hid hV
  have HSP := Lib.hid hs
  have HIM := Lib.hid hi
  have HZE := Lib.hid (fun U => szE_in nm vl (1048576 - (n : Int) - (sumS es : Int)) (by omega) (by omega) hz hy (by omega) U)
  have q0' : ¬ (1048576 : Int) - (n : Int) - (sumS es : Int) < 0 := by omega
  have q1' : ¬ (1048576 : Int) - (n : Int) - (sumS es : Int) - (nm.size : Int) - (vl.size : Int) < 0 := by omega
  have q2' : ¬ (1 : Int) + ((2 * n : Nat) : Int) < 0 := by omega
  have q3' : ¬ (1 : Int) + ((2 * NN : Nat) : Int) < 0 := by omega
  clear hr hV hs hi A0 B0' hz hy
  go_enter Try.func3, Try.ntmps3
  go_wp2_with fail
  refine (szES_in a n cap es 1048576 (by omega) (by omega) hm (by omega) _ (HR.out.below B0.out)).mono ?_
  rintro e w1 ⟨rfl, hb⟩
  have B1 := Lib.hid (below_call B0.out B0.out.size hb)
  have E1 := Lib.hid (keep_block E0.out hb)
  clear hw0
  clear hb
  have q0 := cell_of_row _ w.heap.size 0 _ _ _ E1.out
  have q1 := cell_of_row _ w.heap.size 1 _ _ _ E1.out
  go_wp2_with fail
  refine (HZE.out _).mono ?_
  rintro e w2 ⟨rfl, hb⟩
  have B2 := Lib.hid (below_call B1.out B1.out.size hb)
  have E2 := Lib.hid (keep_block E1.out hb)
  clear q0 q1
  clear hb
  go_upto_region 8 with fail
  refine wp_region_held_drew (S := Below (w2).heap.size (w2)) (by kernel_rfl) ((Below.refl _ _).drew) (fun hS => ?_)
  refine takeS (i := 0) (v := .slice a n cap) rfl rfl (by kernel_rfl) (by kernel_rfl) (by kernel_rfl) (fun _ _ _ h => h) (Or.inl ⟨by rfl, fun U hU => by go_simp⟩) hS ?_
  try simp only [List.setIfInBounds_toArray, List.set_cons_zero, List.set_cons_succ]
  refine takeS (i := 2) (v := .agg #[.string nm, .string vl]) rfl rfl (by kernel_rfl) (by kernel_rfl) (by kernel_rfl) (fun _ _ _ h => h) (Or.inl ⟨by rfl, fun U hU => by have q0 := cell_of_row _ w.heap.size 0 _ _ _ (keep_block E2.out hU); have q1 := cell_of_row _ w.heap.size 1 _ _ _ (keep_block E2.out hU); go_simp⟩) hS ?_
  try simp only [List.setIfInBounds_toArray, List.set_cons_zero, List.set_cons_succ]
  refine wpAnyH_ready (rs := [1]) (by kernel_rfl) (by simp) ?_
  refine AllReadyH.cons rfl (fun KQ hK => ?_) AllReadyH.nil
  rw [if_pos (by rfl)]
  go_simp
  refine (toES a n cap es (by omega) _ (HR.out.below (below_call B2.out B2.out.size hS))).mono ?_
  rintro e wA ⟨rfl, hg, hb⟩
  have XA := Lib.hid (show wA.heap[w2.heap.size]? = some (.cells (strs es) 31) from hg)
  clear hg
  refine hK.out _ _ (below_call hS hS.size hb) (fun hS => ?_)
  clear hb hK
  refine wpAnyH_ready (rs := [3]) (by kernel_rfl) (by simp) ?_
  refine AllReadyH.cons rfl (fun KQ hK => ?_) AllReadyH.nil
  rw [if_pos (by rfl)]
  go_simp
  refine (toEnt nm vl _).mono ?_
  rintro e wB ⟨rfl, hb⟩
  have XB := Lib.hid (keep_block XA.out hb)
  refine hK.out _ _ (below_call hS hS.size hb) (fun hS => ?_)
  clear hb hK
  refine wpAnyH_ready (rs := [4]) (by kernel_rfl) (by simp) ?_
  refine AllReadyH.cons rfl (fun KQ hK => ?_) AllReadyH.nil
  rw [if_pos (by rfl)]
  go_simp
  refine (HSP.out _ _ (RdE.row HL.out XB.out)).mono ?_
  rintro e w3 ⟨vS, rfl, ho, hb⟩
  obtain ⟨aS, cS, rfl, hSr⟩ := RdE.owned HV.out ho
  have S3 := Lib.hid hSr
  clear hSr ho XB
  refine hK.out _ _ (below_call hS hS.size hb) (fun hS => ?_)
  clear hb hK
  refine takeS (i := 5) (v := .tuple #[.slice aS NN cS, .int .i64 EE]) rfl rfl (by kernel_rfl) (by kernel_rfl) (by kernel_rfl) (fun _ _ _ h => h) (Or.inl ⟨by rfl, fun U hU => by go_simp⟩) hS ?_
  try simp only [List.setIfInBounds_toArray, List.set_cons_zero, List.set_cons_succ]
  refine takeS (i := 6) (v := .slice aS NN cS) rfl rfl (by kernel_rfl) (by kernel_rfl) (by kernel_rfl) (fun _ _ _ h => h) (Or.inl ⟨by rfl, fun U hU => by go_simp⟩) hS ?_
  try simp only [List.setIfInBounds_toArray, List.set_cons_zero, List.set_cons_succ]
  refine takeS (i := 7) (v := .int .i64 EE) rfl rfl (by kernel_rfl) (by kernel_rfl) (by kernel_rfl) (fun _ _ _ h => h) (Or.inl ⟨by rfl, fun U hU => by go_simp⟩) hS ?_
  try simp only [List.setIfInBounds_toArray, List.set_cons_zero, List.set_cons_succ]
  refine takeS (i := 8) (v := .slice aS NN cS) rfl rfl (by kernel_rfl) (by kernel_rfl) (by kernel_rfl) (fun _ _ _ h => h) (Or.inl ⟨by rfl, fun U hU => by go_simp⟩) hS ?_
  try simp only [List.setIfInBounds_toArray, List.set_cons_zero, List.set_cons_succ]
  refine takeS (i := 9) (v := .int .i64 EE) rfl rfl (by kernel_rfl) (by kernel_rfl) (by kernel_rfl) (fun _ _ _ h => h) (Or.inl ⟨by rfl, fun U hU => by go_simp⟩) hS ?_
  try simp only [List.setIfInBounds_toArray, List.set_cons_zero, List.set_cons_succ]
  refine wpAnyH_done (by kernel_rfl) ?_ _
  have B3 := Lib.hid (below_call B2.out B2.out.size hS)
  have E3 := Lib.hid (keep_block E2.out hS)
  clear hS
  have D3 := Lib.hid (Below.refl w3.heap.size w3)
  have RS := Lib.hid S3.out
  have RE := Lib.hid E3.out
  go_wp2_with fail
  refine (toES a n cap es (by omega) _ (HR.out.below B3.out)).mono ?_
  rintro e w4 ⟨rfl, hg, hb⟩
  have B4 := Lib.hid (below_call B3.out B3.out.size hb)
  have D4 := Lib.hid (below_call D3.out D3.out.size hb)
  have E4 := Lib.hid (keep_block E3.out hb)
  have S4 := Lib.hid (S3.out.below hb)
  have X4 := Lib.hid hg
  clear hg
  clear hb
  have q0 := cell_of_row _ w.heap.size 0 _ _ _ E4.out
  have q1 := cell_of_row _ w.heap.size 1 _ _ _ E4.out
  go_wp2_with fail
  refine (toEnt nm vl _).mono ?_
  rintro e w5 ⟨rfl, hb⟩
  have B5 := Lib.hid (below_call B4.out B4.out.size hb)
  have D5 := Lib.hid (below_call D4.out D4.out.size hb)
  have E5 := Lib.hid (keep_block E4.out hb)
  have S5 := Lib.hid (S4.out.below hb)
  have X5 := Lib.hid (keep_block X4.out hb)
  clear q0 q1
  clear hb
  go_wp2_with fail
  refine (HIM.out _ _ (RdE.row HL.out X5.out)).mono ?_
  rintro e w6 ⟨vG, rfl, ho, hb⟩
  have B6 := Lib.hid (below_call B5.out B5.out.size hb)
  have D6 := Lib.hid (below_call D5.out D5.out.size hb)
  have E6 := Lib.hid (keep_block E5.out hb)
  have S6 := Lib.hid (S5.out.below hb)
  have X6 := Lib.hid (keep_block X5.out hb)
  obtain ⟨aG, cG, hvG, hG⟩ := RdE.owned HV.out ho
  subst hvG
  have G6 := Lib.hid hG
  have O6 := Lib.hid ho
  have BASE := Lib.hid (Array.getElem?_eq_some_iff.1 X5.out).1
  have B5L := Lib.hid (D5.out.size)
  clear hG ho
  clear hb
  go_wp2_with fail
  refine (eqES _ _ NN _ _ VV (by omega) _ G6.out S6.out).mono ?_
  rintro e w7 ⟨rfl, hb⟩
  have B7 := Lib.hid (below_call B6.out B6.out.size hb)
  have D7 := Lib.hid (below_call D6.out D6.out.size hb)
  have E7 := Lib.hid (keep_block E6.out hb)
  have S7 := Lib.hid (S6.out.below hb)
  have X7 := Lib.hid (keep_block X6.out hb)
  have G7 := Lib.hid (G6.out.below hb)
  have O7 := Lib.hid (owns_below O6.out hb)
  clear hb
  go_wp2_with fail
  refine (toES a n cap es (by omega) _ (HR.out.below B7.out)).mono ?_
  rintro e w8 ⟨rfl, hg, hb⟩
  have B8 := Lib.hid (below_call B7.out B7.out.size hb)
  have D8 := Lib.hid (below_call D7.out D7.out.size hb)
  have E8 := Lib.hid (keep_block E7.out hb)
  have S8 := Lib.hid (S7.out.below hb)
  have X8 := Lib.hid (keep_block X7.out hb)
  have G8 := Lib.hid (G7.out.below hb)
  have O8 := Lib.hid (owns_below O7.out hb)
  have Z8 := Lib.hid hg
  clear hg
  generalize w7.heap.size = gZ at Z8 ⊢
  clear hb
  go_wp2_with fail
  refine (eqES _ _ n n n es (by omega) _ (RdE.row HL.out X8.out) (RdE.row HL.out Z8.out)).mono ?_
  rintro e w9 ⟨rfl, hb⟩
  have B9 := Lib.hid (below_call B8.out B8.out.size hb)
  have D9 := Lib.hid (below_call D8.out D8.out.size hb)
  have E9 := Lib.hid (keep_block E8.out hb)
  have S9 := Lib.hid (S8.out.below hb)
  have X9 := Lib.hid (keep_block X8.out hb)
  have O9 := Lib.hid (owns_below O8.out hb)
  clear hb
  go_wp2_with fail
  refine (markES _ n n (strs es) (by omega) (by rw [strs_size, HL.out]; omega) _ X9.out).mono ?_
  rintro e w10 ⟨rfl, _, hit⟩
  have B10 := Lib.hid (B9.out.trans (hit.1.mono B3.out.size))
  have D10 := Lib.hid (D9.out.trans hit.1)
  have S10 := Lib.hid (RS.out.below D10.out)
  have E10 := Lib.hid (keep_block RE.out D10.out)
  have O10 := Lib.hid (owns_hitS hit BASE.out O9.out)
  obtain ⟨aG', cG', e1, hG⟩ := RdE.owned HV.out O10.out
  obtain ⟨rfl, _, rfl⟩ := Value.slice.inj e1
  have G10 := Lib.hid hG
  clear hG hit
  go_wp2_with fail
  refine (eqES _ _ NN _ _ VV (by omega) _ G10.out S10.out).mono ?_
  rintro e w11 ⟨rfl, hb⟩
  have B11 := Lib.hid (below_call B10.out B10.out.size hb)
  have D11 := Lib.hid (below_call D10.out D10.out.size hb)
  have E11 := Lib.hid (keep_block E10.out hb)
  have S11 := Lib.hid (S10.out.below hb)
  have O11 := Lib.hid (owns_below O10.out hb)
  clear hb
  obtain ⟨aM, cM, e1, HM⟩ := markVE _ _ _ _ (by omega) w11 O11.out
  obtain ⟨rfl, _, rfl⟩ := Value.slice.inj e1
  have HMK := Lib.hid HM
  clear HM
  go_wp2_with fail
  refine (HMK.out).mono ?_
  rintro e w12 ⟨rfl, hr, hb⟩
  have D12 := Lib.hid (D11.out.trans (hb.mono B5L.out))
  have B12 := Lib.hid (below_call B3.out B3.out.size D12.out)
  have S12 := Lib.hid (RS.out.below D12.out)
  have E12 := Lib.hid (keep_block RE.out D12.out)
  have M12 := Lib.hid hr
  clear hr hb
  go_wp2_with fail
  refine (heldES _ NN _ (by omega) _ M12.out).mono ?_
  rintro e w13 ⟨rfl, hb⟩
  have B13 := Lib.hid (below_call B12.out B12.out.size hb)
  have D13 := Lib.hid (below_call D12.out D12.out.size hb)
  have E13 := Lib.hid (keep_block E12.out hb)
  have S13 := Lib.hid (S12.out.below hb)
  have M13 := Lib.hid (M12.out.below hb)
  clear hb
  go_upto_region 27 with fail
  refine wp_region_held_drew (S := Below (w13).heap.size (w13)) (by kernel_rfl) ((Below.refl _ _).drew) (fun hS => ?_)
  refine takeS (i := 0) (v := .slice a n cap) rfl rfl (by kernel_rfl) (by kernel_rfl) (by kernel_rfl) (fun _ _ _ h => h) (Or.inl ⟨by rfl, fun U hU => by go_simp⟩) hS ?_
  try simp only [List.setIfInBounds_toArray, List.set_cons_zero, List.set_cons_succ]
  refine takeS (i := 2) (v := .agg #[.string nm, .string vl]) rfl rfl (by kernel_rfl) (by kernel_rfl) (by kernel_rfl) (fun _ _ _ h => h) (Or.inl ⟨by rfl, fun U hU => by have q0 := cell_of_row _ w.heap.size 0 _ _ _ (keep_block E13.out hU); have q1 := cell_of_row _ w.heap.size 1 _ _ _ (keep_block E13.out hU); go_simp⟩) hS ?_
  try simp only [List.setIfInBounds_toArray, List.set_cons_zero, List.set_cons_succ]
  refine wpAnyH_ready (rs := [1]) (by kernel_rfl) (by simp) ?_
  refine AllReadyH.cons rfl (fun KQ hK => ?_) AllReadyH.nil
  rw [if_pos (by rfl)]
  go_simp
  refine (toES a n cap es (by omega) _ (HR.out.below (below_call B13.out B13.out.size hS))).mono ?_
  rintro e wA ⟨rfl, hg, hb⟩
  have XA := Lib.hid (show wA.heap[w13.heap.size]? = some (.cells (strs es) 31) from hg)
  clear hg
  refine hK.out _ _ (below_call hS hS.size hb) (fun hS => ?_)
  clear hb hK
  refine wpAnyH_ready (rs := [3]) (by kernel_rfl) (by simp) ?_
  refine AllReadyH.cons rfl (fun KQ hK => ?_) AllReadyH.nil
  rw [if_pos (by rfl)]
  go_simp
  refine (toEnt nm vl _).mono ?_
  rintro e wB ⟨rfl, hb⟩
  have XB := Lib.hid (keep_block XA.out hb)
  refine hK.out _ _ (below_call hS hS.size hb) (fun hS => ?_)
  clear hb hK
  refine wpAnyH_ready (rs := [4]) (by kernel_rfl) (by simp) ?_
  refine AllReadyH.cons rfl (fun KQ hK => ?_) AllReadyH.nil
  rw [if_pos (by rfl)]
  go_simp
  refine (HIM.out _ _ (RdE.row HL.out XB.out)).mono ?_
  rintro e w14 ⟨vH, rfl, ho, hb⟩
  obtain ⟨aH, cH, rfl, hHr⟩ := RdE.owned HV.out ho
  have H14 := Lib.hid hHr
  clear hHr ho XB
  refine hK.out _ _ (below_call hS hS.size hb) (fun hS => ?_)
  clear hb hK
  refine takeS (i := 5) (v := .tuple #[.slice aH NN cH, .int .i64 EE]) rfl rfl (by kernel_rfl) (by kernel_rfl) (by kernel_rfl) (fun _ _ _ h => h) (Or.inl ⟨by rfl, fun U hU => by go_simp⟩) hS ?_
  try simp only [List.setIfInBounds_toArray, List.set_cons_zero, List.set_cons_succ]
  refine takeS (i := 6) (v := .slice aH NN cH) rfl rfl (by kernel_rfl) (by kernel_rfl) (by kernel_rfl) (fun _ _ _ h => h) (Or.inl ⟨by rfl, fun U hU => by go_simp⟩) hS ?_
  try simp only [List.setIfInBounds_toArray, List.set_cons_zero, List.set_cons_succ]
  refine takeS (i := 7) (v := .int .i64 EE) rfl rfl (by kernel_rfl) (by kernel_rfl) (by kernel_rfl) (fun _ _ _ h => h) (Or.inl ⟨by rfl, fun U hU => by go_simp⟩) hS ?_
  try simp only [List.setIfInBounds_toArray, List.set_cons_zero, List.set_cons_succ]
  refine takeS (i := 8) (v := .slice aH NN cH) rfl rfl (by kernel_rfl) (by kernel_rfl) (by kernel_rfl) (fun _ _ _ h => h) (Or.inl ⟨by rfl, fun U hU => by go_simp⟩) hS ?_
  try simp only [List.setIfInBounds_toArray, List.set_cons_zero, List.set_cons_succ]
  refine takeS (i := 9) (v := .int .i64 EE) rfl rfl (by kernel_rfl) (by kernel_rfl) (by kernel_rfl) (fun _ _ _ h => h) (Or.inl ⟨by rfl, fun U hU => by go_simp⟩) hS ?_
  try simp only [List.setIfInBounds_toArray, List.set_cons_zero, List.set_cons_succ]
  refine wpAnyH_done (by kernel_rfl) ?_ _
  have B14 := Lib.hid (below_call B13.out B13.out.size hS)
  have D14 := Lib.hid (below_call D13.out D13.out.size hS)
  have E14 := Lib.hid (keep_block E13.out hS)
  have S14 := Lib.hid (S13.out.below hS)
  have M14 := Lib.hid (M13.out.below hS)
  clear hS
  go_wp2_with fail
  refine (eqES _ _ NN _ _ VV (by omega) _ H14.out S14.out).mono ?_
  rintro e w15 ⟨rfl, hb⟩
  have B15 := Lib.hid (below_call B14.out B14.out.size hb)
  have D15 := Lib.hid (below_call D14.out D14.out.size hb)
  have M15 := Lib.hid (M14.out.below hb)
  clear hb
  go_wp2_with fail
  refine (heldES _ NN _ (by omega) _ M15.out).mono ?_
  rintro e w16 ⟨rfl, hb⟩
  have B16 := Lib.hid (below_call B15.out B15.out.size hb)
  have D16 := Lib.hid (below_call D15.out D15.out.size hb)
  have M16 := Lib.hid (M15.out.below hb)
  clear hb
  go_wp2
  go_ret
  exact ⟨rfl, B16.out⟩
set_option maxRecDepth 100000 in
set_option maxHeartbeats 2000000 in
theorem pt_out1 (nm vl : ByteArray) (a : Option Addr) (n cap : Nat) (es : List ByteArray) (hn : n ≤ maxLen) (hm : ∀ s ∈ es, s.size ≤ maxLen) (h : ¬ n + sumS es ≤ 1048576) (w : World) (hr : RdE w a n es) :
    Calls Try.prog 3 #[.slice a n cap, .agg #[.string nm, .string vl]] w fun e w' => e = .returned (.bool true) ∧ Below w.heap.size w w' := by
  have A0 := heap_alloc_last w (.cells #[.string nm, .string vl] 24)
  have B0' := (Below.refl w.heap.size w).alloc (Nat.le_refl _) (.cells #[.string nm, .string vl] 24)
  obtain ⟨w0, hw0⟩ : ∃ w0, w.alloc (.cells #[.string nm, .string vl] 24) = w0 := ⟨_, rfl⟩
  rw [hw0] at A0 B0'
  have E0 := Lib.hid A0
  have B0 := Lib.hid B0'
  have HZ := Lib.hid (szES_out a n cap es 1048576 (by omega) (by omega) hn hm (by omega) w0 (hr.below B0'))
  clear hr A0 B0'
  go_enter Try.func3, Try.ntmps3
  go_wp2_with fail
  clear hw0
  refine HZ.out.mono ?_
  rintro e w1 ⟨rfl, hb⟩
  have B1 := Lib.hid (below_call B0.out B0.out.size hb)
  clear hb
  go_wp2
  go_ret
  exact ⟨rfl, B1.out⟩
set_option maxRecDepth 100000 in
set_option maxHeartbeats 2000000 in
theorem pt_out2 (nm vl : ByteArray) (a : Option Addr) (n cap : Nat) (es : List ByteArray) (hm : ∀ s ∈ es, s.size ≤ maxLen) (hz : nm.size ≤ maxLen) (hy : vl.size ≤ maxLen) (h : n + sumS es ≤ 1048576) (h2 : ¬ n + sumS es + (nm.size + vl.size) ≤ 1048576) (w : World) (hr : RdE w a n es) :
    Calls Try.prog 3 #[.slice a n cap, .agg #[.string nm, .string vl]] w fun e w' => e = .returned (.bool true) ∧ Below w.heap.size w w' := by
  have A0 := heap_alloc_last w (.cells #[.string nm, .string vl] 24)
  have B0' := (Below.refl w.heap.size w).alloc (Nat.le_refl _) (.cells #[.string nm, .string vl] 24)
  obtain ⟨w0, hw0⟩ : ∃ w0, w.alloc (.cells #[.string nm, .string vl] 24) = w0 := ⟨_, rfl⟩
  rw [hw0] at A0 B0'
  have E0 := Lib.hid A0
  have B0 := Lib.hid B0'
  have HZ := Lib.hid (szES_in a n cap es 1048576 (by omega) (by omega) hm (by omega) w0 (hr.below B0'))
  have HZE := Lib.hid (fun U => szE_out nm vl (1048576 - (n : Int) - (sumS es : Int)) (by omega) (by omega) hz hy (by omega) U)
  have q0 : ¬ (1048576 : Int) - (n : Int) - (sumS es : Int) < 0 := by omega
  clear hr A0 B0'
  go_enter Try.func3, Try.ntmps3
  go_wp2_with fail
  clear hw0
  refine HZ.out.mono ?_
  rintro e w1 ⟨rfl, hb⟩
  have B1 := Lib.hid (below_call B0.out B0.out.size hb)
  have E1 := Lib.hid (keep_block E0.out hb)
  clear hb
  have q1 := cell_of_row _ w.heap.size 0 _ _ _ E1.out
  have q2 := cell_of_row _ w.heap.size 1 _ _ _ E1.out
  go_wp2_with fail
  refine (HZE.out _).mono ?_
  rintro e w2 ⟨rfl, hb⟩
  have B2 := Lib.hid (below_call B1.out B1.out.size hb)
  clear hb q1 q2
  go_wp2
  go_ret
  exact ⟨rfl, B2.out⟩
theorem FnExactPutEntry_walk (a : Option Addr) (n cap : Nat) (es : List ByteArray) (nm vl : ByteArray) (w : World) (f : IsEnts w a n es) (g : nm.size ≤ maxLen) (h : vl.size ≤ maxLen) :
    Calls Try.prog 3 #[.slice a n cap, .agg #[.string nm, .string vl]] w fun e w' => e = .returned (.bool true) ∧ Below w.heap.size w w' := by
  by_cases h1 : n + sumS es ≤ 1048576
  · by_cases h2 : n + sumS es + (nm.size + vl.size) ≤ 1048576
    · by_cases h3 : n ≤ 65536
      · exact pt_in nm vl a n cap es (ptV es n nm vl) (ptN es n nm vl) (ptE es n nm vl) f.2.2 g h h2 (ptV_len _ _ _ _) (by have := ptN_le es n nm vl; omega) w f.2.1 (fun U b hU => pt_spec b n n es nm vl h3 f.2.2 g h U hU) (fun U b hU => pt_impl b n n es nm vl h3 f.2.2 g h U hU)
      · exact pt_in nm vl a n cap es [] 0 1 f.2.2 g h h2 rfl (by omega) w f.2.1 (fun U b hU => pt_spec_long b n n es nm vl (by omega) (by omega) f.2.2 U hU) (fun U b hU => pt_impl_long b n n es nm vl (by omega) (by omega) f.2.2 U hU)
    · exact pt_out2 nm vl a n cap es f.2.2 g h h1 h2 w f.2.1
  · exact pt_out1 nm vl a n cap es f.1 f.2.2 h1 w f.2.1
end Go.Proofs.Ytmkddiconpacnaa
