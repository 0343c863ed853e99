/- CheckGrowth, by the program. Written by wip/gen/cgi.py. -/
import Derived.Test.YtfnmmpnmbommeaaGrowM
import Derived.Test.YtfnmmpnmbommeaaEq
import Derived.Test.YtfnmmpnmbommeaaPeakI
namespace Go.Proofs.Ytfnmmpnmbommeaa
open Go.ChangeShapes Go.WideShapes Go.ChangeAt Go.RowKit
set_option linter.unusedVariables false
set_option linter.unusedSimpArgs false
def cgB (old now : List Int) (m n P : Nat) (fl : List Int) : Bool := decide (ones m ≤ P) && decide (ofR (fl.take (32 * ones m)) (ones m) (ones m - 1) = old) && (decide (P = need (kdG m) n 0) && decide (kgen (kdG m) lfG (keyAt fl) n 0 0 = now))
def cgC (m n : Int) : Prop := 1 ≤ m ∧ m ≤ n ∧ n ≤ 256
instance (m n : Int) : Decidable (cgC m n) := by unfold cgC; infer_instance
def cgE (m n : Int) (P : Nat) : Int := if 256 < P then 3 else if cgC m n then 0 else 2
def cgV (old now : List Int) (m n : Int) (P : Nat) (fl : List Int) : Bool := if 256 < P then false else if cgC m n then cgB old now m.toNat n.toNat P fl else false
theorem cg_val (now fl : List Int) (m n P : Nat) (h1 : 1 ≤ n) : (!(walkT (tlG (kdG m) lfG fl) n 0 (P, false)).2.2 && decide ((walkT (tlG (kdG m) lfG fl) n 0 (P, false)).2.1 = 0) && decide ((walkT (tlG (kdG m) lfG fl) n 0 (P, false)).1 = now)) = (decide (P = need (kdG m) n 0) && decide (kgen (kdG m) lfG (keyAt fl) n 0 0 = now)) := by
  have W := walkT_gen (lf := lfG) (fl := fl) (kdG_one m) n 0 P false h1
  by_cases h : need (kdG m) n 0 ≤ P
  · rw [W.1 h]
    by_cases h2 : P = need (kdG m) n 0
    · rw [← h2, Nat.sub_self]
      simp
    · have h3 : ¬ P - need (kdG m) n 0 = 0 := by omega
      simp [h2, h3]
  · rw [W.2 (by omega)]
    have h2 : ¬ P = need (kdG m) n 0 := by omega
    simp [h2]
theorem eqlKey (a b : List Int) (ha : a.length = 32) (hb : b.length = 32) (W : World) : (binOp .eql 29 (.agg (ints .u8 a)) (.agg (ints .u8 b))).run Try.prog W = .ok (.bool (decide (a = b))) W :=
  run_eql_ints Try.underlying29 Try.underlying5 (by kernel_rfl) a b ha hb W
theorem sizeU8G : (Try.prog.info? 5).map (·.size) = some 1 := by kernel_rfl
theorem neqlKey (a b : List Int) (ha : a.length = 32) (hb : b.length = 32) (W : World) : (binOp .neq 29 (.agg (ints .u8 a)) (.agg (ints .u8 b))).run Try.prog W = .ok (.bool (!decide (a = b))) W := by
  rw [run_neq_struct, run_equalIn_ints Try.underlying29 Try.underlying5 sizeU8G a b ha hb 9998 W]
  rfl
set_option maxRecDepth 100000 in
set_option maxHeartbeats 8000000 in
theorem cg_impl (old now : List Int) (ap : Option Addr) (P cp : Nat) (m n : Int) (fl : List Int) (hO : old.length = 32) (hN : now.length = 32) (hP : P ≤ 1048576) (hpc : P ≤ cp) (hm : cp ≤ maxLen) (fbp : ∀ z ∈ fl, 0 ≤ z ∧ z ≤ 255) (w : World) (hp : RdK w ap P fl) :
    Calls Try.prog 26 #[.agg (ints .u8 old), .int .i64 m, .agg (ints .u8 now), .int .i64 n, .slice ap P cp] w fun x w' => x = .returned (.tuple #[.bool (cgV old now m n P fl), .int .i64 (cgE m n P)]) ∧ Below w.heap.size w w' := by
  unfold cgV cgE
  have Hz := Lib.hid z32_ints
  have A0 := Lib.hid (heap3_0 w (.cells (ints .u8 old) 29) (.cells #[.int .i64 m] 2) (.cells (ints .u8 now) 29))
  have A1 := Lib.hid (heap3_1 w (.cells (ints .u8 old) 29) (.cells #[.int .i64 m] 2) (.cells (ints .u8 now) 29))
  have A2 := Lib.hid (heap3_2 w (.cells (ints .u8 old) 29) (.cells #[.int .i64 m] 2) (.cells (ints .u8 now) 29))
  have B3 := Lib.hid ((((Below.refl w.heap.size w).alloc (Nat.le_refl _) (.cells (ints .u8 old) 29)).alloc (by simp) (.cells #[.int .i64 m] 2)).alloc (by simp; omega) (.cells (ints .u8 now) 29))
  obtain ⟨W3, hW3⟩ : ∃ W3, ((w.alloc (.cells (ints .u8 old) 29)).alloc (.cells #[.int .i64 m] 2)).alloc (.cells (ints .u8 now) 29) = W3 := ⟨_, rfl⟩
  have HSZ : Hid (W3.heap.size = w.heap.size + 1 + 1 + 1) := Lib.hid (by rw [← hW3]; simp)
  rw [hW3] at A0 A1 A2 B3
  have cm := cell_of_one A1.out
  by_cases h : 256 < P
  · rw [if_pos h, if_pos h]
    have k1 : (256 : Int) < (P : Int) := by omega
    go_enter Try.func26, Try.ntmps26
    go_wp2_with fail
    go_ret2
    exact ⟨rfl, B3.out⟩
  · rw [if_neg h, if_neg h]
    have k1 : ¬ (256 : Int) < (P : Int) := by omega
    by_cases h1 : cgC m n
    · rw [if_pos h1, if_pos h1]
      have g1 := h1.1
      have g2 := h1.2.1
      have g3 := h1.2.2
      have j1 : ¬ (256 : Int) < n := by omega
      have j2 : ¬ m < 1 := by omega
      have j3 : ¬ n < m := by omega
      obtain ⟨m', rfl⟩ := Int.eq_ofNat_of_zero_le (show 0 ≤ m by omega)
      obtain ⟨n', rfl⟩ := Int.eq_ofNat_of_zero_le (show 0 ≤ n by omega)
      rw [Int.toNat_natCast, Int.toNat_natCast]
      have Hcp := Lib.hid (fun U => count_peaks m' (by omega) U)
      clear h1
      by_cases h2 : P < ones m'
      · have e : cgB old now m' n' P fl = false := by unfold cgB; simp [show ¬ ones m' ≤ P by omega]
        rw [e]
        have k2 : (P : Int) < ((ones m' : Nat) : Int) := by omega
        generalize ones m' = K at Hcp k2
        go_enter Try.func26, Try.ntmps26
        go_wp2_with fail
        refine (Hcp.out _).mono ?_
        rintro x w5 ⟨rfl, rfl⟩
        go_wp2_with fail
        go_ret2
        exact ⟨rfl, B3.out⟩
      · have hK1 : 0 < ones m' := ones_pos m' (by omega) (by omega)
        obtain ⟨pb, po, rfl⟩ := hp.form (show 0 < P by omega)
        have hgc : gcode (ones m') (m' : Int) 256 = 0 := by
          unfold gcode
          rw [if_neg (by omega), if_neg (by omega), Int.toNat_natCast, if_neg (by simp)]
        have Hkop := Lib.hid (fun (U : World) (hU : Below w.heap.size w U) => by
          have := kop_impl (some ⟨pb, po, none⟩) (ones m') cp (m' : Int) (fl.take (32 * ones m')) (by omega) (fun z hz => fbp z (List.mem_of_mem_take hz)) U ((hp.below hU).take (by omega))
          unfold kopV kopE at this
          rw [hgc, if_neg (by simp), if_neg (by omega)] at this
          exact this)
        have HL := Lib.hid (ofR_good (fl := fl.take (32 * ones m')) (n := ones m') (by rw [List.length_take, hp.1]; omega) (fun z hz => fbp z (List.mem_of_mem_take hz)) hK1 (ones m' - 1)).1
        have e : cgB old now m' n' P fl = (decide (ofR (fl.take (32 * ones m')) (ones m') (ones m' - 1) = old) && (decide (P = need (kdG m') n' 0) && decide (kgen (kdG m') lfG (keyAt fl) n' 0 0 = now))) := by unfold cgB; rw [decide_eq_true (show ones m' ≤ P by omega), Bool.true_and]
        rw [e]
        clear e hgc
        have k2 : ¬ (P : Int) < ((ones m' : Nat) : Int) := by omega
        have k3 : ((ones m' : Nat) : Int) ≤ (P : Int) := by omega
        have k4 : ((ones m' : Nat) : Int) ≤ (cp : Int) := by omega
        have k5 : ones m' ≤ cp := by omega
        have k6 : ¬ cp < ones m' := by omega
        have k7 : (0 : Int) ≤ ((ones m' : Nat) : Int) := by omega
        have Hnr := Lib.hid (fun U hU => newReader_impl (some ⟨pb, po, none⟩) P cp fl hP U hU)
        have HRd := Lib.hid hp
        have HV := Lib.hid (cg_val now fl m' n' P (by omega))
        have Htr := Lib.hid (fun (g r kb : Nat) (U : World) (PP : GrowP g r (w.heap.size + 1) kb U.heap.size) hI => tree_impl (growTells g r (w.heap.size + 1) kb m' U.heap.size n' fl PP (by omega) (by omega) fbp) n' (P, false) U (by omega) (Nat.le_refl _) (Nat.le_refl _) hI)
        have HOl := Lib.hid hO
        have HNl := Lib.hid hN
        have HP := Lib.hid hP
        generalize walkT (tlG (kdG m') lfG fl) n' 0 (P, false) = v at HV Htr
        clear hp fbp
        generalize (decide (P = need (kdG m') n' 0) && decide (kgen (kdG m') lfG (keyAt fl) n' 0 0 = now)) = V at HV ⊢
        generalize ofR (fl.take (32 * ones m')) (ones m') (ones m' - 1) = key at Hkop HL ⊢
        generalize ones m' = K at Hcp Hkop k2 k3 k4 k5 k6 k7 hK1 h2 ⊢
        go_enter Try.func26, Try.ntmps26
        go_wp2_with fail
        refine (Hcp.out _).mono ?_
        rintro x w5 ⟨rfl, rfl⟩
        go_upto_region 8 with fail
        go_cut [13, 14] (fun s13 s14 wx => ∃ g : Nat, s13 = .pointer (some ⟨g, 0, none⟩) ∧ s14 = .int .i64 0 ∧ W3.heap.size ≤ g ∧ wx.heap[g]? = some (.cells (ints .u8 key) 29) ∧ Below W3.heap.size W3 wx)
        case first =>
          refine wp_region_held_drew (S := Below (W3).heap.size (W3)) (by kernel_rfl) ((Below.refl _ _).drew) (fun hS => ?_)
          refine take_at (i := 0) (v := .slice (some ⟨pb, po, none⟩) P cp) rfl rfl (by kernel_rfl) (by kernel_rfl) (by kernel_rfl) (fun _ _ _ h => h) (Or.inl ⟨by rfl, fun U hU => by go_simp⟩) hS ?_
          try simp only [List.setIfInBounds_toArray, List.set_cons_zero, List.set_cons_succ]
          refine take_at (i := 1) (v := .int .i64 (K : Int)) rfl rfl (by kernel_rfl) (by kernel_rfl) (by kernel_rfl) (fun _ _ _ h => h) (Or.inl ⟨by rfl, fun U hU => by go_simp⟩) hS ?_
          try simp only [List.setIfInBounds_toArray, List.set_cons_zero, List.set_cons_succ]
          refine take_at (i := 2) (v := .slice (some ⟨pb, po, none⟩) K cp) rfl rfl (by kernel_rfl) (by kernel_rfl) (by kernel_rfl) (fun _ _ _ h => h) (Or.inl ⟨by rfl, fun U hU => by go_simp⟩) hS ?_
          try simp only [List.setIfInBounds_toArray, List.set_cons_zero, List.set_cons_succ]
          refine take_at (i := 3) (v := .int .i64 (m' : Int)) rfl rfl (by kernel_rfl) (by kernel_rfl) (by kernel_rfl) (fun _ _ _ h => h) (Or.inl ⟨by rfl, fun U hU => by have cu := cell_of_one (keep_block A1.out hU); go_simp⟩) hS ?_
          try simp only [List.setIfInBounds_toArray, List.set_cons_zero, List.set_cons_succ]
          refine wpAnyH_ready (rs := [4, 8]) (by kernel_rfl) (by simp) ?_
          refine AllReadyH.cons rfl (fun KQ hK => ?_) (AllReadyH.cons rfl (fun KQ hK => ?_) AllReadyH.nil)
          · rw [if_pos (by rfl)]
            go_simp
            refine (Hkop.out _ (B3.out.trans (hS.mono B3.out.size))).mono ?_
            rintro x w6 ⟨rfl, hb⟩
            refine hK.out _ _ (below_call hS hS.size hb) (fun hS => ?_)
            clear hb hK
            refine take_at (i := 5) (v := .tuple #[.agg (ints .u8 key), .int .i64 0]) rfl rfl (by kernel_rfl) (by kernel_rfl) (by kernel_rfl) (fun _ _ _ h => h) (Or.inl ⟨by rfl, fun U hU => by go_simp⟩) hS ?_
            try simp only [List.setIfInBounds_toArray, List.set_cons_zero, List.set_cons_succ]
            refine take_at (i := 6) (v := .agg (ints .u8 key)) rfl rfl (by kernel_rfl) (by kernel_rfl) (by kernel_rfl) (fun _ _ _ h => h) (Or.inl ⟨by rfl, fun U hU => by go_simp⟩) hS ?_
            try simp only [List.setIfInBounds_toArray, List.set_cons_zero, List.set_cons_succ]
            refine take_at (i := 7) (v := .int .i64 0) rfl rfl (by kernel_rfl) (by kernel_rfl) (by kernel_rfl) (fun _ _ _ h => h) (Or.inl ⟨by rfl, fun U hU => by go_simp⟩) hS ?_
            try simp only [List.setIfInBounds_toArray, List.set_cons_zero, List.set_cons_succ]
            refine wpAnyH_ready (rs := [8]) (by kernel_rfl) (by simp) ?_
            refine AllReadyH.cons rfl (fun KQ hK => ?_) AllReadyH.nil
            rw [if_pos (by rfl)]
            go_simp
            have hg1 := new_block (t := 29) Hz.out hS
            have hgg := hS.size
            refine hK.out _ _ (hS.alloc hS.size _) (fun hS => ?_)
            clear hK
            refine wpAnyH_ready (rs := [9]) (by kernel_rfl) (by simp) ?_
            refine AllReadyH.cons rfl (fun KQ hK => ?_) AllReadyH.nil
            rw [if_pos (by rfl)]
            refine wp_store_row (o := ⟨none, _, _, _, _, _⟩) 29 _ _ rfl _ (ints .u8 key) rfl rfl 29 _ hg1 (by rw [ints_size, HL.out]; exact sizeKey) (by rw [ints_size, ints_size, HL.out]; rfl) (ints_one _ _) ?_
            simp only [Act.put]
            refine hK.out _ _ (Below.setRow hS hgg _) (fun hS => ?_)
            clear hK
            refine take_at (i := 10) (v := .int .i64 0) rfl rfl (by kernel_rfl) (by kernel_rfl) (by kernel_rfl) (fun _ _ _ h => h) (Or.inl ⟨by rfl, fun U hU => by go_simp⟩) hS ?_
            try simp only [List.setIfInBounds_toArray, List.set_cons_zero, List.set_cons_succ]
            refine wpAnyH_done (by kernel_rfl) ?_ _
            go_wp2_with fail
            go_meet
            exact ⟨_, rfl, rfl, hgg, setRow_heap _ _ _ _ _ _ hg1, hS⟩
          · rw [if_pos (by rfl)]
            go_simp
            have hg0 := new_block (t := 29) Hz.out hS
            have hgg := hS.size
            refine hK.out _ _ (hS.alloc hS.size _) (fun hS => ?_)
            clear hK
            refine wpAnyH_ready (rs := [4]) (by kernel_rfl) (by simp) ?_
            refine AllReadyH.cons rfl (fun KQ hK => ?_) AllReadyH.nil
            rw [if_pos (by rfl)]
            go_simp
            refine (Hkop.out _ (B3.out.trans (hS.mono B3.out.size))).mono ?_
            rintro x w6 ⟨rfl, hb⟩
            have hg1 := keep_block hg0 hb
            refine hK.out _ _ (below_call hS hS.size hb) (fun hS => ?_)
            clear hb hK
            refine take_at (i := 5) (v := .tuple #[.agg (ints .u8 key), .int .i64 0]) rfl rfl (by kernel_rfl) (by kernel_rfl) (by kernel_rfl) (fun _ _ _ h => h) (Or.inl ⟨by rfl, fun U hU => by go_simp⟩) hS ?_
            try simp only [List.setIfInBounds_toArray, List.set_cons_zero, List.set_cons_succ]
            refine take_at (i := 6) (v := .agg (ints .u8 key)) rfl rfl (by kernel_rfl) (by kernel_rfl) (by kernel_rfl) (fun _ _ _ h => h) (Or.inl ⟨by rfl, fun U hU => by go_simp⟩) hS ?_
            try simp only [List.setIfInBounds_toArray, List.set_cons_zero, List.set_cons_succ]
            refine take_at (i := 7) (v := .int .i64 0) rfl rfl (by kernel_rfl) (by kernel_rfl) (by kernel_rfl) (fun _ _ _ h => h) (Or.inl ⟨by rfl, fun U hU => by go_simp⟩) hS ?_
            try simp only [List.setIfInBounds_toArray, List.set_cons_zero, List.set_cons_succ]
            refine wpAnyH_ready (rs := [9]) (by kernel_rfl) (by simp) ?_
            refine AllReadyH.cons rfl (fun KQ hK => ?_) AllReadyH.nil
            rw [if_pos (by rfl)]
            refine wp_store_row (o := ⟨none, _, _, _, _, _⟩) 29 _ _ rfl _ (ints .u8 key) rfl rfl 29 _ hg1 (by rw [ints_size, HL.out]; exact sizeKey) (by rw [ints_size, ints_size, HL.out]; rfl) (ints_one _ _) ?_
            simp only [Act.put]
            refine hK.out _ _ (Below.setRow hS hgg _) (fun hS => ?_)
            clear hK
            refine take_at (i := 10) (v := .int .i64 0) rfl rfl (by kernel_rfl) (by kernel_rfl) (by kernel_rfl) (fun _ _ _ h => h) (Or.inl ⟨by rfl, fun U hU => by go_simp⟩) hS ?_
            try simp only [List.setIfInBounds_toArray, List.set_cons_zero, List.set_cons_succ]
            refine wpAnyH_done (by kernel_rfl) ?_ _
            go_wp2_with fail
            go_meet
            exact ⟨_, rfl, rfl, hgg, setRow_heap _ _ _ _ _ _ hg1, hS⟩
        case rest =>
          obtain ⟨kg, rfl, rfl, hkg, hkb, hbc⟩ := hcut
          have BC := Lib.hid hbc
          have BWC := Lib.hid (B3.out.trans (hbc.mono B3.out.size))
          have KC := Lib.hid hkb
          have C0 := Lib.hid (keep_block A0.out hbc)
          have C1 := Lib.hid (keep_block A1.out hbc)
          have C2 := Lib.hid (keep_block A2.out hbc)
          have R5 := Lib.hid (HRd.out.below (B3.out.trans (hbc.mono B3.out.size)))
          have HN5 := Lib.hid (Hnr.out _ R5.out)
          clear hkb hbc cm
          have hk0 := fun U => neqlKey key old HL.out HOl.out U
          by_cases hko : key = old
          · have HKO := Lib.hid hko
            rw [show decide (key = old) = true from decide_eq_true hko] at hk0
            clear hko
            go_wp2_with (first | (refine wpList_load_row_g1 (by rfl) 29 (.tmp 13) rfl kg rfl 29 (ints .u8 key) (0, 0) _ KC.out Try.underlying29 rfl (by rw [ints_size, HL.out]; exact sizeKey) ?_) | (refine wpList_load_row_g1 (by rfl) 29 (.tmp 5) rfl w.heap.size rfl 29 (ints .u8 old) (0, 0) _ C0.out Try.underlying29 rfl (by rw [ints_size, HOl.out]; exact sizeKey) ?_))
            refine HN5.out.mono ?_
            rintro x w5 ⟨g, r, rfl, hrd, hg1, hr2, hb5⟩
            have B5 := Lib.hid hb5
            have BW5 := Lib.hid (BWC.out.trans (hb5.mono BWC.out.size))
            have RD5 := Lib.hid hrd
            have HG := Lib.hid hg1
            have HRL := Lib.hid hr2
            clear hrd hg1 hr2 hb5
            have L6 := Lib.hid ((Below.refl w5.heap.size w5).alloc (Nat.le_refl _) (.cells #[.pointer (some ⟨r, 0, none⟩)] 81))
            have K6 := Lib.hid (heap_alloc_last w5 (.cells #[.pointer (some ⟨r, 0, none⟩)] 81))
            have HT := Lib.hid (Htr.out g r w5.heap.size (w5.alloc (.cells #[.pointer (some ⟨r, 0, none⟩)] 81)) (by
              have e1 := HSZ.out; have e3 := HG.out; have e4 := HRL.out; have e5 := RD5.out.lt; have e7 := B5.out.size; have e8 := BC.out.size
              exact ⟨by simp; omega, by simp; omega, ⟨by simp; omega, by omega, by omega⟩, ⟨by simp, by omega, by omega⟩⟩)
              ⟨RD5.out.below L6.out, HP.out, keep_block (keep_block C1.out B5.out) L6.out, K6.out⟩)
            go_wp2_with fail
            refine HT.out.mono ?_
            rintro x w7 ⟨rfl, hk7, hI7, hb7⟩
            have HK7 := Lib.hid hk7
            have I7 := Lib.hid hI7
            have B7 := Lib.hid ((BW5.out.trans (L6.out.mono BW5.out.size)).trans (hb7.below (C := w.heap.size) (by have := BW5.out.size; simp; omega) (fun k hk => by have := HG.out; have := HSZ.out; have := BC.out.size; have := RD5.out.lt; rcases hk with hk | hk <;> omega)))
            have R7 := Lib.hid (hb7.hold (g := w.heap.size + 1 + 1) (fun hk => by have := HG.out; have := HSZ.out; have := BC.out.size; have := RD5.out.lt; rcases hk with hk | hk <;> omega) (keep_block (keep_block C2.out B5.out) L6.out))
            clear hk7 hI7 hb7 HT
            have L8 := Lib.hid (laid_below w7 (ints .u8 z32) (ints .u8 v.1) 29)
            have N8 := Lib.hid (laid_new w7 (ints .u8 z32) (ints .u8 v.1) 29)
            have R8 := Lib.hid (laid_old (ints .u8 z32) (ints .u8 v.1) 29 R7.out)
            have K8 := Lib.hid (laid_old (ints .u8 z32) (ints .u8 v.1) 29 I7.out.bk)
            have RD8 := Lib.hid (I7.out.rd.below L8.out)
            have B8 := Lib.hid (below_call B7.out B7.out.size L8.out)
            have ck := cell_of_one K8.out
            rw [Hz.out] at ck
            go_wp2_with (refine wpList_store_row rfl 29 (.tmp 16) _ rfl w7.heap.size (ints .u8 v.1) rfl rfl 29 (ints .u8 z32) (by rw [Hz.out]; exact heap_alloc_last _ _) (by rw [ints_size, HK7.out.1]; exact sizeKey) (by rw [ints_size, ints_size, HK7.out.1]; rfl) (ints_one _ _) ?_)
            rw [← Hz.out]
            clear ck
            generalize (w7.alloc (.cells (ints .u8 z32) 29)).setRow w7.heap.size (ints .u8 v.1) = W8 at L8 N8 R8 K8 RD8 B8 ⊢
            refine (used_impl g r v.2.1 v.2.2 fl W8 RD8.out).mono ?_
            rintro x w9 ⟨rfl, rfl⟩
            have hq := fun U => eqlKey v.1 now HK7.out.1 HNl.out U
            have HVV := HV.out
            generalize (!v.2.2 && decide (v.2.1 = 0)) = u at HVV ⊢
            cases u with
            | true =>
              go_wp2_with (first | (refine wpList_load_row_g1 (by rfl) 29 (.tmp 16) rfl w7.heap.size rfl 29 (ints .u8 v.1) (0, 0) _ N8.out Try.underlying29 rfl (by rw [ints_size, HK7.out.1]; exact sizeKey) ?_) | (refine wpList_load_row_g1 (by rfl) 29 (.tmp 7) rfl (w.heap.size + 1 + 1) rfl 29 (ints .u8 now) (0, 0) _ R8.out Try.underlying29 rfl (by rw [ints_size, HNl.out]; exact sizeKey) ?_))
              go_ret2
              exact ⟨by rw [← HVV]; simp [HKO.out], B8.out⟩
            | false =>
              go_wp2_with fail
              go_ret2
              exact ⟨by rw [← HVV]; simp [HKO.out], B8.out⟩
          · have HKO := Lib.hid hko
            rw [show decide (key = old) = false from decide_eq_false hko] at hk0
            clear hko
            go_wp2_with (first | (refine wpList_load_row_g1 (by rfl) 29 (.tmp 13) rfl kg rfl 29 (ints .u8 key) (0, 0) _ KC.out Try.underlying29 rfl (by rw [ints_size, HL.out]; exact sizeKey) ?_) | (refine wpList_load_row_g1 (by rfl) 29 (.tmp 5) rfl w.heap.size rfl 29 (ints .u8 old) (0, 0) _ C0.out Try.underlying29 rfl (by rw [ints_size, HOl.out]; exact sizeKey) ?_))
            go_ret2
            exact ⟨by simp [HKO.out], BWC.out⟩
    · rw [if_neg h1, if_neg h1]
      by_cases j1 : (256 : Int) < n
      · go_enter Try.func26, Try.ntmps26
        go_wp2_with fail
        go_ret2
        exact ⟨rfl, B3.out⟩
      · by_cases j2 : m < 1
        · go_enter Try.func26, Try.ntmps26
          go_wp2_with fail
          go_ret2
          exact ⟨rfl, B3.out⟩
        · have j3 : n < m := by
            refine Int.not_le.1 fun hh => h1 ⟨by omega, hh, by omega⟩
          go_enter Try.func26, Try.ntmps26
          go_wp2_with fail
          go_ret2
          exact ⟨rfl, B3.out⟩
end Go.Proofs.Ytfnmmpnmbommeaa
