/- Peaks: which are allowed, and the key to which they lead: the specification. Written by wip/gen/peaks.py. -/
import Derived.Test.YtfnmmpnmbommeaaStack
import Derived.Test.YtfnmmpnmbommeaaListK
namespace Go.Proofs.Ytfnmmpnmbommeaa
open Go.ChangeShapes Go.WideShapes Go.ChangeAt Go.RowKit
set_option linter.unusedVariables false
set_option maxHeartbeats 1000000 in
theorem in_true (c lo hi : Int) (h1 : lo ≤ c) (h2 : c ≤ hi) (w : World) : Calls Try.prog 85 #[.int .i64 c, .int .i64 lo, .int .i64 hi] w fun e w' => e = .returned (.bool true) ∧ w = w' := by
  go_enter Try.func85, Try.ntmps85
  go_wp2
  go_ret
  exact ⟨rfl, rfl⟩
set_option maxHeartbeats 1000000 in
theorem in_false (c lo hi : Int) (h : ¬ (lo ≤ c ∧ c ≤ hi)) (w : World) : Calls Try.prog 85 #[.int .i64 c, .int .i64 lo, .int .i64 hi] w fun e w' => e = .returned (.bool false) ∧ w = w' := by
  by_cases h1 : lo ≤ c
  · have h2 : ¬ c ≤ hi := fun h2 => h ⟨h1, h2⟩
    go_enter Try.func85, Try.ntmps85
    go_wp2
    go_ret
    exact ⟨rfl, rfl⟩
  · go_enter Try.func85, Try.ntmps85
    go_wp2
    go_ret
    exact ⟨rfl, rfl⟩
/-- The code of l peaks of a list of n leaves. -/
def gcode (l : Nat) (n most : Int) : Int := if 256 < l then 3 else if n < 0 ∨ most < n then 2 else if (l : Int) ≠ (ones n.toNat : Nat) then 4 else 0
set_option maxHeartbeats 1000000 in
theorem given_spec (a : Option Addr) (l cap : Nat) (n most : Int) (hl : l ≤ 1048576) (h0 : 0 ≤ most) (h1 : most ≤ 256) (w : World) :
    Calls Try.prog 83 #[.slice a l cap, .int .i64 n, .int .i64 most] w fun e w' => e = .returned (.int .i64 (gcode l n most)) ∧ w = w' := by
  by_cases k1 : 256 < l
  · have e : gcode l n most = 3 := by unfold gcode; rw [if_pos k1]
    rw [e]
    clear e
    have c : (256 : Int) < (l : Int) := by omega
    go_enter Try.func83, Try.ntmps83
    go_wp2
    go_ret
    exact ⟨rfl, rfl⟩
  · have c : (l : Int) ≤ 256 := by omega
    by_cases k2 : 0 ≤ n ∧ n ≤ most
    · obtain ⟨m, rfl⟩ := Int.eq_ofNat_of_zero_le k2.1
      have HM := Lib.hid (show m ≤ 256 by omega)
      have k3 := k2.2
      have k4 : (0 : Int) ≤ (m : Int) := by omega
      have Ho := Lib.hid (fun W => ones_spec m HM.out W)
      have Hin := Lib.hid (fun W => in_true (m : Int) 0 most (by omega) k3 W)
      by_cases k5 : l = ones m
      · have e : gcode l (m : Int) most = 0 := by
          unfold gcode
          rw [if_neg k1, if_neg (by omega), if_neg (by rw [k5]; simp)]
        rw [e]
        have hq : ((l : Int) != (ones m : Int)) = false := by rw [k5]; simp
        clear e k2 k5
        generalize ones m = o at Ho hq
        go_enter Try.func83, Try.ntmps83
        go_wp2_with fail
        refine (Hin.out _).mono ?_
        rintro x w0 ⟨rfl, rfl⟩
        go_wp2_with fail
        refine (Ho.out _).mono ?_
        rintro x w1 ⟨rfl, rfl⟩
        go_wp2
        go_ret
        exact ⟨rfl, rfl⟩
      · have e : gcode l (m : Int) most = 4 := by
          unfold gcode
          rw [if_neg k1, if_neg (by omega), if_pos (by rw [Int.toNat_natCast]; omega)]
        rw [e]
        have hq : ((l : Int) != (ones m : Int)) = true := by simp; omega
        clear e k2 k5
        generalize ones m = o at Ho hq
        go_enter Try.func83, Try.ntmps83
        go_wp2_with fail
        refine (Hin.out _).mono ?_
        rintro x w0 ⟨rfl, rfl⟩
        go_wp2_with fail
        refine (Ho.out _).mono ?_
        rintro x w1 ⟨rfl, rfl⟩
        go_wp2
        go_ret
        exact ⟨rfl, rfl⟩
    · have e : gcode l n most = 2 := by unfold gcode; rw [if_neg k1, if_pos (by omega)]
      rw [e]
      clear e
      have Hin := Lib.hid (fun W => in_false n 0 most (by omega) W)
      go_enter Try.func83, Try.ntmps83
      go_wp2_with fail
      refine (Hin.out _).mono ?_
      rintro x w0 ⟨rfl, rfl⟩
      go_wp2
      go_ret
      exact ⟨rfl, rfl⟩
set_option maxHeartbeats 1000000 in
theorem check_impl (a : Option Addr) (l cap : Nat) (n most : Int) (hl : l ≤ 1048576) (h0 : 0 ≤ most) (h1 : most ≤ 256) (w : World) :
    Calls Try.prog 58 #[.slice a l cap, .int .i64 n, .int .i64 most] w fun e w' => e = .returned (.int .i64 (gcode l n most)) ∧ w = w' := by
  by_cases k1 : 256 < l
  · have e : gcode l n most = 3 := by unfold gcode; rw [if_pos k1]
    rw [e]
    clear e
    have c : (256 : Int) < (l : Int) := by omega
    go_enter Try.func58, Try.ntmps58
    go_wp2
    go_ret
    exact ⟨rfl, rfl⟩
  · have c : (l : Int) ≤ 256 := by omega
    by_cases k2 : 0 ≤ n ∧ n ≤ most
    · obtain ⟨m, rfl⟩ := Int.eq_ofNat_of_zero_le k2.1
      have HM := Lib.hid (show m ≤ 256 by omega)
      have k3 := k2.2
      have k4 : (0 : Int) ≤ (m : Int) := by omega
      have Ho := Lib.hid (fun W => count_peaks m HM.out W)
      by_cases k5 : l = ones m
      · have e : gcode l (m : Int) most = 0 := by
          unfold gcode
          rw [if_neg k1, if_neg (by omega), if_neg (by rw [k5]; simp)]
        rw [e]
        have hq : ((l : Int) != (ones m : Int)) = false := by rw [k5]; simp
        clear e k2 k5
        generalize ones m = o at Ho hq
        go_enter Try.func58, Try.ntmps58
        go_wp2_with fail
        refine (Ho.out _).mono ?_
        rintro x w1 ⟨rfl, rfl⟩
        go_wp2
        go_ret
        exact ⟨rfl, rfl⟩
      · have e : gcode l (m : Int) most = 4 := by
          unfold gcode
          rw [if_neg k1, if_neg (by omega), if_pos (by rw [Int.toNat_natCast]; omega)]
        rw [e]
        have hq : ((l : Int) != (ones m : Int)) = true := by simp; omega
        clear e k2 k5
        generalize ones m = o at Ho hq
        go_enter Try.func58, Try.ntmps58
        go_wp2_with fail
        refine (Ho.out _).mono ?_
        rintro x w1 ⟨rfl, rfl⟩
        go_wp2
        go_ret
        exact ⟨rfl, rfl⟩
    · have e : gcode l n most = 2 := by unfold gcode; rw [if_neg k1, if_pos (by omega)]
      rw [e]
      clear e
      rcases (show n < 0 ∨ (0 ≤ n ∧ most < n) by omega) with k3 | ⟨k3, k4⟩
      · go_enter Try.func58, Try.ntmps58
        go_wp2
        go_ret
        exact ⟨rfl, rfl⟩
      · go_enter Try.func58, Try.ntmps58
        go_wp2
        go_ret
        exact ⟨rfl, rfl⟩
/-- The key to which the last d + 1 of n peaks lead. -/
def ofR (fl : List Int) (n : Nat) : Nat → List Int
  | 0 => keyAt fl (n - 1)
  | d + 1 => nodeK (keyAt fl (n - 2 - d)) (ofR fl n d)
theorem ofR_good {fl : List Int} {n : Nat} (hl : fl.length = 32 * n) (fb : ∀ z ∈ fl, 0 ≤ z ∧ z ≤ 255) (h0 : 0 < n) : ∀ d, L32 (ofR fl n d)
  | 0 => ⟨keyAt_len hl (by omega), keyAt_range fb _⟩
  | d + 1 => ⟨nodeK_len _ _, nodeK_range _ _⟩
set_option maxRecDepth 100000 in
set_option maxHeartbeats 4000000 in
theorem of_spec (blk off n cap : Nat) (fl : List Int) (h0 : 0 < n) (hn : n ≤ 1048576) (fb : ∀ z ∈ fl, 0 ≤ z ∧ z ≤ 255) (w : World) (hr : RdK w (some ⟨blk, off, none⟩) n fl) :
    Calls Try.prog 84 #[.slice (some ⟨blk, off, none⟩) n cap] w fun e w' => e = .returned (.agg (ints .u8 (ofR fl n (n - 1)))) ∧ Below w.heap.size w w' := by
  have Hz := Lib.hid z32_ints
  have HG := Lib.hid (ofR_good hr.1 fb h0)
  have HFB := Lib.hid fb
  have HLN := Lib.hid hr.1
  have BW := Lib.hid ((Below.refl w.heap.size w).alloc (Nat.le_refl _) (.cells (ints .u8 z32) 29))
  have G0 := Lib.hid (heap_alloc_last w (.cells (ints .u8 z32) 29))
  obtain ⟨W1, hW1⟩ : ∃ W1, w.alloc (.cells (ints .u8 z32) 29) = W1 := ⟨_, rfl⟩
  rw [hW1] at BW G0
  have HSZ : Hid (W1.heap.size = w.heap.size + 1) := Lib.hid (by rw [← hW1]; simp)
  have HR := Lib.hid (hr.below BW.out)
  have Hk0 := Lib.hid (HR.out.key (n - 1) (by omega))
  have HL0 := Lib.hid (keyAt_len hr.1 (show n - 1 < n by omega))
  have HO0 : Hid (ofR fl n 0 = keyAt fl (n - 1)) := Lib.hid rfl
  clear hr fb
  generalize hP : keyAt fl (n - 1) = P0 at Hk0 HL0 HO0
  have HP := Lib.hid hP
  clear hP
  have c1 : (0 : Int) < (n : Int) := by omega
  have c2 : (n : Int) ≤ 1048576 := by omega
  have L0 := Lib.hid (laid_below W1 (ints .u8 z32) (ints .u8 P0) 29)
  have N0 := Lib.hid (laid_new W1 (ints .u8 z32) (ints .u8 P0) 29)
  have B0 := Lib.hid (below_call BW.out BW.out.size L0.out)
  have G1 := Lib.hid (laid_old (ints .u8 z32) (ints .u8 P0) 29 G0.out)
  rw [Hz.out] at hW1
  go_enter Try.func84, Try.ntmps84
  go_wp2_with (first | (refine wpList_load_ints rfl 29 (.tmp 9) rfl blk (off + (n - 1) * 32) rfl .u8 P0 _ Hk0.out Try.underlying29 rfl (by rw [HL0.out]; exact sizeKey) ?_) | (refine wpList_store_row rfl 29 (.tmp 3) _ rfl W1.heap.size (ints .u8 P0) rfl rfl 29 (ints .u8 z32) (by rw [Hz.out]; exact heap_alloc_last _ _) (by rw [ints_size, HL0.out]; exact sizeKey) (by rw [ints_size, ints_size, HL0.out]; rfl) (ints_one _ _) ?_))
  rw [← Hz.out]
  generalize (W1.alloc (.cells (ints .u8 z32) 29)).setRow W1.heap.size (ints .u8 P0) = W2 at L0 N0 B0 G1 ⊢
  go_loopw [4] (fun i wr => ∃ d : Nat, d ≤ n - 1 ∧ i = .int .i64 ((n : Int) - 2 - (d : Int)) ∧ Below W1.heap.size W1 wr ∧ wr.heap[W1.heap.size]? = some (.cells (ints .u8 (ofR fl n d)) 29)) (fun i _ => (intOf i + 1).toNat)
  case atStart => exact ⟨0, by omega, by go_num, L0.out, by rw [HO0.out]; exact N0.out⟩
  case round =>
    obtain ⟨d, hd, rfl, hB, hK⟩ := hrel
    have HB := Lib.hid hB
    have HK := Lib.hid hK
    clear hB hK
    by_cases hlt : d < n - 1
    · obtain ⟨k, hk⟩ : ∃ k : Nat, (n : Int) - 2 - (d : Int) = (k : Int) := ⟨n - 2 - d, by omega⟩
      have hk2 : n - 2 - d = k := by omega
      have HQ : Hid (ofR fl n (d + 1) = nodeK (keyAt fl k) (ofR fl n d)) := Lib.hid (by rw [← hk2]; rfl)
      have HkV := Lib.hid (HG.out d).1
      have HkP := Lib.hid (keyAt_len HLN.out (show k < n by omega))
      have Hkey := Lib.hid (HR.out.key k (by omega))
      have Hnode := Lib.hid (fun W => l03node_spec (keyAt fl k) (ofR fl n d) HkP.out (keyAt_range HFB.out k) HkV.out (HG.out d).2 W)
      have HkQ := Lib.hid (nodeK_len (keyAt fl k) (ofR fl n d))
      have HKK := Lib.hid hk
      rw [hk]
      have k0 : (k : Int) < (n : Int) := by omega
      have k1 : (0 : Int) ≤ (k : Int) := by omega
      clear hk hk2
      generalize keyAt fl k = P at HQ HkP Hkey Hnode HkQ
      generalize hV : ofR fl n d = V at HQ HkV HK Hnode HkQ
      generalize nodeK P V = Q at HQ Hnode HkQ
      clear hV
      go_wp2_with fail
      refine wp_region_held_drew (S := Below W1.heap.size wr) (by kernel_rfl) ((Below.refl _ _).drew) (fun hS => ?_)
      refine take_at (i := 0) (v := .slice (some ⟨blk, off, none⟩) n cap) rfl rfl (by kernel_rfl) (by kernel_rfl) (by kernel_rfl) (fun _ _ _ h => h) (Or.inl ⟨by rfl, fun W hW => by go_simp⟩) hS ?_
      refine take_at (i := 1) (v := .int .i64 (k : Int)) rfl rfl (by kernel_rfl) (by kernel_rfl) (by kernel_rfl) (fun _ _ _ h => h) (Or.inl ⟨by rfl, fun W hW => by go_simp⟩) hS ?_
      simp only [List.setIfInBounds_toArray, List.set_cons_zero, List.set_cons_succ]
      refine take_at (i := 2) (v := .pointer (some ⟨blk, off + k * 32, none⟩)) rfl rfl (by kernel_rfl) (by kernel_rfl) (by kernel_rfl) (fun _ _ _ h => h) (Or.inl ⟨by rfl, fun W hW => by go_simp⟩) hS ?_
      refine take_at (i := 3) (v := .agg (ints .u8 P)) rfl rfl (by kernel_rfl) (by kernel_rfl) (by kernel_rfl) (fun _ _ _ h => h) (yieldsIf_load_mid (by rfl) 29 _ rfl blk (off + k * 32) rfl (P.map (Value.int .u8)) _ (fun W hW => rangeAt_below Hkey.out (HB.out.trans hW)) Try.underlying29 rfl (by rw [List.length_map, HkP.out]; exact sizeKey)) hS ?_
      simp only [List.setIfInBounds_toArray, List.set_cons_zero, List.set_cons_succ]
      refine wpAnyH_ready (rs := [4]) (by kernel_rfl) (by simp) ?_
      refine AllReadyH.cons rfl (fun K hK => ?_) AllReadyH.nil
      rw [if_pos (by rfl)]
      refine wp_load_row (o := ⟨some 22, _, _, _, _, _⟩) 29 _ rfl W1.heap.size rfl 29 (ints .u8 V) (0, 0) _ (((Below.refl wr.heap.size wr).drew.block W1.heap.size (Array.getElem?_eq_some_iff.1 HK.out).1).trans HK.out) Try.underlying29 rfl (by rw [ints_size, HkV.out]; exact sizeKey) ?_
      simp only [Act.put]
      refine hK.out _ _ hS (fun hS => ?_)
      clear hK
      simp only [List.setIfInBounds_toArray, List.set_cons_zero, List.set_cons_succ]
      refine wpAnyH_ready (rs := [5]) (by kernel_rfl) (by simp) ?_
      refine AllReadyH.cons rfl (fun K hK => ?_) AllReadyH.nil
      rw [if_pos (by rfl)]
      go_simp
      refine (Hnode.out _).mono ?_
      rintro x u1 ⟨rfl, hb'⟩
      have C1 := Lib.hid (below_call (Below.refl wr.heap.size wr).drew (Below.refl wr.heap.size wr).drew.size hb')
      have K1 := Lib.hid ((C1.out.block W1.heap.size (Array.getElem?_eq_some_iff.1 HK.out).1).trans HK.out)
      refine hK.out _ _ (hS.trans (hb'.mono (Nat.le_trans HB.out.size hS.size))) (fun hS => ?_)
      clear hb' hK
      refine wpAnyH_ready (rs := [6]) (by kernel_rfl) (by simp) ?_
      refine AllReadyH.cons rfl (fun K hK => ?_) AllReadyH.nil
      rw [if_pos (by rfl)]
      refine wp_store_row (o := ⟨none, _, _, _, _, _⟩) 29 _ _ rfl _ (ints .u8 Q) rfl rfl 29 (ints .u8 V) K1.out (by rw [ints_size, HkQ.out]; exact sizeKey) (by rw [ints_size, ints_size, HkQ.out, HkV.out]) (ints_one _ _) ?_
      simp only [Act.put]
      have CF := Lib.hid (Below.setRow (g := W1.heap.size) (HB.out.trans (C1.out.mono HB.out.size)) (Nat.le_refl _) (ints .u8 Q))
      have KF := Lib.hid (setRow_heap _ _ (ints .u8 V) (ints .u8 Q) _ _ K1.out)
      refine hK.out _ _ (Below.setRow hS (Nat.le_refl _) _) (fun hS => ?_)
      clear hK hS
      refine wpAnyH_done (by kernel_rfl) ?_ _
      go_wp2_with fail
      go_roundw
      case rel => exact ⟨d + 1, by omega, by have := HKK.out; congr 1 <;> omega, CF.out, by rw [HQ.out]; exact KF.out⟩
      case measure => have := HKK.out; first | (simp [intOf]; done) | (simp [intOf]; omega)
    · obtain rfl : d = n - 1 := by omega
      have hneg : (n : Int) - 2 - ((n - 1 : Nat) : Int) = -1 := by omega
      rw [hneg]
      have HkV := Lib.hid (HG.out (n - 1)).1
      clear hneg hlt
      generalize hV : ofR fl n (n - 1) = V at HK HkV ⊢
      have GR := Lib.hid ((HB.out.block w.heap.size (by have := HSZ.out; omega)).trans G0.out)
      have BF := Lib.hid (BW.out.trans (HB.out.mono BW.out.size))
      go_wp2_with (first | (refine wpList_load_row rfl 29 (.tmp 3) rfl W1.heap.size rfl 29 (ints .u8 V) (0, 0) _ HK.out Try.underlying29 rfl (by rw [ints_size, HkV.out]; exact sizeKey) ?_) | (refine wpList_store_row rfl 29 (.tmp 2) _ rfl w.heap.size (ints .u8 V) rfl rfl 29 (ints .u8 z32) GR.out (by rw [ints_size, HkV.out]; exact sizeKey) (by rw [ints_size, ints_size, HkV.out]; rfl) (ints_one _ _) ?_))
      refine bodyPost_ret (results_cell_row rfl _ _ w.heap.size 29 (ints .u8 V) (0, 0) _ rfl (setRow_heap _ _ (ints .u8 z32) _ _ _ GR.out) Try.underlying29 rfl (by rw [ints_size, HkV.out]; exact sizeKey)) rfl ⟨by rw [hV], ?_⟩
      exact Below.setRow BF.out (Nat.le_refl _) _
/-- The key of l peaks of n leaves, and the code. -/
def kopE (l : Nat) (n : Int) : Int := gcode l n 256
def kopV (fl : List Int) (l : Nat) (n : Int) : List Int := if gcode l n 256 ≠ 0 then z32 else if n = 0 then hashK 3 [] else ofR fl l (l - 1)
theorem ones_pos : ∀ n : Nat, n < 257 → 0 < n → 0 < onesF 10 n := by decide +kernel
theorem gcode_zero {l : Nat} {n most : Int} (h : gcode l n most = 0) (h1 : most ≤ 256) : l ≤ 256 ∧ 0 ≤ n ∧ n ≤ most ∧ l = ones n.toNat := by
  unfold gcode at h
  split at h
  · omega
  · split at h
    · omega
    · split at h
      · omega
      · rename_i a b c
        refine ⟨by omega, by omega, by omega, ?_⟩
        have : ¬ ((l : Int) ≠ (ones n.toNat : Nat)) := c
        omega
theorem gcode_pos {l : Nat} {n most : Int} (h : gcode l n most = 0) (h1 : most ≤ 256) (h0 : n ≠ 0) : 0 < l := by
  obtain ⟨_, a, b, e⟩ := gcode_zero h h1
  rw [e]
  exact ones_pos n.toNat (by omega) (by omega)
theorem kopV_len {fl : List Int} {l : Nat} {n : Int} (h : fl.length = 32 * l) (fb : ∀ z ∈ fl, 0 ≤ z ∧ z ≤ 255) : (kopV fl l n).length = 32 := by
  unfold kopV
  split
  · rfl
  · rename_i hc
    split
    · exact hashK_len _ _
    · exact (ofR_good h fb (gcode_pos (by simpa using hc) (by omega) (by assumption)) _).1
set_option maxRecDepth 100000 in
set_option maxHeartbeats 2000000 in
theorem kop_spec (a : Option Addr) (l cap : Nat) (n : Int) (fl : List Int) (hl : l ≤ 1048576) (fb : ∀ z ∈ fl, 0 ≤ z ∧ z ≤ 255) (w : World) (hr : RdK w a l fl) :
    Calls Try.prog 42 #[.slice a l cap, .int .i64 n] w fun x w' => x = .returned (.tuple #[.agg (ints .u8 (kopV fl l n)), .int .i64 (kopE l n)]) ∧ Below w.heap.size w w' := by
  have Hz := Lib.hid z32_ints
  have Hg := Lib.hid (fun W => given_spec a l cap n 256 hl (by omega) (by omega) W)
  have Hvl := Lib.hid (kopV_len (n := n) hr.1 fb)
  have BW := Lib.hid ((Below.refl w.heap.size w).alloc (Nat.le_refl _) (.cells (ints .u8 z32) 29))
  have GK := Lib.hid (heap_alloc_last w (.cells (ints .u8 z32) 29))
  obtain ⟨W0, hW0⟩ : ∃ W0, w.alloc (.cells (ints .u8 z32) 29) = W0 := ⟨_, rfl⟩
  rw [hW0] at BW GK
  have HSZ : Hid (W0.heap.size = w.heap.size + 1) := Lib.hid (by rw [← hW0]; simp)
  unfold kopE
  by_cases hc : gcode l n 256 = 0
  · have Hcz := Lib.hid hc
    rw [hc] at Hg ⊢
    by_cases h0 : n = 0
    · have hl0 : l = 0 := by
        obtain ⟨_, _, _, e⟩ := gcode_zero hc (by omega)
        rw [e, h0]
        decide +kernel
      have e1 : kopV fl l n = hashK 3 [] := by unfold kopV; rw [if_neg (by simp [hc]), if_pos h0]
      subst hl0
      subst h0
      rw [e1] at Hvl ⊢
      clear e1 hc Hcz
      have Hh := Lib.hid (fun W g c => key_spec0 (some ⟨g, 0, none⟩) c fl W)
      have B2 := Lib.hid (BW.out.alloc BW.out.size (.cells #[] 29))
      have G2 := Lib.hid (keep_block GK.out ((Below.refl _ _).alloc (Nat.le_refl _) (.cells #[] 29)))
      clear hr fb
      generalize hashK 3 [] = V at Hh Hvl ⊢
      rw [Hz.out] at hW0
      go_enter Try.func42, Try.ntmps42
      go_wp2_with fail
      refine (Hg.out _).mono ?_
      rintro x w0 ⟨rfl, rfl⟩
      clear hW0
      go_wp2_with fail
      refine (Hh.out _ _ _).mono ?_
      rintro x w1 ⟨rfl, hb⟩
      have G1 := Lib.hid (keep_block G2.out hb)
      have B1 := Lib.hid (below_call B2.out B2.out.size hb)
      clear hb
      go_wp2_with (refine wpList_store_row rfl 29 _ _ rfl w.heap.size (ints .u8 V) rfl rfl 29 (ints .u8 z32) G1.out (by rw [ints_size, Hvl.out]; exact sizeKey) (by rw [ints_size, ints_size, Hvl.out]; rfl) (ints_one _ _) ?_)
      refine bodyPost_ret (results_cell2_row rfl _ _ w.heap.size 29 (ints .u8 V) (0, 0) _ rfl (setRow_heap _ _ (ints .u8 z32) _ _ _ G1.out) Try.underlying29 rfl (by rw [ints_size, Hvl.out]; exact sizeKey)) rfl ⟨rfl, ?_⟩
      exact Below.setRow B1.out (Nat.le_refl _) _
    · have hp := gcode_pos hc (by omega) h0
      have e1 : kopV fl l n = ofR fl l (l - 1) := by unfold kopV; rw [if_neg (by simp [hc]), if_neg h0]
      rw [e1] at Hvl ⊢
      obtain ⟨blk, off, rfl⟩ := hr.form hp
      have Ho := Lib.hid (of_spec blk off l cap fl hp hl fb W0 (hr.below BW.out))
      clear hr fb hc e1 hp
      generalize ofR fl l (l - 1) = V at Ho Hvl ⊢
      rw [Hz.out] at hW0
      go_enter Try.func42, Try.ntmps42
      go_wp2_with fail
      refine (Hg.out _).mono ?_
      rintro x w0 ⟨rfl, rfl⟩
      clear hW0
      go_wp2_with fail
      refine Ho.out.mono ?_
      rintro x w1 ⟨rfl, hb⟩
      have G1 := Lib.hid (keep_block GK.out hb)
      have B1 := Lib.hid (below_call BW.out BW.out.size hb)
      clear hb
      go_wp2_with (refine wpList_store_row rfl 29 _ _ rfl w.heap.size (ints .u8 V) rfl rfl 29 (ints .u8 z32) G1.out (by rw [ints_size, Hvl.out]; exact sizeKey) (by rw [ints_size, ints_size, Hvl.out]; rfl) (ints_one _ _) ?_)
      refine bodyPost_ret (results_cell2_row rfl _ _ w.heap.size 29 (ints .u8 V) (0, 0) _ rfl (setRow_heap _ _ (ints .u8 z32) _ _ _ G1.out) Try.underlying29 rfl (by rw [ints_size, Hvl.out]; exact sizeKey)) rfl ⟨rfl, ?_⟩
      exact Below.setRow B1.out (Nat.le_refl _) _
  · have e1 : kopV fl l n = z32 := by unfold kopV; rw [if_pos hc]
    rw [e1]
    clear e1 hr fb Hvl
    generalize gcode l n 256 = c at hc Hg ⊢
    rw [Hz.out] at hW0
    go_enter Try.func42, Try.ntmps42
    go_wp2_with fail
    refine (Hg.out _).mono ?_
    rintro x w1 ⟨rfl, rfl⟩
    clear hW0
    go_wp2_with (refine wpList_store_row rfl 29 _ _ rfl w.heap.size (ints .u8 z32) rfl (by rw [Hz.out]; rfl) 29 (ints .u8 z32) GK.out (by kernel_rfl) rfl (ints_one _ _) ?_)
    refine bodyPost_ret (results_cell2_row rfl _ _ w.heap.size 29 (ints .u8 z32) (0, 0) _ rfl (setRow_heap _ _ (ints .u8 z32) _ _ _ GK.out) Try.underlying29 rfl (by kernel_rfl)) rfl ⟨rfl, ?_⟩
    exact Below.setRow BW.out (Nat.le_refl _) _
end Go.Proofs.Ytfnmmpnmbommeaa
