/- BlobKey, by program and specification. Written by wip/gen/blob.py. -/
import Derived.Test.YtdoelmjaongjfaaBlobS
namespace Go.Proofs.Ytdoelmjaongjfaa
open Go.ChangeShapes Go.WideShapes Go.ChangeAt Go.RowKit
set_option linter.unusedVariables false
set_option linter.unusedSimpArgs false
def bkV (t : Int) (l : List Int) : List Int := if blB l.length = true then hashK t l else z32
def bkE (l : List Int) : Int := if blB l.length = true then 0 else 1
theorem bkV_len (t : Int) (l : List Int) : (bkV t l).length = 32 := by
  unfold bkV
  split
  · exact hashK_len _ _
  · rfl
set_option maxRecDepth 100000 in
set_option maxHeartbeats 4000000 in
/-- The key of a blob that lies in a block, by the specification. -/
theorem bk_spec0 (ga xa : Nat) (ta : Int) (n : Nat) (l : List Int) (w : World) (h0 : 0 ≤ ta) (h1 : ta ≤ 255) (hn : n ≤ 1048576) (hl : l.length = n) (fl : ∀ z ∈ l, 0 ≤ z ∧ z ≤ 255) (ha : BlAt w ga xa ta n l) :
    Calls Try.prog 93 #[.pointer (some ⟨ga, 0, none⟩)] w fun e w' => e = .returned (.agg (ints .u8 (hashK ta l))) ∧ Below w.heap.size w w' := by
  have Hz := Lib.hid z32_ints
  have HA := Lib.hid ha.1
  have HH := Lib.hid (fun U (hU : Below w.heap.size w U) => hash_spec ta xa 0 n n l h0 h1 fl hn U hl (Nat.lt_of_lt_of_le (Array.getElem?_eq_some_iff.1 ha.2).1 hU.size) (fun j hj => by rw [cell_of_row U xa (0 + j) _ _ _ (keep_block ha.2 hU), Nat.zero_add, ints_get .u8 l j (by omega)]))
  have HV := Lib.hid (hashK_len ta l)
  have K := heap_alloc_last w (.cells (ints .u8 z32) 46)
  have B := (Below.refl w.heap.size w).alloc (Nat.le_refl _) (.cells (ints .u8 z32) 46)
  obtain ⟨W0, hW0⟩ : ∃ W0, w.alloc (.cells (ints .u8 z32) 46) = W0 := ⟨_, rfl⟩
  rw [hW0] at K B
  rw [Hz.out] at hW0
  have K0 := Lib.hid K
  have B0 := Lib.hid B
  generalize hashK ta l = V at HH HV ⊢
  clear K B ha hl fl h0 h1
  go_enter Try.func93, Try.ntmps93
  go_upto_region 1 with fail
  clear hW0
  refine wp_region_held_drew (S := Below w.heap.size w) (by kernel_rfl) B0.out.drew (fun hS => ?_)
  refine takeS (i := 0) (v := .pointer (some ⟨ga, 0, none⟩)) rfl rfl (by kernel_rfl) (by kernel_rfl) (by kernel_rfl) (fun _ _ _ h => h) (Or.inl ⟨by rfl, fun U hU => by go_simp⟩) hS ?_
  try simp only [List.setIfInBounds_toArray, List.set_cons_zero, List.set_cons_succ]
  refine takeS (i := 1) (v := .pointer (some ⟨ga, 0, none⟩)) rfl rfl (by kernel_rfl) (by kernel_rfl) (by kernel_rfl) (fun _ _ _ h => h) (Or.inl ⟨by rfl, fun U hU => by go_simp⟩) hS ?_
  try simp only [List.setIfInBounds_toArray, List.set_cons_zero, List.set_cons_succ]
  refine takeS (i := 2) (v := .pointer (some ⟨ga, 0, none⟩)) rfl rfl (by kernel_rfl) (by kernel_rfl) (by kernel_rfl) (fun _ _ _ h => h) (Or.inl ⟨by rfl, fun U hU => by go_simp⟩) hS ?_
  try simp only [List.setIfInBounds_toArray, List.set_cons_zero, List.set_cons_succ]
  refine takeS (i := 3) (v := .int .u8 ta) rfl rfl (by kernel_rfl) (by kernel_rfl) (by kernel_rfl) (fun _ _ _ h => h) (Or.inl ⟨by rfl, fun U hU => by have q0 := cell_of_row _ ga 0 _ _ _ (keep_block HA.out hU); go_simp⟩) hS ?_
  try simp only [List.setIfInBounds_toArray, List.set_cons_zero, List.set_cons_succ]
  refine takeS (i := 4) (v := .pointer (some ⟨ga, 0, none⟩)) rfl rfl (by kernel_rfl) (by kernel_rfl) (by kernel_rfl) (fun _ _ _ h => h) (Or.inl ⟨by rfl, fun U hU => by go_simp⟩) hS ?_
  try simp only [List.setIfInBounds_toArray, List.set_cons_zero, List.set_cons_succ]
  refine takeS (i := 5) (v := .pointer (some ⟨ga, 0, none⟩)) rfl rfl (by kernel_rfl) (by kernel_rfl) (by kernel_rfl) (fun _ _ _ h => h) (Or.inl ⟨by rfl, fun U hU => by go_simp⟩) hS ?_
  try simp only [List.setIfInBounds_toArray, List.set_cons_zero, List.set_cons_succ]
  refine takeS (i := 6) (v := .pointer (some ⟨ga, 1, none⟩)) rfl rfl (by kernel_rfl) (by kernel_rfl) (by kernel_rfl) (fun _ _ _ h => h) (Or.inl ⟨by rfl, fun U hU => by go_simp⟩) hS ?_
  try simp only [List.setIfInBounds_toArray, List.set_cons_zero, List.set_cons_succ]
  refine takeS (i := 7) (v := .slice (some ⟨xa, 0, none⟩) n n) rfl rfl (by kernel_rfl) (by kernel_rfl) (by kernel_rfl) (fun _ _ _ h => h) (Or.inl ⟨by rfl, fun U hU => by have q0 := cell_of_row _ ga 1 _ _ _ (keep_block HA.out hU); go_simp⟩) hS ?_
  try simp only [List.setIfInBounds_toArray, List.set_cons_zero, List.set_cons_succ]
  refine wpAnyH_ready (rs := [8]) (by kernel_rfl) (by simp) ?_
  refine AllReadyH.cons rfl (fun KQ hK => ?_) AllReadyH.nil
  rw [if_pos (by rfl)]
  go_simp
  refine (HH.out _ hS).mono ?_
  rintro e w3 ⟨rfl, hb⟩
  have K3 := Lib.hid (keep_block (w := W0.drew) K0.out hb)
  have B3 := Lib.hid (below_call hS hS.size hb)
  refine hK.out _ _ B3.out (fun hS => ?_)
  clear hb hK
  refine wpAnyH_ready (rs := [9]) (by kernel_rfl) (by simp) ?_
  refine AllReadyH.cons rfl (fun KQ hK => ?_) AllReadyH.nil
  rw [if_pos (by rfl)]
  refine wp_store_row (o := ⟨none, _, _, _, _, _⟩) 46 _ _ rfl _ (ints .u8 V) rfl rfl 46 (ints .u8 z32) K3.out (by rw [ints_size, HV.out]; exact sizeKey) (by rw [ints_size, ints_size, HV.out]; rfl) (ints_one _ _) ?_
  simp only [Act.put]
  have BF := Lib.hid (Below.setRow B3.out (Nat.le_refl w.heap.size) (ints .u8 V))
  have KF := Lib.hid (setRow_heap _ _ (ints .u8 z32) (ints .u8 V) _ _ K3.out)
  refine hK.out _ _ BF.out (fun hS => ?_)
  clear hK
  refine wpAnyH_done (by kernel_rfl) ?_ _
  go_wp2_with fail
  refine bodyPost_ret (results_cell_row rfl _ _ w.heap.size 46 (ints .u8 V) (0, 0) _ rfl KF.out Try.underlying46 rfl (by rw [ints_size, HV.out]; exact sizeKey)) rfl ⟨rfl, BF.out⟩
set_option maxRecDepth 100000 in
set_option maxHeartbeats 4000000 in
theorem bk_impl (ta : Int) (a : Option Addr) (n cap : Nat) (l : List Int) (w : World) (h0 : 0 ≤ ta) (h1 : ta ≤ 255) (hn : n ≤ 1048576) (fl : ∀ z ∈ l, 0 ≤ z ∧ z ≤ 255) (hr : Rd .u8 w a n l) :
    Calls Try.prog 95 #[.agg #[.int .u8 ta, .slice a n cap]] w fun e w' => e = .returned (.tuple #[.agg (ints .u8 (bkV ta l)), .int .i64 (bkE l)]) ∧ Below w.heap.size w w' := by
  have Hz := Lib.hid z32_ints
  have hl := hr.1
  have A0 := heap_alloc2_old w (.cells #[.int .u8 ta, .slice a n cap] 43) (.cells (ints .u8 z32) 46)
  have A1 := heap_alloc2_new w (.cells #[.int .u8 ta, .slice a n cap] 43) (.cells (ints .u8 z32) 46)
  have B0 := ((Below.refl w.heap.size w).alloc (Nat.le_refl _) (.cells #[.int .u8 ta, .slice a n cap] 43)).alloc (by simp) (.cells (ints .u8 z32) 46)
  obtain ⟨W0, hW0⟩ : ∃ W0, (w.alloc (.cells #[.int .u8 ta, .slice a n cap] 43)).alloc (.cells (ints .u8 z32) 46) = W0 := ⟨_, rfl⟩
  rw [hW0] at A0 A1 B0
  rw [Hz.out] at hW0
  have HE := Lib.hid (fun U => vb_impl ta a n cap hn U)
  have K1 := Lib.hid A1
  have X1 := Lib.hid A0
  have B0' := Lib.hid B0
  have HV := Lib.hid (bkV_len ta l)
  have p0 := cell_of_row W0 w.heap.size 0 _ _ _ A0
  have p1 := cell_of_row W0 w.heap.size 1 _ _ _ A0
  unfold bkE
  cases hv : blB n with
  | true =>
    rw [hv] at HE
    rw [hl, hv, if_pos rfl]
    have h4 : n ≤ 4096 := by unfold blB at hv; have := of_decide_eq_true hv; omega
    have HB := Lib.hid (fun U (hU : Below w.heap.size w U) => hash_imp ta a n cap l h0 h1 fl h4 U (hr.below hU))
    rw [show hashK ta l = bkV ta l by unfold bkV; rw [hl, if_pos hv]] at HB
    generalize bkV ta l = V at HV HB ⊢
    clear hv hl h4 h0 h1 fl hr A0 A1 B0
    go_enter Try.func95, Try.ntmps95
    go_wp2_with fail
    clear hW0 p0 p1
    refine (HE.out _).mono ?_
    rintro e w1 ⟨rfl, hb⟩
    have B1 := Lib.hid (below_call B0'.out B0'.out.size hb)
    have K2 := Lib.hid (keep_block K1.out hb)
    have X2 := Lib.hid (keep_block X1.out hb)
    clear hb
    have p0 := cell_of_row w1 w.heap.size 0 _ _ _ X2.out
    have p1 := cell_of_row w1 w.heap.size 1 _ _ _ X2.out
    go_wp2_with fail
    clear p0 p1
    refine (HB.out _ B1.out).mono ?_
    rintro e w2 ⟨rfl, hb⟩
    have B2 := Lib.hid (below_call B1.out B1.out.size hb)
    have K3 := Lib.hid (keep_block K2.out hb)
    clear hb
    go_wp2_with (refine wpList_store_row rfl 46 _ _ rfl (w.heap.size + 1) (ints .u8 V) rfl rfl 46 (ints .u8 z32) K3.out (by rw [ints_size, HV.out]; exact sizeKey) (by rw [ints_size, ints_size, HV.out]; rfl) (ints_one _ _) ?_)
    refine bodyPost_ret (results_cell2_row rfl _ _ (w.heap.size + 1) 46 (ints .u8 V) (0, 0) _ rfl (setRow_heap _ _ (ints .u8 z32) _ _ _ K3.out) Try.underlying46 rfl (by rw [ints_size, HV.out]; exact sizeKey)) rfl ⟨rfl, ?_⟩
    exact Below.setRow B2.out (by omega) _
  | false =>
    rw [hv] at HE
    rw [hl, hv, if_neg (by simp), show bkV ta l = z32 by unfold bkV; rw [hl, if_neg (by rw [hv]; simp)]]
    clear hv hl h0 h1 fl hr A0 A1 B0
    go_enter Try.func95, Try.ntmps95
    go_wp2_with fail
    clear hW0 p0 p1
    refine (HE.out _).mono ?_
    rintro e w1 ⟨rfl, hb⟩
    have B1 := Lib.hid (below_call B0'.out B0'.out.size hb)
    have K2 := Lib.hid (keep_block K1.out hb)
    clear hb
    go_wp2_with (refine wpList_store_row rfl 46 _ _ rfl (w.heap.size + 1) (ints .u8 z32) rfl rfl 46 (ints .u8 z32) K2.out (by rw [ints_size]; exact sizeKey) rfl (ints_one _ _) ?_)
    refine bodyPost_ret (results_cell2_row rfl _ _ (w.heap.size + 1) 46 (ints .u8 z32) (0, 0) _ rfl (setRow_heap _ _ (ints .u8 z32) _ _ _ K2.out) Try.underlying46 rfl (by rw [ints_size]; exact sizeKey)) rfl ⟨rfl, ?_⟩
    exact Below.setRow B1.out (by omega) _
end Go.Proofs.Ytdoelmjaongjfaa
