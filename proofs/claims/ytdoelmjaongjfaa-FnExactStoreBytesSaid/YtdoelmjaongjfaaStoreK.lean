/- The key of a blob at a place of a block, by the specification. Made of XBlobK by hand. -/
import Derived.Test.YtdoelmjaongjfaaStoreB
namespace Go.Proofs.Ytdoelmjaongjfaa
open Go.ChangeShapes Go.WideShapes Go.ChangeAt Go.RowKit
set_option linter.unusedVariables false
set_option linter.unusedSimpArgs false
set_option maxRecDepth 100000 in
set_option maxHeartbeats 4000000 in
theorem bk_specA (ga oa xa : Nat) (ta : Int) (n : Nat) (l : List Int) (w : World) (h0 : 0 ≤ ta) (h1 : ta ≤ 255) (hn : n ≤ 1048576) (hl : l.length = n) (fl : ∀ z ∈ l, 0 ≤ z ∧ z ≤ 255) (ha : BlAtO w ga oa xa ta n l) :
    Calls Try.prog 93 #[.pointer (some ⟨ga, oa, none⟩)] w fun e w' => e = .returned (.agg (ints .u8 (hashK ta l))) ∧ Below w.heap.size w w' := by
  have Hz := Lib.hid z32_ints
  have HA := Lib.hid (fun U (hU : Below w.heap.size w U) => ha.keep hU)
  have HH := Lib.hid (fun U (hU : Below w.heap.size w U) => hash_spec ta xa 0 n n l h0 h1 fl hn U hl (Nat.lt_of_lt_of_le (Array.getElem?_eq_some_iff.1 ha.2.2).1 hU.size) (fun j hj => by rw [cell_of_row U xa (0 + j) _ _ _ (keep_block ha.2.2 hU), Nat.zero_add, ints_get .u8 l j (by omega)]))
  have HV := Lib.hid (hashK_len ta l)
  have K := heap_alloc_last w (.cells (ints .u8 z32) 46)
  have B := (Below.refl w.heap.size w).alloc (Nat.le_refl _) (.cells (ints .u8 z32) 46)
  obtain ⟨W0, hW0⟩ : ∃ W0, w.alloc (.cells (ints .u8 z32) 46) = W0 := ⟨_, rfl⟩
  rw [hW0] at K B
  rw [Hz.out] at hW0
  have K0 := Lib.hid K
  have B0 := Lib.hid B
  generalize hashK ta l = V at HH HV ⊢
  clear K B ha hl fl h0 h1
  go_enter Try.func93, Try.ntmps93
  go_upto_region 1 with fail
  clear hW0
  refine wp_region_held_drew (S := Below w.heap.size w) (by kernel_rfl) B0.out.drew (fun hS => ?_)
  refine takeS (i := 0) (v := .pointer (some ⟨ga, oa, none⟩)) rfl rfl (by kernel_rfl) (by kernel_rfl) (by kernel_rfl) (fun _ _ _ h => h) (Or.inl ⟨by rfl, fun U hU => by go_simp⟩) hS ?_
  try simp only [List.setIfInBounds_toArray, List.set_cons_zero, List.set_cons_succ]
  refine takeS (i := 1) (v := .pointer (some ⟨ga, oa, none⟩)) rfl rfl (by kernel_rfl) (by kernel_rfl) (by kernel_rfl) (fun _ _ _ h => h) (Or.inl ⟨by rfl, fun U hU => by go_simp⟩) hS ?_
  try simp only [List.setIfInBounds_toArray, List.set_cons_zero, List.set_cons_succ]
  refine takeS (i := 2) (v := .pointer (some ⟨ga, oa, none⟩)) rfl rfl (by kernel_rfl) (by kernel_rfl) (by kernel_rfl) (fun _ _ _ h => h) (Or.inl ⟨by rfl, fun U hU => by go_simp⟩) hS ?_
  try simp only [List.setIfInBounds_toArray, List.set_cons_zero, List.set_cons_succ]
  refine takeS (i := 3) (v := .int .u8 ta) rfl rfl (by kernel_rfl) (by kernel_rfl) (by kernel_rfl) (fun _ _ _ h => h) (Or.inl ⟨by rfl, fun U hU => by have q0 := (HA.out U hU).1; go_simp⟩) hS ?_
  try simp only [List.setIfInBounds_toArray, List.set_cons_zero, List.set_cons_succ]
  refine takeS (i := 4) (v := .pointer (some ⟨ga, oa, none⟩)) rfl rfl (by kernel_rfl) (by kernel_rfl) (by kernel_rfl) (fun _ _ _ h => h) (Or.inl ⟨by rfl, fun U hU => by go_simp⟩) hS ?_
  try simp only [List.setIfInBounds_toArray, List.set_cons_zero, List.set_cons_succ]
  refine takeS (i := 5) (v := .pointer (some ⟨ga, oa, none⟩)) rfl rfl (by kernel_rfl) (by kernel_rfl) (by kernel_rfl) (fun _ _ _ h => h) (Or.inl ⟨by rfl, fun U hU => by go_simp⟩) hS ?_
  try simp only [List.setIfInBounds_toArray, List.set_cons_zero, List.set_cons_succ]
  refine takeS (i := 6) (v := .pointer (some ⟨ga, oa + 1, none⟩)) rfl rfl (by kernel_rfl) (by kernel_rfl) (by kernel_rfl) (fun _ _ _ h => h) (Or.inl ⟨by rfl, fun U hU => by go_simp⟩) hS ?_
  try simp only [List.setIfInBounds_toArray, List.set_cons_zero, List.set_cons_succ]
  refine takeS (i := 7) (v := .slice (some ⟨xa, 0, none⟩) n n) rfl rfl (by kernel_rfl) (by kernel_rfl) (by kernel_rfl) (fun _ _ _ h => h) (Or.inl ⟨by rfl, fun U hU => by have q0 := (HA.out U hU).2; go_simp⟩) hS ?_
  try simp only [List.setIfInBounds_toArray, List.set_cons_zero, List.set_cons_succ]
  refine wpAnyH_ready (rs := [8]) (by kernel_rfl) (by simp) ?_
  refine AllReadyH.cons rfl (fun KQ hK => ?_) AllReadyH.nil
  rw [if_pos (by rfl)]
  go_simp
  refine (HH.out _ hS).mono ?_
  rintro e w3 ⟨rfl, hb⟩
  have K3 := Lib.hid (keep_block (w := W0.drew) K0.out hb)
  have B3 := Lib.hid (below_call hS hS.size hb)
  refine hK.out _ _ B3.out (fun hS => ?_)
  clear hb hK
  refine wpAnyH_ready (rs := [9]) (by kernel_rfl) (by simp) ?_
  refine AllReadyH.cons rfl (fun KQ hK => ?_) AllReadyH.nil
  rw [if_pos (by rfl)]
  refine wp_store_row (o := ⟨none, _, _, _, _, _⟩) 46 _ _ rfl _ (ints .u8 V) rfl rfl 46 (ints .u8 z32) K3.out (by rw [ints_size, HV.out]; exact sizeKey) (by rw [ints_size, ints_size, HV.out]; rfl) (ints_one _ _) ?_
  simp only [Act.put]
  have BF := Lib.hid (Below.setRow B3.out (Nat.le_refl w.heap.size) (ints .u8 V))
  have KF := Lib.hid (setRow_heap _ _ (ints .u8 z32) (ints .u8 V) _ _ K3.out)
  refine hK.out _ _ BF.out (fun hS => ?_)
  clear hK
  refine wpAnyH_done (by kernel_rfl) ?_ _
  go_wp2_with fail
  refine bodyPost_ret (results_cell_row rfl _ _ w.heap.size 46 (ints .u8 V) (0, 0) _ rfl KF.out Try.underlying46 rfl (by rw [ints_size, HV.out]; exact sizeKey)) rfl ⟨rfl, BF.out⟩
end Go.Proofs.Ytdoelmjaongjfaa
