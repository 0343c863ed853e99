/- The statement on CheckProof: its walk. Written by wip/gen/cpi.py. -/
import Derived.Test.YtcbcfjflaplkoaaCpI
import Derived.Test.YtcbcfjflaplkoaaKeys
namespace Go.Proofs.Ytcbcfjflaplkoaa
open Go.ChangeShapes Go.WideShapes Go.ChangeAt Go.RowKit
set_option linter.unusedVariables false
set_option linter.unusedSimpArgs false
set_option maxRecDepth 100000 in
set_option maxHeartbeats 4000000 in
theorem cpl_in (root leaf : List Int) (ap : Option Addr) (P cp : Nat) (n i : Int) (fl : List Int) (V : Bool) (E : Int) (hO : root.length = 32) (hN : leaf.length = 32) (hP : P ≤ 1048576) (w : World) (hp : RdK w ap P fl)
    (hs : ∀ (U : World) b, RdK U b P fl → Calls Try.prog 30 #[.agg (ints .u8 root), .int .i64 n, .int .i64 i, .agg (ints .u8 leaf), .slice b P P] U fun x w' => x = .returned (.tuple #[.bool V, .int .i64 E]) ∧ Below U.heap.size U w')
    (hi : ∀ (U : World) b, RdK U b P fl → Calls Try.prog 21 #[.agg (ints .u8 root), .int .i64 n, .int .i64 i, .agg (ints .u8 leaf), .slice b P P] U fun x w' => x = .returned (.tuple #[.bool V, .int .i64 E]) ∧ Below U.heap.size U w') :
    Calls Try.prog 5 #[.agg (ints .u8 root), .int .i64 n, .int .i64 i, .agg (ints .u8 leaf), .slice ap P cp] w fun e w' => e = .returned (.bool true) ∧ Below w.heap.size w w' := by
  have HO := Lib.hid hO
  have HN := Lib.hid hN
  have HP := Lib.hid hp
  have Lp := Lib.hid hp.1
  have Hs := Lib.hid hs
  have Hi := Lib.hid hi
  have A0 := Lib.hid (heap_alloc2_old w (.cells (ints .u8 root) 27) (.cells (ints .u8 leaf) 27))
  have A1 := Lib.hid (heap_alloc2_new w (.cells (ints .u8 root) 27) (.cells (ints .u8 leaf) 27))
  have B0 := Lib.hid (((Below.refl w.heap.size w).alloc (Nat.le_refl _) (.cells (ints .u8 root) 27)).alloc (by simp) (.cells (ints .u8 leaf) 27))
  clear hp hs hi hO hN
  go_enter Try.func5, Try.ntmps5
  go_wp2_with fail
  generalize (w.alloc (.cells (ints .u8 root) 27)).alloc (.cells (ints .u8 leaf) 27) = W1 at A0 A1 B0 ⊢
  refine (szKS_in ap P cp 1048576 (by omega) (by omega) (by omega) _).mono ?_
  rintro e v0 ⟨rfl, rfl⟩
  have k1 : ¬ (1048576 : Int) - (P : Int) < 0 := by omega
  go_upto_region 5 with fail
  refine wp_region_held_drew (S := Below (W1).heap.size (W1)) (by kernel_rfl) ((Below.refl _ _).drew) (fun hS => ?_)
  refine take_at (i := 0) (v := .agg (ints .u8 root)) rfl rfl (by kernel_rfl) (by kernel_rfl) (by kernel_rfl) (fun _ _ _ h => h) (yields_box (by rfl) 27 _ rfl (w.heap.size) rfl _ 27 _ A0.out Try.underlying27 rfl (by rw [ints_size, HO.out]; exact sizeA32)) hS ?_
  try simp only [List.setIfInBounds_toArray, List.set_cons_zero, List.set_cons_succ]
  refine take_at (i := 2) (v := .int .i64 n) rfl rfl (by kernel_rfl) (by kernel_rfl) (by kernel_rfl) (fun _ _ _ h => h) (Or.inl ⟨by rfl, fun U hU => by go_simp⟩) hS ?_
  try simp only [List.setIfInBounds_toArray, List.set_cons_zero, List.set_cons_succ]
  refine take_at (i := 3) (v := .int .i64 i) rfl rfl (by kernel_rfl) (by kernel_rfl) (by kernel_rfl) (fun _ _ _ h => h) (Or.inl ⟨by rfl, fun U hU => by go_simp⟩) hS ?_
  try simp only [List.setIfInBounds_toArray, List.set_cons_zero, List.set_cons_succ]
  refine take_at (i := 4) (v := .agg (ints .u8 leaf)) rfl rfl (by kernel_rfl) (by kernel_rfl) (by kernel_rfl) (fun _ _ _ h => h) (yields_box (by rfl) 27 _ rfl (w.heap.size + 1) rfl _ 27 _ A1.out Try.underlying27 rfl (by rw [ints_size, HN.out]; exact sizeA32)) hS ?_
  try simp only [List.setIfInBounds_toArray, List.set_cons_zero, List.set_cons_succ]
  refine take_at (i := 6) (v := .slice ap P cp) rfl rfl (by kernel_rfl) (by kernel_rfl) (by kernel_rfl) (fun _ _ _ h => h) (Or.inl ⟨by rfl, fun U hU => by go_simp⟩) hS ?_
  try simp only [List.setIfInBounds_toArray, List.set_cons_zero, List.set_cons_succ]
  refine wpAnyH_ready (rs := [1]) (by kernel_rfl) (by simp) ?_
  refine AllReadyH.cons rfl (fun KQ hK => ?_) AllReadyH.nil
  rw [if_pos (by rfl)]
  go_simp
  refine (toKey_ root HO.out _).mono ?_
  rintro e w2 ⟨rfl, hb⟩
  refine hK.out _ _ (below_call hS hS.size hb) (fun hS => ?_)
  clear hb hK
  refine wpAnyH_ready (rs := [5]) (by kernel_rfl) (by simp) ?_
  refine AllReadyH.cons rfl (fun KQ hK => ?_) AllReadyH.nil
  rw [if_pos (by rfl)]
  go_simp
  refine (toKey_ leaf HN.out _).mono ?_
  rintro e w3 ⟨rfl, hb⟩
  refine hK.out _ _ (below_call hS hS.size hb) (fun hS => ?_)
  clear hb hK
  refine wpAnyH_ready (rs := [7]) (by kernel_rfl) (by simp) ?_
  refine AllReadyH.cons rfl (fun KQ hK => ?_) AllReadyH.nil
  rw [if_pos (by rfl)]
  go_simp
  refine (toKS ap P cp fl hP _ (HP.out.below (B0.out.trans (hS.mono B0.out.size)))).mono ?_
  rintro e w4 ⟨rfl, hg, hb⟩
  have X4 := Lib.hid hg
  clear hg
  refine hK.out _ _ (below_call hS hS.size hb) (fun hS => ?_)
  clear hb hK
  refine wpAnyH_ready (rs := [8]) (by kernel_rfl) (by simp) ?_
  refine AllReadyH.cons rfl (fun KQ hK => ?_) AllReadyH.nil
  rw [if_pos (by rfl)]
  go_simp
  refine (Hs.out _ _ (RdK.row Lp.out X4.out)).mono ?_
  rintro e w5 ⟨rfl, hb⟩
  refine hK.out _ _ (below_call hS hS.size hb) (fun hS => ?_)
  clear hb hK
  refine take_at (i := 9) (v := .tuple #[.bool V, .int .i64 E]) rfl rfl (by kernel_rfl) (by kernel_rfl) (by kernel_rfl) (fun _ _ _ h => h) (Or.inl ⟨by rfl, fun U hU => by go_simp⟩) hS ?_
  try simp only [List.setIfInBounds_toArray, List.set_cons_zero, List.set_cons_succ]
  refine take_at (i := 10) (v := .bool V) rfl rfl (by kernel_rfl) (by kernel_rfl) (by kernel_rfl) (fun _ _ _ h => h) (Or.inl ⟨by rfl, fun U hU => by go_simp⟩) hS ?_
  try simp only [List.setIfInBounds_toArray, List.set_cons_zero, List.set_cons_succ]
  refine take_at (i := 11) (v := .int .i64 E) rfl rfl (by kernel_rfl) (by kernel_rfl) (by kernel_rfl) (fun _ _ _ h => h) (Or.inl ⟨by rfl, fun U hU => by go_simp⟩) hS ?_
  try simp only [List.setIfInBounds_toArray, List.set_cons_zero, List.set_cons_succ]
  refine take_at (i := 12) (v := .bool V) rfl rfl (by kernel_rfl) (by kernel_rfl) (by kernel_rfl) (fun _ _ _ h => h) (Or.inl ⟨by rfl, fun U hU => by go_simp⟩) hS ?_
  try simp only [List.setIfInBounds_toArray, List.set_cons_zero, List.set_cons_succ]
  refine take_at (i := 13) (v := .int .i64 E) rfl rfl (by kernel_rfl) (by kernel_rfl) (by kernel_rfl) (fun _ _ _ h => h) (Or.inl ⟨by rfl, fun U hU => by go_simp⟩) hS ?_
  try simp only [List.setIfInBounds_toArray, List.set_cons_zero, List.set_cons_succ]
  refine wpAnyH_done (by kernel_rfl) ?_ _
  have B5 := Lib.hid (below_call B0.out B0.out.size hS)
  have A05 := Lib.hid (keep_block A0.out hS)
  have A15 := Lib.hid (keep_block A1.out hS)
  clear hS X4
  go_wp2_with fail
  refine (toKS ap P cp fl hP _ (HP.out.below B5.out)).mono ?_
  rintro e w6 ⟨rfl, hg, hb⟩
  have B6 := Lib.hid (below_call B5.out B5.out.size hb)
  have A06 := Lib.hid (keep_block A05.out hb)
  have A16 := Lib.hid (keep_block A15.out hb)
  have X6 := Lib.hid hg
  clear hg hb
  generalize w5.heap.size = x6 at X6 ⊢
  go_upto_region 7 with fail
  refine wp_region_held_drew (S := Below (w6).heap.size (w6)) (by kernel_rfl) ((Below.refl _ _).drew) (fun hS => ?_)
  refine take_at (i := 0) (v := .agg (ints .u8 root)) rfl rfl (by kernel_rfl) (by kernel_rfl) (by kernel_rfl) (fun _ _ _ h => h) (yields_box (by rfl) 27 _ rfl (w.heap.size) rfl _ 27 _ A06.out Try.underlying27 rfl (by rw [ints_size, HO.out]; exact sizeA32)) hS ?_
  try simp only [List.setIfInBounds_toArray, List.set_cons_zero, List.set_cons_succ]
  refine take_at (i := 2) (v := .int .i64 n) rfl rfl (by kernel_rfl) (by kernel_rfl) (by kernel_rfl) (fun _ _ _ h => h) (Or.inl ⟨by rfl, fun U hU => by go_simp⟩) hS ?_
  try simp only [List.setIfInBounds_toArray, List.set_cons_zero, List.set_cons_succ]
  refine take_at (i := 3) (v := .int .i64 i) rfl rfl (by kernel_rfl) (by kernel_rfl) (by kernel_rfl) (fun _ _ _ h => h) (Or.inl ⟨by rfl, fun U hU => by go_simp⟩) hS ?_
  try simp only [List.setIfInBounds_toArray, List.set_cons_zero, List.set_cons_succ]
  refine take_at (i := 4) (v := .agg (ints .u8 leaf)) rfl rfl (by kernel_rfl) (by kernel_rfl) (by kernel_rfl) (fun _ _ _ h => h) (yields_box (by rfl) 27 _ rfl (w.heap.size + 1) rfl _ 27 _ A16.out Try.underlying27 rfl (by rw [ints_size, HN.out]; exact sizeA32)) hS ?_
  try simp only [List.setIfInBounds_toArray, List.set_cons_zero, List.set_cons_succ]
  refine take_at (i := 6) (v := .slice (some ⟨x6, 0, none⟩) P P) rfl rfl (by kernel_rfl) (by kernel_rfl) (by kernel_rfl) (fun _ _ _ h => h) (Or.inl ⟨by rfl, fun U hU => by go_simp⟩) hS ?_
  try simp only [List.setIfInBounds_toArray, List.set_cons_zero, List.set_cons_succ]
  refine wpAnyH_ready (rs := [1]) (by kernel_rfl) (by simp) ?_
  refine AllReadyH.cons rfl (fun KQ hK => ?_) AllReadyH.nil
  rw [if_pos (by rfl)]
  go_simp
  refine (toKey_ root HO.out _).mono ?_
  rintro e w7 ⟨rfl, hb⟩
  refine hK.out _ _ (below_call hS hS.size hb) (fun hS => ?_)
  clear hb hK
  refine wpAnyH_ready (rs := [5]) (by kernel_rfl) (by simp) ?_
  refine AllReadyH.cons rfl (fun KQ hK => ?_) AllReadyH.nil
  rw [if_pos (by rfl)]
  go_simp
  refine (toKey_ leaf HN.out _).mono ?_
  rintro e w8 ⟨rfl, hb⟩
  refine hK.out _ _ (below_call hS hS.size hb) (fun hS => ?_)
  clear hb hK
  refine wpAnyH_ready (rs := [7]) (by kernel_rfl) (by simp) ?_
  refine AllReadyH.cons rfl (fun KQ hK => ?_) AllReadyH.nil
  rw [if_pos (by rfl)]
  go_simp
  refine (Hi.out _ _ (RdK.row Lp.out (keep_block X6.out hS))).mono ?_
  rintro e w9 ⟨rfl, hb⟩
  refine hK.out _ _ (below_call hS hS.size hb) (fun hS => ?_)
  clear hb hK
  refine take_at (i := 8) (v := .tuple #[.bool V, .int .i64 E]) rfl rfl (by kernel_rfl) (by kernel_rfl) (by kernel_rfl) (fun _ _ _ h => h) (Or.inl ⟨by rfl, fun U hU => by go_simp⟩) hS ?_
  try simp only [List.setIfInBounds_toArray, List.set_cons_zero, List.set_cons_succ]
  refine take_at (i := 9) (v := .bool V) rfl rfl (by kernel_rfl) (by kernel_rfl) (by kernel_rfl) (fun _ _ _ h => h) (Or.inl ⟨by rfl, fun U hU => by go_simp⟩) hS ?_
  try simp only [List.setIfInBounds_toArray, List.set_cons_zero, List.set_cons_succ]
  refine take_at (i := 10) (v := .int .i64 E) rfl rfl (by kernel_rfl) (by kernel_rfl) (by kernel_rfl) (fun _ _ _ h => h) (Or.inl ⟨by rfl, fun U hU => by go_simp⟩) hS ?_
  try simp only [List.setIfInBounds_toArray, List.set_cons_zero, List.set_cons_succ]
  refine take_at (i := 11) (v := .bool V) rfl rfl (by kernel_rfl) (by kernel_rfl) (by kernel_rfl) (fun _ _ _ h => h) (Or.inl ⟨by rfl, fun U hU => by go_simp⟩) hS ?_
  try simp only [List.setIfInBounds_toArray, List.set_cons_zero, List.set_cons_succ]
  refine take_at (i := 12) (v := .int .i64 E) rfl rfl (by kernel_rfl) (by kernel_rfl) (by kernel_rfl) (fun _ _ _ h => h) (Or.inl ⟨by rfl, fun U hU => by go_simp⟩) hS ?_
  try simp only [List.setIfInBounds_toArray, List.set_cons_zero, List.set_cons_succ]
  refine wpAnyH_done (by kernel_rfl) ?_ _
  have B9 := Lib.hid (below_call B6.out B6.out.size hS)
  have X9 := Lib.hid (keep_block X6.out hS)
  clear hS
  go_wp2_with fail
  refine (toKS ap P cp fl hP _ (HP.out.below B9.out)).mono ?_
  rintro e w10 ⟨rfl, hg, hb⟩
  have B10 := Lib.hid (below_call B9.out B9.out.size hb)
  have X10 := Lib.hid (keep_block X9.out hb)
  have Z10 := Lib.hid hg
  clear hg hb
  generalize w9.heap.size = z10 at Z10 ⊢
  go_wp2_with fail
  refine (eqKS _ _ P P P fl hP _ (RdK.row Lp.out X10.out) (RdK.row Lp.out Z10.out)).mono ?_
  rintro e w11 ⟨rfl, hb⟩
  have B11 := Lib.hid (below_call B10.out B10.out.size hb)
  clear hb
  go_wp2
  go_ret
  exact ⟨rfl, B11.out⟩
set_option maxRecDepth 100000 in
set_option maxHeartbeats 1000000 in
theorem cpl_out (root leaf : List Int) (ap : Option Addr) (P cp : Nat) (n i : Int) (h1 : P ≤ maxLen) (hn : ¬ P ≤ 1048576) (w : World) :
    Calls Try.prog 5 #[.agg (ints .u8 root), .int .i64 n, .int .i64 i, .agg (ints .u8 leaf), .slice ap P cp] w fun e w' => e = .returned (.bool true) ∧ Below w.heap.size w w' := by
  unfold maxLen at h1
  have B0 := Lib.hid (((Below.refl w.heap.size w).alloc (Nat.le_refl _) (.cells (ints .u8 root) 27)).alloc (by simp) (.cells (ints .u8 leaf) 27))
  go_enter Try.func5, Try.ntmps5
  go_wp2_with fail
  refine (szKS_out ap P cp 1048576 (by omega) (by omega) h1 (by omega) _).mono ?_
  rintro e v0 ⟨rfl, rfl⟩
  go_wp2
  go_ret
  exact ⟨rfl, B0.out⟩
theorem FnExactCheckProof_walk (root : List Int) (n i : Int) (leaf : List Int) (ap : Option Addr) (P cp : Nat) (fl : List Int) (w : World) (hO : root.length = 32) (fO : ∀ z ∈ root, (Lit.int .u8 z).wf = true) (f1 : (Lit.int .i64 n).wf = true) (f2 : (Lit.int .i64 i).wf = true) (hN : leaf.length = 32) (fN : ∀ z ∈ leaf, (Lit.int .u8 z).wf = true) (fp : IsKeys w ap P fl) :
    Calls Try.prog 5 #[.agg (ints .u8 root), .int .i64 n, .int .i64 i, .agg (ints .u8 leaf), .slice ap P cp] w fun e w' => e = .returned (.bool true) ∧ Below w.heap.size w w' := by
  have hl : Is32 leaf := ⟨hN, fun z hz => bounds_u8 (fN z hz)⟩
  by_cases h : P ≤ 1048576
  · exact cpl_in root leaf ap P cp n i fl (cpV root n i leaf P fl) (cpE n i P) hO hN h w fp.2.1
      (fun U b hb => cp_spec root n i leaf b P P fl hO hl h (Nat.le_refl _) (by unfold maxLen; omega) fp.2.2 U hb)
      (fun U b hb => cp_impl root n i leaf b P P fl hO hl h (Nat.le_refl _) (by unfold maxLen; omega) fp.2.2 U hb)
  · exact cpl_out root leaf ap P cp n i fp.1 h w
end Go.Proofs.Ytcbcfjflaplkoaa
