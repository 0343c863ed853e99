/- Whether two pairs are a clash, by the program. Written by wip/gen/isc.py. -/
import Derived.Test.YtjijgckljjcfiaaClB
namespace Go.Proofs.Ytjijgckljjcfiaa
open Go.ChangeShapes Go.WideShapes Go.ChangeAt Go.RowKit
set_option linter.unusedVariables false
set_option linter.unusedSimpArgs false
/-- Whether two pairs are a clash. -/
def clB (x y u v : List Int) : Bool := !decide (x = u ∧ y = v) && decide (nodeK x y = nodeK u v)
set_option maxRecDepth 100000 in
set_option maxHeartbeats 4000000 in
theorem isclash_impl (x y u v : List Int) (hx : Is32 x) (hy : Is32 y) (hu : Is32 u) (hv : Is32 v) (w : World) :
    Calls Try.prog 69 #[.agg (ints .u8 (x ++ (y ++ (u ++ v)))), .func (.func 46) #[] #[]] w fun z w' => z = .returned (.bool (clB x y u v)) ∧ Below w.heap.size w w' := by
  unfold clB
  have T1 := Lib.hid hx.1
  have T2 := Lib.hid hy.1
  have T3 := Lib.hid hu.1
  have T4 := Lib.hid hv.1
  have A0 := heap_alloc_last w (.cells (ints .u8 (x ++ (y ++ (u ++ v)))) 38)
  have B0 := Lib.hid ((Below.refl w.heap.size w).alloc (Nat.le_refl _) (.cells (ints .u8 (x ++ (y ++ (u ++ v)))) 38))
  have HR := Lib.hid (four_rng hx.1 hy.1 hu.1 hv.1 A0)
  have N1 := Lib.hid (fun W => node_impl x y hx.1 hx.2 hy.1 hy.2 W)
  have N2 := Lib.hid (fun W => node_impl u v hu.1 hu.2 hv.1 hv.2 W)
  have HE := Lib.hid (fun W => eqlIn2 (nodeK x y) (nodeK u v) (nodeK_len _ _) (nodeK_len _ _) W)
  have HUN := Lib.hid (fun W => unlike_impl x y u v hx.1 hy.1 hu.1 hv.1 W)
  have HL := Lib.hid (four_len hx.1 hy.1 hu.1 hv.1)
  have AA := Lib.hid A0
  generalize nodeK x y = p at N1 HE ⊢
  generalize nodeK u v = q at N2 HE ⊢
  generalize decide (p = q) = e at HE ⊢
  generalize decide (x = u ∧ y = v) = d at HUN ⊢
  generalize x ++ (y ++ (u ++ v)) = c at AA B0 HR HL HUN ⊢
  obtain ⟨W0, hW0⟩ : ∃ W0, w.alloc (.cells (ints .u8 c) 38) = W0 := ⟨_, rfl⟩
  rw [hW0] at B0 HR AA
  clear A0 hx hy hu hv
  cases d with
  | true =>
    go_enter Try.func69, Try.ntmps69
    go_upto_region 1 with fail
    clear hW0
    refine wp_region_held_drew (S := Below (W0).heap.size (W0)) (by kernel_rfl) ((Below.refl _ _).drew) (fun hS => ?_)
    refine take_at (i := 0) (v := .agg (ints .u8 c)) rfl rfl (by kernel_rfl) (by kernel_rfl) (by kernel_rfl) (fun _ _ _ h => h) (yields_box (by rfl) 38 _ rfl (w.heap.size) rfl _ 38 _ AA.out Try.underlying38 rfl (by rw [ints_size, HL.out]; exact sizeClash)) hS ?_
    try simp only [List.setIfInBounds_toArray, List.set_cons_zero, List.set_cons_succ]
    refine wpAnyH_ready (rs := [1]) (by kernel_rfl) (by simp) ?_
    refine AllReadyH.cons rfl (fun KQ hK => ?_) AllReadyH.nil
    rw [if_pos (by rfl)]
    go_simp
    refine (HUN.out _).mono ?_
    rintro e0 u0 ⟨rfl, hb⟩
    refine hK.out _ _ (below_call hS hS.size hb) (fun hS => ?_)
    clear hb hK
    refine take_at (i := 2) (v := .bool false) rfl rfl (by kernel_rfl) (by kernel_rfl) (by kernel_rfl) (fun _ _ _ h => h) (Or.inl ⟨by rfl, fun U hU => by go_simp⟩) hS ?_
    try simp only [List.setIfInBounds_toArray, List.set_cons_zero, List.set_cons_succ]
    refine take_at (i := 3) (v := undef) rfl rfl (by kernel_rfl) (by kernel_rfl) (by kernel_rfl) (fun _ _ _ h => h) (Or.inr ⟨by rfl, rfl⟩) hS ?_
    try simp only [List.setIfInBounds_toArray, List.set_cons_zero, List.set_cons_succ]
    refine take_at (i := 4) (v := undef) rfl rfl (by kernel_rfl) (by kernel_rfl) (by kernel_rfl) (fun _ _ _ h => h) (Or.inr ⟨by rfl, rfl⟩) hS ?_
    try simp only [List.setIfInBounds_toArray, List.set_cons_zero, List.set_cons_succ]
    refine take_at (i := 5) (v := undef) rfl rfl (by kernel_rfl) (by kernel_rfl) (by kernel_rfl) (fun _ _ _ h => h) (Or.inr ⟨by rfl, rfl⟩) hS ?_
    try simp only [List.setIfInBounds_toArray, List.set_cons_zero, List.set_cons_succ]
    refine take_at (i := 6) (v := undef) rfl rfl (by kernel_rfl) (by kernel_rfl) (by kernel_rfl) (fun _ _ _ h => h) (Or.inr ⟨by rfl, rfl⟩) hS ?_
    try simp only [List.setIfInBounds_toArray, List.set_cons_zero, List.set_cons_succ]
    refine take_at (i := 7) (v := undef) rfl rfl (by kernel_rfl) (by kernel_rfl) (by kernel_rfl) (fun _ _ _ h => h) (Or.inr ⟨by rfl, rfl⟩) hS ?_
    try simp only [List.setIfInBounds_toArray, List.set_cons_zero, List.set_cons_succ]
    refine take_at (i := 8) (v := undef) rfl rfl (by kernel_rfl) (by kernel_rfl) (by kernel_rfl) (fun _ _ _ h => h) (Or.inr ⟨by rfl, rfl⟩) hS ?_
    try simp only [List.setIfInBounds_toArray, List.set_cons_zero, List.set_cons_succ]
    refine take_at (i := 9) (v := undef) rfl rfl (by kernel_rfl) (by kernel_rfl) (by kernel_rfl) (fun _ _ _ h => h) (Or.inr ⟨by rfl, rfl⟩) hS ?_
    try simp only [List.setIfInBounds_toArray, List.set_cons_zero, List.set_cons_succ]
    refine take_at (i := 10) (v := undef) rfl rfl (by kernel_rfl) (by kernel_rfl) (by kernel_rfl) (fun _ _ _ h => h) (Or.inr ⟨by rfl, rfl⟩) hS ?_
    try simp only [List.setIfInBounds_toArray, List.set_cons_zero, List.set_cons_succ]
    refine take_at (i := 11) (v := undef) rfl rfl (by kernel_rfl) (by kernel_rfl) (by kernel_rfl) (fun _ _ _ h => h) (Or.inr ⟨by rfl, rfl⟩) hS ?_
    try simp only [List.setIfInBounds_toArray, List.set_cons_zero, List.set_cons_succ]
    refine take_at (i := 12) (v := undef) rfl rfl (by kernel_rfl) (by kernel_rfl) (by kernel_rfl) (fun _ _ _ h => h) (Or.inr ⟨by rfl, rfl⟩) hS ?_
    try simp only [List.setIfInBounds_toArray, List.set_cons_zero, List.set_cons_succ]
    refine take_at (i := 13) (v := undef) rfl rfl (by kernel_rfl) (by kernel_rfl) (by kernel_rfl) (fun _ _ _ h => h) (Or.inr ⟨by rfl, rfl⟩) hS ?_
    try simp only [List.setIfInBounds_toArray, List.set_cons_zero, List.set_cons_succ]
    refine take_at (i := 14) (v := undef) rfl rfl (by kernel_rfl) (by kernel_rfl) (by kernel_rfl) (fun _ _ _ h => h) (Or.inr ⟨by rfl, rfl⟩) hS ?_
    try simp only [List.setIfInBounds_toArray, List.set_cons_zero, List.set_cons_succ]
    refine take_at (i := 15) (v := undef) rfl rfl (by kernel_rfl) (by kernel_rfl) (by kernel_rfl) (fun _ _ _ h => h) (Or.inr ⟨by rfl, rfl⟩) hS ?_
    try simp only [List.setIfInBounds_toArray, List.set_cons_zero, List.set_cons_succ]
    refine take_at (i := 16) (v := .bool false) rfl rfl (by kernel_rfl) (by kernel_rfl) (by kernel_rfl) (fun _ _ _ h => h) (Or.inl ⟨by rfl, fun U hU => by go_simp⟩) hS ?_
    try simp only [List.setIfInBounds_toArray, List.set_cons_zero, List.set_cons_succ]
    refine take_at (i := 17) (v := .bool false) rfl rfl (by kernel_rfl) (by kernel_rfl) (by kernel_rfl) (fun _ _ _ h => h) (Or.inl ⟨by rfl, fun U hU => by go_simp⟩) hS ?_
    try simp only [List.setIfInBounds_toArray, List.set_cons_zero, List.set_cons_succ]
    refine wpAnyH_done (by kernel_rfl) ?_ _
    go_wp2_with fail
    go_ret
    exact ⟨rfl, B0.out.trans (hS.mono B0.out.size)⟩
  | false =>
    go_enter Try.func69, Try.ntmps69
    go_upto_region 1 with fail
    clear hW0
    refine wp_region_held_drew (S := Below (W0).heap.size (W0)) (by kernel_rfl) ((Below.refl _ _).drew) (fun hS => ?_)
    refine take_at (i := 0) (v := .agg (ints .u8 c)) rfl rfl (by kernel_rfl) (by kernel_rfl) (by kernel_rfl) (fun _ _ _ h => h) (yields_box (by rfl) 38 _ rfl (w.heap.size) rfl _ 38 _ AA.out Try.underlying38 rfl (by rw [ints_size, HL.out]; exact sizeClash)) hS ?_
    try simp only [List.setIfInBounds_toArray, List.set_cons_zero, List.set_cons_succ]
    refine wpAnyH_ready (rs := [1]) (by kernel_rfl) (by simp) ?_
    refine AllReadyH.cons rfl (fun KQ hK => ?_) AllReadyH.nil
    rw [if_pos (by rfl)]
    go_simp
    refine (HUN.out _).mono ?_
    rintro e0 u0 ⟨rfl, hb⟩
    refine hK.out _ _ (below_call hS hS.size hb) (fun hS => ?_)
    clear hb hK
    refine take_at (i := 2) (v := .bool true) rfl rfl (by kernel_rfl) (by kernel_rfl) (by kernel_rfl) (fun _ _ _ h => h) (Or.inl ⟨by rfl, fun U hU => by go_simp⟩) hS ?_
    try simp only [List.setIfInBounds_toArray, List.set_cons_zero, List.set_cons_succ]
    refine take_at (i := 3) (v := .func (.func 46) #[] #[]) rfl rfl (by kernel_rfl) (by kernel_rfl) (by kernel_rfl) (fun _ _ _ h => h) (Or.inl ⟨by rfl, fun U hU => by go_simp⟩) hS ?_
    try simp only [List.setIfInBounds_toArray, List.set_cons_zero, List.set_cons_succ]
    refine take_at (i := 4) (v := .pointer (some ⟨w.heap.size, 0, none⟩)) rfl rfl (by kernel_rfl) (by kernel_rfl) (by kernel_rfl) (fun _ _ _ h => h) (Or.inl ⟨by rfl, fun U hU => by go_simp⟩) hS ?_
    try simp only [List.setIfInBounds_toArray, List.set_cons_zero, List.set_cons_succ]
    refine take_at (i := 5) (v := .agg (ints .u8 x)) rfl rfl (by kernel_rfl) (by kernel_rfl) (by kernel_rfl) (fun _ _ _ h => h) (yieldsIf_load_mid (by rfl) 28 _ rfl w.heap.size 0 rfl (x.map (Value.int .u8)) _ (fun U hU => rangeAt_below HR.out.1 hU) Try.underlying28 rfl (by rw [List.length_map, T1.out]; exact sizeKey)) hS ?_
    try simp only [List.setIfInBounds_toArray, List.set_cons_zero, List.set_cons_succ]
    refine take_at (i := 6) (v := .pointer (some ⟨w.heap.size, 32, none⟩)) rfl rfl (by kernel_rfl) (by kernel_rfl) (by kernel_rfl) (fun _ _ _ h => h) (Or.inl ⟨by rfl, fun U hU => by go_simp⟩) hS ?_
    try simp only [List.setIfInBounds_toArray, List.set_cons_zero, List.set_cons_succ]
    refine take_at (i := 7) (v := .agg (ints .u8 y)) rfl rfl (by kernel_rfl) (by kernel_rfl) (by kernel_rfl) (fun _ _ _ h => h) (yieldsIf_load_mid (by rfl) 28 _ rfl w.heap.size 32 rfl (y.map (Value.int .u8)) _ (fun U hU => rangeAt_below HR.out.2.1 hU) Try.underlying28 rfl (by rw [List.length_map, T2.out]; exact sizeKey)) hS ?_
    try simp only [List.setIfInBounds_toArray, List.set_cons_zero, List.set_cons_succ]
    refine take_at (i := 9) (v := .func (.func 46) #[] #[]) rfl rfl (by kernel_rfl) (by kernel_rfl) (by kernel_rfl) (fun _ _ _ h => h) (Or.inl ⟨by rfl, fun U hU => by go_simp⟩) hS ?_
    try simp only [List.setIfInBounds_toArray, List.set_cons_zero, List.set_cons_succ]
    refine take_at (i := 10) (v := .pointer (some ⟨w.heap.size, 64, none⟩)) rfl rfl (by kernel_rfl) (by kernel_rfl) (by kernel_rfl) (fun _ _ _ h => h) (Or.inl ⟨by rfl, fun U hU => by go_simp⟩) hS ?_
    try simp only [List.setIfInBounds_toArray, List.set_cons_zero, List.set_cons_succ]
    refine take_at (i := 11) (v := .agg (ints .u8 u)) rfl rfl (by kernel_rfl) (by kernel_rfl) (by kernel_rfl) (fun _ _ _ h => h) (yieldsIf_load_mid (by rfl) 28 _ rfl w.heap.size 64 rfl (u.map (Value.int .u8)) _ (fun U hU => rangeAt_below HR.out.2.2.1 hU) Try.underlying28 rfl (by rw [List.length_map, T3.out]; exact sizeKey)) hS ?_
    try simp only [List.setIfInBounds_toArray, List.set_cons_zero, List.set_cons_succ]
    refine take_at (i := 12) (v := .pointer (some ⟨w.heap.size, 96, none⟩)) rfl rfl (by kernel_rfl) (by kernel_rfl) (by kernel_rfl) (fun _ _ _ h => h) (Or.inl ⟨by rfl, fun U hU => by go_simp⟩) hS ?_
    try simp only [List.setIfInBounds_toArray, List.set_cons_zero, List.set_cons_succ]
    refine take_at (i := 13) (v := .agg (ints .u8 v)) rfl rfl (by kernel_rfl) (by kernel_rfl) (by kernel_rfl) (fun _ _ _ h => h) (yieldsIf_load_mid (by rfl) 28 _ rfl w.heap.size 96 rfl (v.map (Value.int .u8)) _ (fun U hU => rangeAt_below HR.out.2.2.2 hU) Try.underlying28 rfl (by rw [List.length_map, T4.out]; exact sizeKey)) hS ?_
    try simp only [List.setIfInBounds_toArray, List.set_cons_zero, List.set_cons_succ]
    refine wpAnyH_ready (rs := [8]) (by kernel_rfl) (by simp) ?_
    refine AllReadyH.cons rfl (fun KQ hK => ?_) AllReadyH.nil
    rw [if_pos (by rfl)]
    go_simp
    refine (N1.out _).mono ?_
    rintro e1 u1 ⟨rfl, hb⟩
    refine hK.out _ _ (below_call hS hS.size hb) (fun hS => ?_)
    clear hb hK
    refine wpAnyH_ready (rs := [14]) (by kernel_rfl) (by simp) ?_
    refine AllReadyH.cons rfl (fun KQ hK => ?_) AllReadyH.nil
    rw [if_pos (by rfl)]
    go_simp
    refine (N2.out _).mono ?_
    rintro e2 u2 ⟨rfl, hb⟩
    refine hK.out _ _ (below_call hS hS.size hb) (fun hS => ?_)
    clear hb hK
    refine take_at (i := 15) (v := .bool e) rfl rfl (by kernel_rfl) (by kernel_rfl) (by kernel_rfl) (fun _ _ _ h => h) (Or.inl ⟨by rfl, fun U hU => by have hq := HE.out U; go_simp⟩) hS ?_
    try simp only [List.setIfInBounds_toArray, List.set_cons_zero, List.set_cons_succ]
    refine take_at (i := 16) (v := .bool e) rfl rfl (by kernel_rfl) (by kernel_rfl) (by kernel_rfl) (fun _ _ _ h => h) (Or.inl ⟨by rfl, fun U hU => by go_simp⟩) hS ?_
    try simp only [List.setIfInBounds_toArray, List.set_cons_zero, List.set_cons_succ]
    refine take_at (i := 17) (v := .bool e) rfl rfl (by kernel_rfl) (by kernel_rfl) (by kernel_rfl) (fun _ _ _ h => h) (Or.inl ⟨by rfl, fun U hU => by go_simp⟩) hS ?_
    try simp only [List.setIfInBounds_toArray, List.set_cons_zero, List.set_cons_succ]
    refine wpAnyH_done (by kernel_rfl) ?_ _
    go_wp2_with fail
    go_ret
    exact ⟨rfl, B0.out.trans (hS.mono B0.out.size)⟩
set_option maxRecDepth 100000 in
set_option maxHeartbeats 2000000 in
theorem validclash_impl (x y u v : List Int) (hx : Is32 x) (hy : Is32 y) (hu : Is32 u) (hv : Is32 v) (w : World) :
    Calls Try.prog 24 #[.agg (ints .u8 (x ++ (y ++ (u ++ v))))] w fun z w' => z = .returned (.bool (clB x y u v)) ∧ Below w.heap.size w w' := by
  have HI := Lib.hid (fun W => isclash_impl x y u v hx hy hu hv W)
  have HL := Lib.hid (four_len hx.1 hy.1 hu.1 hv.1)
  clear hx hy hu hv
  generalize clB x y u v = b at HI ⊢
  generalize x ++ (y ++ (u ++ v)) = c at HI HL ⊢
  have A0 := Lib.hid (heap_alloc_last w (.cells (ints .u8 c) 38))
  have B0 := Lib.hid ((Below.refl w.heap.size w).alloc (Nat.le_refl _) (.cells (ints .u8 c) 38))
  go_enter Try.func24, Try.ntmps24
  go_wp2_with (refine wpList_load_row rfl 38 (.tmp 1) rfl w.heap.size rfl 38 (ints .u8 c) (0, 0) _ A0.out Try.underlying38 rfl (by rw [ints_size, HL.out]; exact sizeClash) ?_)
  refine (HI.out _).mono ?_
  rintro e w1 ⟨rfl, hb⟩
  have B1 := Lib.hid (below_call B0.out B0.out.size hb)
  clear hb
  go_wp2_with fail
  go_ret
  exact ⟨rfl, B1.out⟩
end Go.Proofs.Ytjijgckljjcfiaa
