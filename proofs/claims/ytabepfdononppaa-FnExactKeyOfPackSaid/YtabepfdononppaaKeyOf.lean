/- The key of a hasher: both programs. -/
import Derived.Test.YtabepfdononppaaHashI
import Derived.Test.YtabepfdononppaaValid
import Derived.Test.YtabepfdononppaaPairI
namespace Go.Proofs.Ytabepfdononppaa
open Go.ChangeShapes Go.WideShapes Go.ChangeAt Go.RowKit
set_option linter.unusedVariables false
theorem w32_of {x0 x1 x2 x3 x4 x5 x6 x7 : Int} (h : ∀ z ∈ [x0, x1, x2, x3, x4, x5, x6, x7], (Lit.int .u32 z).wf = true) : W32 [x0, x1, x2, x3, x4, x5, x6, x7] := ⟨rfl, fun x hx => bounds_u32 (h x hx)⟩
def keyV (st l : List Int) (c : Int) : List Int := if vH l.length c then endK st l c else z32
def keyE (l : List Int) (c : Int) : Int := if vH l.length c then 0 else 1
theorem keyV_len (st l : List Int) (c : Int) : (keyV st l c).length = 32 := by unfold keyV; split; (· exact keyS_len _); (· rfl)
theorem vH_count {n : Nat} {c : Int} (h : vH n c = true) : 0 ≤ c ∧ c ≤ 1000000000 ∧ n ≤ 32 := by
  unfold vH at h
  simp at h
  omega
theorem head8 {W : World} {g : Nat} {x0 x1 x2 x3 x4 x5 x6 x7 : Int} {u v : Value} {t : TypeId} {fr : Nat × Nat} (h : W.heap[g]? = some (.cells #[.int .u32 x0, .int .u32 x1, .int .u32 x2, .int .u32 x3, .int .u32 x4, .int .u32 x5, .int .u32 x6, .int .u32 x7, u, v] t fr)) : W.rangeAt g 0 [.int .u32 x0, .int .u32 x1, .int .u32 x2, .int .u32 x3, .int .u32 x4, .int .u32 x5, .int .u32 x6, .int .u32 x7] := fun j y hy => by
  rw [Nat.zero_add, cell_of_row W g j _ _ _ h]
  match j, hy with
  | 0, hy => exact hy
  | 1, hy => exact hy
  | 2, hy => exact hy
  | 3, hy => exact hy
  | 4, hy => exact hy
  | 5, hy => exact hy
  | 6, hy => exact hy
  | 7, hy => exact hy
  | k + 8, hy => simp at hy
set_option maxRecDepth 100000 in
set_option maxHeartbeats 2000000 in
theorem key_impl (x0 x1 x2 x3 x4 x5 x6 x7 : Int) (a : Option Addr) (n cap : Nat) (l : List Int) (c : Int) (sr : W32 [x0, x1, x2, x3, x4, x5, x6, x7]) (fl : ∀ z ∈ l, 0 ≤ z ∧ z ≤ 255) (hn : n ≤ 1048576) (c0 : 0 ≤ c) (c1 : c ≤ 1099511627776) (w : World) (hr : Rd .u8 w a n l) :
    Calls Try.prog 110 #[.agg #[.int .u32 x0, .int .u32 x1, .int .u32 x2, .int .u32 x3, .int .u32 x4, .int .u32 x5, .int .u32 x6, .int .u32 x7, .slice a n cap, .int .i64 c]] w fun e w' => e = .returned (.agg (ints .u8 (endK [x0, x1, x2, x3, x4, x5, x6, x7] l c))) ∧ Below w.heap.size w w' := by
  have Hz := Lib.hid z32_ints
  have Hr := Lib.hid hr
  have Hmul := Lib.hid (padL_mod l c)
  have Hpn : Hid ((padL l c).length ≤ 1048640) := Lib.hid (by rw [padL_len, hr.1]; unfold padN; omega)
  have Hpr := Lib.hid (padL_range fl c)
  have Hok := Lib.hid sr
  have Hl := Lib.hid (fun W h => last_impl a n cap l c hn c0 c1 W h)
  have Hk := Lib.hid (fun W => keyS_impl (mixB [x0, x1, x2, x3, x4, x5, x6, x7] (padL l c) ((padL l c).length / 32)) (mixB_ok Hok.out _) W)
  have Hm := Lib.hid (fun a' cap' W h => mixbs_impl a' ((padL l c).length / 32) cap' [x0, x1, x2, x3, x4, x5, x6, x7] (padL l c) Hok.out Hpr.out (by have := Hpn.out; omega) W h)
  have HE : Hid (endK [x0, x1, x2, x3, x4, x5, x6, x7] l c = keyS (mixB [x0, x1, x2, x3, x4, x5, x6, x7] (padL l c) ((padL l c).length / 32))) := Lib.hid rfl
  have Hvl : Hid ((endK [x0, x1, x2, x3, x4, x5, x6, x7] l c).length = 32) := Lib.hid (keyS_len _)
  rw [← HE.out] at Hk
  have e8 : ints .u32 [x0, x1, x2, x3, x4, x5, x6, x7] = #[.int .u32 x0, .int .u32 x1, .int .u32 x2, .int .u32 x3, .int .u32 x4, .int .u32 x5, .int .u32 x6, .int .u32 x7] := rfl
  have Hml : Hid ((padL l c).length = 32 * ((padL l c).length / 32)) := Lib.hid (by have := Hmul.out; omega)
  clear hr fl sr HE Hpr Hpn Hmul
  generalize endK [x0, x1, x2, x3, x4, x5, x6, x7] l c = V at Hk Hvl
  generalize (padL l c).length / 32 = m at Hl Hk Hm Hml
  generalize padL l c = P at Hl Hk Hm Hml
  generalize mixB [x0, x1, x2, x3, x4, x5, x6, x7] P m = Y at Hk Hm
  rw [e8] at Hm
  go_enter Try.func110, Try.ntmps110
  have G1 := Lib.hid (heap_alloc2_old w (.cells #[.int .u32 x0, .int .u32 x1, .int .u32 x2, .int .u32 x3, .int .u32 x4, .int .u32 x5, .int .u32 x6, .int .u32 x7, .slice a n cap, .int .i64 c] 134) (.cells (ints .u8 z32) 46))
  have G2 := Lib.hid (heap_alloc2_new w (.cells #[.int .u32 x0, .int .u32 x1, .int .u32 x2, .int .u32 x3, .int .u32 x4, .int .u32 x5, .int .u32 x6, .int .u32 x7, .slice a n cap, .int .i64 c] 134) (.cells (ints .u8 z32) 46))
  have HB := Lib.hid (((Below.refl w.heap.size w).alloc (Nat.le_refl _) (.cells #[.int .u32 x0, .int .u32 x1, .int .u32 x2, .int .u32 x3, .int .u32 x4, .int .u32 x5, .int .u32 x6, .int .u32 x7, .slice a n cap, .int .i64 c] 134)).alloc (by simp) (.cells (ints .u8 z32) 46))
  obtain ⟨W0, hW0⟩ : ∃ W0, (w.alloc (.cells #[.int .u32 x0, .int .u32 x1, .int .u32 x2, .int .u32 x3, .int .u32 x4, .int .u32 x5, .int .u32 x6, .int .u32 x7, .slice a n cap, .int .i64 c] 134)).alloc (.cells (ints .u8 z32) 46) = W0 := ⟨_, rfl⟩
  have HSZ : Hid (W0.heap.size = w.heap.size + 2) := Lib.hid (by rw [← hW0]; simp)
  rw [hW0] at G1 G2 HB
  rw [Hz.out] at hW0
  go_wp2_with fail
  clear hW0
  refine wp_region_held_drew (S := fun W => Below w.heap.size w W ∧ W.heap[w.heap.size]? = some (.cells #[.int .u32 x0, .int .u32 x1, .int .u32 x2, .int .u32 x3, .int .u32 x4, .int .u32 x5, .int .u32 x6, .int .u32 x7, .slice a n cap, .int .i64 c] 134)) (by kernel_rfl) ⟨HB.out.drew, G1.out⟩ (fun hS => ?_)
  refine take_at (i := 0) (v := .pointer (some ⟨w.heap.size, 0, none⟩)) rfl rfl (by kernel_rfl) (by kernel_rfl) (by kernel_rfl) (fun _ _ _ h => h) (Or.inl ⟨by rfl, fun W hW => by go_simp⟩) hS ?_
  refine take_at (i := 1) (v := .agg #[.int .u32 x0, .int .u32 x1, .int .u32 x2, .int .u32 x3, .int .u32 x4, .int .u32 x5, .int .u32 x6, .int .u32 x7]) rfl rfl (by kernel_rfl) (by kernel_rfl) (by kernel_rfl) (fun _ _ _ h => h) (yieldsIf_load_mid (by rfl) 129 _ rfl w.heap.size 0 rfl [.int .u32 x0, .int .u32 x1, .int .u32 x2, .int .u32 x3, .int .u32 x4, .int .u32 x5, .int .u32 x6, .int .u32 x7] _ (fun W hW => head8 hW.2) Try.underlying129 rfl sizeA8) hS ?_
  refine take_at (i := 2) (v := .pointer (some ⟨w.heap.size, 8, none⟩)) rfl rfl (by kernel_rfl) (by kernel_rfl) (by kernel_rfl) (fun _ _ _ h => h) (Or.inl ⟨by rfl, fun W hW => by go_simp⟩) hS ?_
  refine take_at (i := 3) (v := .slice a n cap) rfl rfl (by kernel_rfl) (by kernel_rfl) (by kernel_rfl) (fun _ _ _ h => h) (Or.inl ⟨by rfl, fun W hW => by
    have hc := cell_of_row W w.heap.size 8 _ _ _ hW.2
    have hc' : W.cell? ⟨w.heap.size, 8, none⟩ = some (.slice a n cap) := hc
    go_simp⟩) hS ?_
  refine take_at (i := 4) (v := .pointer (some ⟨w.heap.size, 9, none⟩)) rfl rfl (by kernel_rfl) (by kernel_rfl) (by kernel_rfl) (fun _ _ _ h => h) (Or.inl ⟨by rfl, fun W hW => by go_simp⟩) hS ?_
  refine take_at (i := 5) (v := .int .i64 c) rfl rfl (by kernel_rfl) (by kernel_rfl) (by kernel_rfl) (fun _ _ _ h => h) (Or.inl ⟨by rfl, fun W hW => by
    have hc := cell_of_row W w.heap.size 9 _ _ _ hW.2
    have hc' : W.cell? ⟨w.heap.size, 9, none⟩ = some (.int .i64 c) := hc
    go_simp⟩) hS ?_
  simp only [List.setIfInBounds_toArray, List.set_cons_zero, List.set_cons_succ]
  refine wpAnyH_ready (rs := [6]) (by kernel_rfl) (by simp) ?_
  refine AllReadyH.cons rfl (fun K hK => ?_) AllReadyH.nil
  rw [if_pos (by rfl)]
  go_simp
  refine (Hl.out _ (Hr.out.below hS.1)).mono ?_
  rintro e u1 ⟨v1, rfl, hown, hb⟩
  obtain ⟨a1, k1, rfl, hrd⟩ := RdK.owned Hml.out hown
  have R1 := Lib.hid hrd
  clear hown hrd
  have Z1 := Lib.hid (keep_block (w := W0.drew) G2.out hb)
  refine hK.out _ _ ⟨below_call hS.1 hS.1.size hb, keep_block hS.2 hb⟩ (fun hS => ?_)
  clear hb hK
  refine wpAnyH_ready (rs := [7]) (by kernel_rfl) (by simp) ?_
  refine AllReadyH.cons rfl (fun K hK => ?_) AllReadyH.nil
  rw [if_pos (by rfl)]
  go_simp
  refine (Hm.out _ _ _ R1.out).mono ?_
  rintro e u2 ⟨rfl, hb⟩
  have Z2 := Lib.hid (keep_block Z1.out hb)
  refine hK.out _ _ ⟨below_call hS.1 hS.1.size hb, keep_block hS.2 hb⟩ (fun hS => ?_)
  clear hb hK
  refine wpAnyH_ready (rs := [8]) (by kernel_rfl) (by simp) ?_
  refine AllReadyH.cons rfl (fun K hK => ?_) AllReadyH.nil
  rw [if_pos (by rfl)]
  go_simp
  refine (Hk.out _).mono ?_
  rintro e u3 ⟨rfl, hb⟩
  have Z3 := Lib.hid (keep_block Z2.out hb)
  refine hK.out _ _ ⟨below_call hS.1 hS.1.size hb, keep_block hS.2 hb⟩ (fun hS => ?_)
  clear hb hK
  have B9 := Lib.hid hS.1
  refine wpAnyH_ready (rs := [9]) (by kernel_rfl) (by simp) ?_
  refine AllReadyH.cons rfl (fun K hK => ?_) AllReadyH.nil
  rw [if_pos (by rfl)]
  refine wp_store_row (o := ⟨none, _, _, _, _, _⟩) 46 _ _ rfl (w.heap.size + 1) (ints .u8 V) rfl rfl 46 (ints .u8 z32) Z3.out (by rw [ints_size, Hvl.out]; exact sizeKey) (by rw [ints_size, ints_size, Hvl.out]; rfl) (ints_one _ _) ?_
  simp only [Act.put]
  refine hK.out _ _ ⟨Below.setRow hS.1 (by omega) _, by rw [setRow_other _ _ _ _ (by omega)]; exact hS.2⟩ (fun hS => ?_)
  refine wpAnyH_done (by kernel_rfl) ?_ _
  clear hS hK
  go_wp2_with fail
  refine bodyPost_ret (results_cell_row rfl _ _ (w.heap.size + 1) 46 (ints .u8 V) (0, 0) _ rfl (setRow_heap _ _ (ints .u8 z32) _ _ _ Z3.out) Try.underlying46 rfl (by rw [ints_size, Hvl.out]; exact sizeKey)) rfl ⟨rfl, ?_⟩
  exact Below.setRow B9.out (by omega) _
end Go.Proofs.Ytabepfdononppaa
