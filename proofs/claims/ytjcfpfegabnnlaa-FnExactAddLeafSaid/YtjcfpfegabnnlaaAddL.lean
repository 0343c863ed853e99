/- The statement on FnExactAddLeaf: its walk. Written by wip/gen/klistk.py. -/
import Derived.Test.YtjcfpfegabnnlaaAddI
import Derived.Test.YtjcfpfegabnnlaaKeysM
namespace Go.Proofs.Ytjcfpfegabnnlaa
open Go.ChangeShapes Go.WideShapes Go.ChangeAt Go.RowKit
set_option linter.unusedVariables false
set_option linter.unusedSimpArgs false
set_option maxRecDepth 100000 in
set_option maxHeartbeats 8000000 in
theorem FnExactAddLeaf_in (a : Option Addr) (n cap : Nat) (i : Int) (key : List Int) (N : Nat) (fl L : List Int) (E : Int) (hk : key.length = 32) (hN : N ≤ 1048576) (hL : L.length = 32 * N) (hn : n ≤ 1048576) (w : World) (hr : RdK w a n fl)
    (hs : ∀ (W : World) (b : Option Addr), RdK W b n fl → Calls Try.prog 28 #[.slice b n n, .int .i64 i, .agg (ints .u8 key)] W fun e w' => ∃ v, e = .returned (.tuple #[v, .int .i64 E]) ∧ w'.ownsRow W.heap.size 23 32 v N (L.map (Value.int .u8)) ∧ Below W.heap.size W w')
    (hi : ∀ (W : World) (b : Option Addr), RdK W b n fl → Calls Try.prog 29 #[.slice b n n, .int .i64 i, .agg (ints .u8 key)] W fun e w' => ∃ v, e = .returned (.tuple #[v, .int .i64 E]) ∧ w'.ownsRow W.heap.size 23 32 v N (L.map (Value.int .u8)) ∧ Below W.heap.size W w') :
    Calls Try.prog 7 #[.slice a n cap, .int .i64 i, .agg (ints .u8 key)] w fun e w' => e = .returned (.bool true) ∧ Below w.heap.size w w' := by
  have Hk := Lib.hid hk
  have Hr := Lib.hid hr
  have HL := Lib.hid hL
  have Hs := Lib.hid (fun (b : Option Addr) (W : World) h => hs W b h)
  have Hi := Lib.hid (fun (b : Option Addr) (W : World) h => hi W b h)
  have Hl := Lib.hid hr.1
  have A0 := Lib.hid (heap_alloc_last w (.cells (ints .u8 key) 22))
  have B0 := Lib.hid ((Below.refl w.heap.size w).alloc (Nat.le_refl _) (.cells (ints .u8 key) 22))
  clear hr hs hi hL hk
  go_enter Try.func7, Try.ntmps7
  go_wp2_with fail
  refine (szKS_in a n cap 1048576 (by omega) (by omega) (by omega) _).mono ?_
  rintro e v0 ⟨rfl, rfl⟩
  go_wp2_with fail
  refine wp_region_held_drew (S := Below (w.alloc (.cells (ints .u8 key) 22)).heap.size (w.alloc (.cells (ints .u8 key) 22))) (by kernel_rfl) ((Below.refl _ _).drew) (fun hS => ?_)
  refine take_at (i := 0) (v := .slice a n cap) rfl rfl (by kernel_rfl) (by kernel_rfl) (by kernel_rfl) (fun _ _ _ h => h) (Or.inl ⟨by rfl, fun W hW => by go_simp⟩) hS ?_
  refine take_at (i := 2) (v := .int .i64 i) rfl rfl (by kernel_rfl) (by kernel_rfl) (by kernel_rfl) (fun _ _ _ h => h) (Or.inl ⟨by rfl, fun W hW => by go_simp⟩) hS ?_
  refine take_at (i := 3) (v := .agg (ints .u8 key)) rfl rfl (by kernel_rfl) (by kernel_rfl) (by kernel_rfl) (fun _ _ _ h => h) (yields_box (by rfl) 22 _ rfl w.heap.size rfl _ 22 _ A0.out Try.underlying22 rfl (by rw [ints_size, Hk.out]; exact sizeA32)) hS ?_
  simp only [List.setIfInBounds_toArray, List.set_cons_zero, List.set_cons_succ]
  refine wpAnyH_ready (rs := [1]) (by kernel_rfl) (by simp) ?_
  refine AllReadyH.cons rfl (fun K hK => ?_) AllReadyH.nil
  rw [if_pos (by rfl)]
  go_simp
  refine (toKS a n cap fl hn _ (Hr.out.below (B0.out.trans (hS.mono B0.out.size)))).mono ?_
  rintro e y1 ⟨rfl, hg, hb⟩
  simp only [World.size_drew, World.size_alloc] at hg
  have S1 := below_call hS hS.size hb
  refine hK.out _ _ S1 (fun hS => ?_)
  clear hb hK
  refine wpAnyH_ready (rs := [4]) (by kernel_rfl) (by simp) ?_
  refine AllReadyH.cons rfl (fun K hK => ?_) AllReadyH.nil
  rw [if_pos (by rfl)]
  go_simp
  refine (toKey_ key Hk.out _).mono ?_
  rintro e y2 ⟨rfl, hb⟩
  have hg2 := keep_block hg hb
  refine hK.out _ _ (below_call hS hS.size hb) (fun hS => ?_)
  clear hb hK
  refine wpAnyH_ready (rs := [5]) (by kernel_rfl) (by simp) ?_
  refine AllReadyH.cons rfl (fun K hK => ?_) AllReadyH.nil
  rw [if_pos (by rfl)]
  go_simp
  refine (Hs.out _ _ (RdK.row Hl.out hg2)).mono ?_
  rintro e y3 ⟨v3, rfl, hown, hb⟩
  have S3 := below_call hS hS.size hb
  have hown2 := owns_base hS.size hown
  refine hK.out _ _ S3 (fun hS => ?_)
  clear hb hK hg2 hown
  clear hg S1
  refine take_at (i := 6) (v := .tuple #[v3, .int .i64 E]) rfl rfl (by kernel_rfl) (by kernel_rfl) (by kernel_rfl) (fun _ _ _ h => h) (Or.inl ⟨by rfl, fun W hW => by go_simp⟩) hS ?_
  refine take_at (i := 7) (v := v3) rfl rfl (by kernel_rfl) (by kernel_rfl) (by kernel_rfl) (fun _ _ _ h => h) (Or.inl ⟨by rfl, fun W hW => by go_simp⟩) hS ?_
  refine take_at (i := 8) (v := .int .i64 E) rfl rfl (by kernel_rfl) (by kernel_rfl) (by kernel_rfl) (fun _ _ _ h => h) (Or.inl ⟨by rfl, fun W hW => by go_simp⟩) hS ?_
  simp only [List.setIfInBounds_toArray, List.set_cons_zero, List.set_cons_succ]
  refine take_at (i := 9) (v := v3) rfl rfl (by kernel_rfl) (by kernel_rfl) (by kernel_rfl) (fun _ _ _ h => h) (Or.inl ⟨by rfl, fun W hW => by go_simp⟩) hS ?_
  refine take_at (i := 10) (v := .int .i64 E) rfl rfl (by kernel_rfl) (by kernel_rfl) (by kernel_rfl) (fun _ _ _ h => h) (Or.inl ⟨by rfl, fun W hW => by go_simp⟩) hS ?_
  refine wpAnyH_done (by kernel_rfl) ?_ _
  simp only [List.setIfInBounds_toArray, List.set_cons_zero, List.set_cons_succ]
  have L3 := Lib.hid (B0.out.trans (hS.mono B0.out.size))
  have A3 := Lib.hid ((hS.block w.heap.size (by simp)).trans A0.out)
  have hown := owns_base (base := w.heap.size) B0.out.size hown2
  obtain ⟨a3, c3, rfl, R3⟩ := RdK.owned HL.out hown
  have R3 := Lib.hid R3
  clear hown hown2 hS S3
  generalize y3 = w3 at *
  go_wp2_with fail
  refine (toKS a n cap fl hn _ (Hr.out.below L3.out)).mono ?_
  rintro e w4 ⟨rfl, hg, hb⟩
  have X25 := Lib.hid hg
  have T4 := Lib.hid hb
  have A4 := Lib.hid (keep_block A3.out hb)
  have HX4 : Hid (w3.heap.size < w4.heap.size) := Lib.hid (Array.getElem?_eq_some_iff.1 hg).1
  clear hg hb
  have HGX : Hid (w.heap.size ≤ w3.heap.size) := Lib.hid L3.out.size
  generalize hgx : w3.heap.size = gx at X25 HX4 T4 HGX
  have HGE := Lib.hid hgx
  clear hgx
  go_wp2_with (refine wpList_load_row rfl 22 (.tmp 5) rfl w.heap.size rfl 22 (ints .u8 key) (0, 0) _ A4.out Try.underlying22 rfl (by rw [ints_size, Hk.out]; exact sizeA32) ?_)
  refine (toKey_ key Hk.out _).mono ?_
  rintro e y2 ⟨rfl, hb⟩
  have hg2 := Lib.hid (keep_block X25.out hb)
  have C4 := Lib.hid hb
  clear hb
  go_wp2_with fail
  refine (Hi.out _ _ (RdK.row Hl.out hg2.out)).mono ?_
  rintro e y3 ⟨v5, rfl, hown, hb3⟩
  have hS := below_call C4.out C4.out.size hb3
  have S3 := hS
  have hown2 := owns_base C4.out.size hown
  clear hb3 hown C4 hg2
  have T5 := Lib.hid (T4.out.trans (hS.mono (by have := HX4.out; omega)))
  have X5 := Lib.hid (keep_block X25.out hS)
  have A5 := Lib.hid (keep_block A4.out hS)
  have O5 := Lib.hid (owns_base (base := w4.heap.size) (Nat.le_refl _) hown2)
  obtain ⟨a5, c5, rfl, R5⟩ := RdK.owned HL.out hown2
  clear hown2 R5 hS S3
  generalize y3 = w5 at *
  go_wp2_with fail
  refine (eqKS a5 a3 N c5 c3 L hN _ (rdk_of_owned HL.out O5.out) (R3.out.below (by rw [HGE.out]; exact T5.out))).mono ?_
  rintro e w6 ⟨rfl, hb⟩
  have T6 := Lib.hid (below_call T5.out (by have := T5.out.size; have := HGE.out; omega) hb)
  have O6 := Lib.hid (owns_below O5.out hb)
  have X6 := Lib.hid (keep_block X5.out hb)
  have A6 := Lib.hid (keep_block A5.out hb)
  clear hb
  go_wp2_with fail
  refine (toKS a n cap fl hn _ (Hr.out.below (L3.out.trans (T6.out.mono HGX.out)))).mono ?_
  rintro e v6 ⟨rfl, hg, hb0⟩
  have HR6 := Lib.hid (RdK.row Hl.out hg)
  have HX6 := Lib.hid (RdK.row Hl.out (keep_block X6.out hb0))
  have T6b := Lib.hid (below_call T6.out (by have := T6.out.size; have := HGE.out; omega) hb0)
  have O6b := Lib.hid (owns_below O6.out hb0)
  have X6b := Lib.hid (keep_block X6.out hb0)
  have A6b := Lib.hid (keep_block A6.out hb0)
  clear hg hb0
  go_wp2_with fail
  refine (eqKS _ _ n n n fl hn _ HX6.out HR6.out).mono ?_
  rintro e w7 ⟨rfl, hb⟩
  have T7 := Lib.hid (below_call T6b.out (by have := T6b.out.size; have := HGE.out; omega) hb)
  have O7 := Lib.hid (owns_below O6b.out hb)
  have X7 := Lib.hid (keep_block X6b.out hb)
  have A7 := Lib.hid (keep_block A6b.out hb)
  clear hb HR6 HX6
  go_wp2_with fail
  refine (markA gx n n _ 1 (by omega) (by omega) hn (by rw [ints_size, Hl.out]; exact Nat.le_refl _) _ X7.out).mono ?_
  rintro e w8 ⟨rfl, hx8, hk8⟩
  have O8 := Lib.hid (owns_keep (by have := HX4.out; omega) O7.out hk8)
  have T8 := Lib.hid (T7.out.trans (hk8.below (by have := T7.out.size; have := HGE.out; omega) (fun k e => by have h : k = gx := e; omega)))
  have A8 := Lib.hid ((hk8.block w.heap.size (Array.getElem?_eq_some_iff.1 A7.out).1 (fun e => by have h : w.heap.size = gx := e; have := (Array.getElem?_eq_some_iff.1 A3.out).1; have := HGE.out; omega)).trans A7.out)
  clear hk8 hx8
  have hk0 : 0 ≤ (1 : Int) + ((32 * n : Nat) : Int) := by omega
  generalize (1 : Int) + ((32 * n : Nat) : Int) = kk at hk0
  go_wp2_with fail
  refine (eqKS a5 a3 N c5 c3 L hN _ (rdk_of_owned HL.out O8.out) (R3.out.below (by rw [HGE.out]; exact T8.out))).mono ?_
  rintro e w9 ⟨rfl, hb⟩
  have O9 := Lib.hid (owns_below O8.out hb)
  have T9 := Lib.hid (below_call T8.out (by have := T8.out.size; have := HGE.out; omega) hb)
  have A9 := Lib.hid (keep_block A8.out hb)
  clear hb
  go_wp2_with fail
  refine (markKV a5 N c5 _ L 1 (by omega) (by omega) (by omega) _ O9.out).mono ?_
  rintro e w10 ⟨rfl, hm, hb⟩
  have T10 := Lib.hid (T9.out.trans (hb.mono (by have := T4.out.size; have := HX4.out; omega)))
  have A10 := Lib.hid ((hb.block w.heap.size (Array.getElem?_eq_some_iff.1 A4.out).1).trans A9.out)
  have M10 := Lib.hid hm
  clear hb hm
  have hm0 : 0 ≤ (1 : Int) + ((32 * N : Nat) : Int) := by omega
  generalize hm : (1 : Int) + ((32 * N : Nat) : Int) = m0 at hm0
  have HM := Lib.hid hm
  clear hm
  go_wp2_with fail
  refine (heldA a5 N c5 1 (by omega) (by omega) (by omega) _ M10.out).mono ?_
  rintro e w11 ⟨rfl, rfl⟩
  rw [HM.out]
  have L10 := Lib.hid (L3.out.trans (T10.out.mono HGX.out))
  have A11 := A10
  go_wp2_with fail
  refine wp_region_held_drew (S := Below w11.heap.size w11) (by kernel_rfl) ((Below.refl _ _).drew) (fun hS => ?_)
  refine take_at (i := 0) (v := .slice a n cap) rfl rfl (by kernel_rfl) (by kernel_rfl) (by kernel_rfl) (fun _ _ _ h => h) (Or.inl ⟨by rfl, fun W hW => by go_simp⟩) hS ?_
  refine take_at (i := 2) (v := .int .i64 i) rfl rfl (by kernel_rfl) (by kernel_rfl) (by kernel_rfl) (fun _ _ _ h => h) (Or.inl ⟨by rfl, fun W hW => by go_simp⟩) hS ?_
  refine take_at (i := 3) (v := .agg (ints .u8 key)) rfl rfl (by kernel_rfl) (by kernel_rfl) (by kernel_rfl) (fun _ _ _ h => h) (yields_box (by rfl) 22 _ rfl w.heap.size rfl _ 22 _ A11.out Try.underlying22 rfl (by rw [ints_size, Hk.out]; exact sizeA32)) hS ?_
  simp only [List.setIfInBounds_toArray, List.set_cons_zero, List.set_cons_succ]
  refine wpAnyH_ready (rs := [1]) (by kernel_rfl) (by simp) ?_
  refine AllReadyH.cons rfl (fun K hK => ?_) AllReadyH.nil
  rw [if_pos (by rfl)]
  go_simp
  refine (toKS a n cap fl hn _ (Hr.out.below (L10.out.trans (hS.mono L10.out.size)))).mono ?_
  rintro e y1 ⟨rfl, hg, hb⟩
  simp only [World.size_drew, World.size_alloc] at hg
  have S1 := below_call hS hS.size hb
  refine hK.out _ _ S1 (fun hS => ?_)
  clear hb hK
  refine wpAnyH_ready (rs := [4]) (by kernel_rfl) (by simp) ?_
  refine AllReadyH.cons rfl (fun K hK => ?_) AllReadyH.nil
  rw [if_pos (by rfl)]
  go_simp
  refine (toKey_ key Hk.out _).mono ?_
  rintro e y2 ⟨rfl, hb⟩
  have hg2 := keep_block hg hb
  refine hK.out _ _ (below_call hS hS.size hb) (fun hS => ?_)
  clear hb hK
  refine wpAnyH_ready (rs := [5]) (by kernel_rfl) (by simp) ?_
  refine AllReadyH.cons rfl (fun K hK => ?_) AllReadyH.nil
  rw [if_pos (by rfl)]
  go_simp
  refine (Hi.out _ _ (RdK.row Hl.out hg2)).mono ?_
  rintro e y3 ⟨v13, rfl, hown, hb⟩
  have S3 := below_call hS hS.size hb
  have hown2 := owns_base hS.size hown
  refine hK.out _ _ S3 (fun hS => ?_)
  clear hb hK hg2 hown
  clear hg S1
  refine take_at (i := 6) (v := .tuple #[v13, .int .i64 E]) rfl rfl (by kernel_rfl) (by kernel_rfl) (by kernel_rfl) (fun _ _ _ h => h) (Or.inl ⟨by rfl, fun W hW => by go_simp⟩) hS ?_
  refine take_at (i := 7) (v := v13) rfl rfl (by kernel_rfl) (by kernel_rfl) (by kernel_rfl) (fun _ _ _ h => h) (Or.inl ⟨by rfl, fun W hW => by go_simp⟩) hS ?_
  refine take_at (i := 8) (v := .int .i64 E) rfl rfl (by kernel_rfl) (by kernel_rfl) (by kernel_rfl) (fun _ _ _ h => h) (Or.inl ⟨by rfl, fun W hW => by go_simp⟩) hS ?_
  simp only [List.setIfInBounds_toArray, List.set_cons_zero, List.set_cons_succ]
  refine take_at (i := 9) (v := v13) rfl rfl (by kernel_rfl) (by kernel_rfl) (by kernel_rfl) (fun _ _ _ h => h) (Or.inl ⟨by rfl, fun W hW => by go_simp⟩) hS ?_
  refine take_at (i := 10) (v := .int .i64 E) rfl rfl (by kernel_rfl) (by kernel_rfl) (by kernel_rfl) (fun _ _ _ h => h) (Or.inl ⟨by rfl, fun W hW => by go_simp⟩) hS ?_
  refine wpAnyH_done (by kernel_rfl) ?_ _
  simp only [List.setIfInBounds_toArray, List.set_cons_zero, List.set_cons_succ]
  have T13 := Lib.hid (below_call T10.out (by have := T10.out.size; have := HGE.out; omega) hS)
  have M13 := Lib.hid (M10.out.below hS)
  obtain ⟨a13, c13, rfl, R13⟩ := RdK.owned HL.out hown2
  have R13 := Lib.hid R13
  clear hown2 hS S3
  generalize y3 = w13 at *
  go_wp2_with fail
  refine (eqKS a13 a3 N c13 c3 L hN _ R13.out (R3.out.below (by rw [HGE.out]; exact T13.out))).mono ?_
  rintro e w14 ⟨rfl, hb⟩
  have T14 := Lib.hid (below_call T13.out (by have := T13.out.size; have := HGE.out; omega) hb)
  have M14 := Lib.hid (M13.out.below hb)
  clear hb
  go_wp2_with fail
  refine (heldA a5 N c5 1 (by omega) (by omega) (by omega) _ M14.out).mono ?_
  rintro e w15 ⟨rfl, rfl⟩
  rw [HM.out]
  go_wp2
  go_ret
  exact ⟨rfl, L3.out.trans (T14.out.mono HGX.out)⟩
set_option maxRecDepth 100000 in
set_option maxHeartbeats 1000000 in
theorem FnExactAddLeaf_out (a : Option Addr) (n cap : Nat) (i : Int) (key : List Int) (hm : n ≤ maxLen) (hn : ¬ n ≤ 1048576) (w : World) :
    Calls Try.prog 7 #[.slice a n cap, .int .i64 i, .agg (ints .u8 key)] w fun e w' => e = .returned (.bool true) ∧ Below w.heap.size w w' := by
  unfold maxLen at hm
  have h1 : (1048576 : Int) < (n : Int) := by omega
  go_enter Try.func7, Try.ntmps7
  go_wp2_with fail
  refine (szKS_out a n cap 1048576 (by omega) (by omega) hm h1 _).mono ?_
  rintro e v0 ⟨rfl, rfl⟩
  go_wp2
  go_ret
  exact ⟨rfl, (Below.refl _ _).alloc (Nat.le_refl _) _⟩
theorem FnExactAddLeaf_walk (a : Option Addr) (n cap : Nat) (fl : List Int) (i : Int) (key : List Int) (w : World) (f : IsKeys w a n fl) (f1 : (Lit.int .i64 i).wf = true) (hk : key.length = 32) (fk : ∀ z ∈ key, (Lit.int .u8 z).wf = true) :
    Calls Try.prog 7 #[.slice a n cap, .int .i64 i, .agg (ints .u8 key)] w fun e w' => e = .returned (.bool true) ∧ Below w.heap.size w w' := by
  by_cases hn : n ≤ 1048576
  · have hl := f.2.1.1
    have fb := f.2.2
    have fL : ∀ z ∈ key, 0 ≤ z ∧ z ≤ 255 := fun z hz => bounds_u8 (fk z hz)
    exact FnExactAddLeaf_in a n cap i key (adN n i) fl (adV fl n i key) (gcode n i 255) hk (by have := adN_le n i; omega) (adV_len hl ⟨hk, fL⟩) hn w f.2.1
      (fun W b h => ad_spec b n n i fl key hn fb hk fL W h) (fun W b h => ad_impl b n n i fl key hn fb hk fL W h)
  · exact FnExactAddLeaf_out a n cap i key f.1 hn w
end Go.Proofs.Ytjcfpfegabnnlaa
