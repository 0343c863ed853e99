/- The key of two keys: the program. -/
import Derived.Test.YtjijgckljjcfiaaHashI
namespace Go.Proofs.Ytjijgckljjcfiaa
open Go.ChangeShapes Go.WideShapes Go.ChangeAt Go.RowKit
set_option linter.unusedVariables false
theorem Rd.owned {w : World} {base : Nat} {v : Value} {n : Nat} {L : List Int} {t : TypeId} (h : w.ownsRow base t 1 v n (L.map (Value.int .u8))) : ∃ a cap, v = .slice a n cap ∧ Rd .u8 w a n L := by
  obtain ⟨h1, h2⟩ := h
  have hl : L.length = n := by simpa using h1
  rcases h2 with ⟨rfl, rfl⟩ | ⟨g, cap, cur, rfl, hb, hg, hc, hm, hs, ht⟩
  · exact ⟨none, 0, rfl, hl, Or.inl rfl⟩
  · refine ⟨_, cap, rfl, hl, Or.inr ⟨g, 0, rfl, (Array.getElem?_eq_some_iff.1 hg).1, fun j hj => ?_⟩⟩
    rw [Nat.zero_add, cell_of_row w g j _ _ _ hg]
    have : (cur.toList.take (n * 1))[j]? = (L.map (Value.int .u8))[j]? := by rw [ht]
    rw [List.getElem?_take_of_lt (by omega), List.getElem?_map, List.getElem?_eq_getElem (l := L) (by omega)] at this
    rw [List.getElem?_eq_getElem (l := L) (by omega)]
    simpa using this
theorem RdS.below {w w1 : World} {a : Option Addr} {k : Nat} {ls : List (List Int)} (h : RdS w a k ls) (hb : Below w.heap.size w w1) : RdS w1 a k ls := by
  obtain ⟨h1, h2⟩ := h
  refine ⟨h1, ?_⟩
  rcases h2 with h2 | ⟨b, off, e, hlt, hc⟩
  · exact Or.inl h2
  · refine Or.inr ⟨b, off, e, Nat.lt_of_lt_of_le hlt hb.size, fun j hj => ?_⟩
    obtain ⟨x, n, c, hcell, hrd⟩ := hc j hj
    exact ⟨x, n, c, by rw [hb.cell (p := ⟨b, off + j, none⟩) hlt]; exact hcell, hrd.below hb⟩
theorem pair_keys {u : World} {x y : Nat} {a b : List Int} (ha : a.length = 32) (hb : b.length = 32) (hx : u.heap[x]? = some (.cells (ints .u8 a) 28)) (hy : u.heap[y]? = some (.cells (ints .u8 b) 28)) :
    RdS (u.alloc (.cells #[.slice (some ⟨x, 0, none⟩) 32 32, .slice (some ⟨y, 0, none⟩) 32 32] 22)) (some ⟨u.heap.size, 0, none⟩) 2 [a, b] := by
  have hg := heap_alloc_last u (.cells #[.slice (some ⟨x, 0, none⟩) 32 32, .slice (some ⟨y, 0, none⟩) 32 32] 22)
  have hbl := (Below.refl u.heap.size u).alloc (Nat.le_refl _) (.cells #[.slice (some ⟨x, 0, none⟩) 32 32, .slice (some ⟨y, 0, none⟩) 32 32] 22)
  have r1 := Rd.row hx
  have r2 := Rd.row hy
  rw [ha] at r1
  rw [hb] at r2
  refine ⟨rfl, Or.inr ⟨u.heap.size, 0, rfl, by simp, fun j hj => ?_⟩⟩
  match j, hj with
  | 0, _ => exact ⟨_, 32, 32, by rw [cell_of_row _ _ _ _ _ _ hg]; rfl, r1.below hbl⟩
  | 1, _ => exact ⟨_, 32, 32, by rw [cell_of_row _ _ _ _ _ _ hg]; rfl, r2.below hbl⟩
  | j + 2, hj => simp at hj; omega
def pairK (tag : Int) (a b : List Int) : List Int := hashK tag (a ++ b)
theorem pairK_len (tag : Int) (a b : List Int) : (pairK tag a b).length = 32 := hashK_len _ _
set_option linter.unusedSimpArgs false in
set_option maxRecDepth 100000 in
set_option maxHeartbeats 2000000 in
theorem pair_impl (t : Int) (a b : List Int) (t0 : 0 ≤ t) (t1 : t ≤ 255) (ha : a.length = 32) (fa : ∀ z ∈ a, 0 ≤ z ∧ z ≤ 255) (hb : b.length = 32) (fb : ∀ z ∈ b, 0 ≤ z ∧ z ≤ 255) (w : World) :
    Calls Try.prog 91 #[.int .u8 t, .agg (ints .u8 a), .agg (ints .u8 b)] w fun e w' => e = .returned (.agg (ints .u8 (pairK t a b))) ∧ Below w.heap.size w w' := by
  have Hz := Lib.hid z32_ints
  have Ha := Lib.hid ha
  have Hb := Lib.hid hb
  have hl : (a ++ b).length = 64 := by simp [ha, hb]
  have hv : hashV t (a ++ b) = pairK t a b := by unfold hashV pairK; rw [if_pos (by omega)]
  have he : hashE (a ++ b) = 0 := by unfold hashE; rw [if_pos (by omega)]
  have Hc := Lib.hid (fun (W : World) (p : Nat) h => concat_impl (some ⟨p, 0, none⟩) 2 2 [a, b] (by omega) (by simp [ha, hb]) W h)
  have Hh := Lib.hid (fun x c W h => hasho_impl t x 64 c (a ++ b) t0 t1 (fun z hz => by rcases List.mem_append.1 hz with h | h; (· exact fa z h); (· exact fb z h)) (by omega) W h)
  rw [hv, he] at Hh
  have hf : [a, b].flatten = a ++ b := by simp
  rw [hf, hl] at Hc
  have Hvl := Lib.hid (pairK_len t a b)
  clear ha hb fa fb hl hv he hf
  generalize pairK t a b = V at Hh Hvl
  go_enter Try.func91, Try.ntmps91
  go_wp2_with fail
  obtain ⟨W0, hW0⟩ : ∃ W0, ((w.alloc (.cells (ints .u8 a) 28)).alloc (.cells (ints .u8 b) 28)).alloc (.cells (ints .u8 z32) 28) = W0 := ⟨_, rfl⟩
  have BW := Lib.hid ((((Below.refl w.heap.size w).alloc (by simp) (.cells (ints .u8 a) 28)).alloc (by simp) (.cells (ints .u8 b) 28)).alloc (by simp; omega) (.cells (ints .u8 z32) 28))
  have GA := Lib.hid (heap3_0 w (.cells (ints .u8 a) 28) (.cells (ints .u8 b) 28) (.cells (ints .u8 z32) 28))
  have GB := Lib.hid (heap3_1 w (.cells (ints .u8 a) 28) (.cells (ints .u8 b) 28) (.cells (ints .u8 z32) 28))
  have G6 := Lib.hid (heap3_2 w (.cells (ints .u8 a) 28) (.cells (ints .u8 b) 28) (.cells (ints .u8 z32) 28))
  have HSZ : Hid (W0.heap.size = w.heap.size + 3) := Lib.hid (by rw [← hW0]; simp)
  rw [hW0] at BW GA GB G6
  rw [Hz.out] at hW0
  rw [hW0]
  clear hW0
  have C_0 := Lib.hid ((Below.refl W0.heap.size W0).drew)
  refine wp_region_held_drew (S := fun _ => True) (by kernel_rfl) trivial (fun hS => ?_)
  refine take_at (i := 0) (v := .int .u8 t) rfl rfl (by kernel_rfl) (by kernel_rfl) (by kernel_rfl) (fun _ _ _ h => h) (Or.inl ⟨by rfl, fun W hW => by go_simp⟩) hS ?_
  refine take_at (i := 1) (v := .slice (some ⟨w.heap.size, 0, none⟩) 32 32) rfl rfl (by kernel_rfl) (by kernel_rfl) (by kernel_rfl) (fun _ _ _ h => h) (Or.inl ⟨by rfl, fun W hW => by go_simp⟩) hS ?_
  refine take_at (i := 2) (v := .slice (some ⟨w.heap.size + 1, 0, none⟩) 32 32) rfl rfl (by kernel_rfl) (by kernel_rfl) (by kernel_rfl) (fun _ _ _ h => h) (Or.inl ⟨by rfl, fun W hW => by go_simp⟩) hS ?_
  simp only [List.setIfInBounds_toArray, List.set_cons_zero, List.set_cons_succ]
  refine wpAnyH_ready (rs := [3, 9]) (by kernel_rfl) (by simp) ?_
  refine AllReadyH.cons rfl (fun K hK => ?_) (AllReadyH.cons rfl (fun K hK => ?_) AllReadyH.nil)
  · rw [if_pos (by rfl)]
    go_simp
    have C_1 := Lib.hid (C_0.out.alloc C_0.out.size (.cells #[.slice (some ⟨w.heap.size, 0, none⟩) 32 32, .slice (some ⟨w.heap.size + 1, 0, none⟩) 32 32] 22))
    have RS_1 : Hid (RdS ((W0.drew).alloc (.cells #[.slice (some ⟨w.heap.size, 0, none⟩) 32 32, .slice (some ⟨w.heap.size + 1, 0, none⟩) 32 32] 22)) (some ⟨W0.heap.size, 0, none⟩) 2 [a, b]) := Lib.hid (by simpa only [World.size_drew, World.size_alloc] using pair_keys (u := W0.drew) Ha.out Hb.out ((C_0.out.block w.heap.size (by have := HSZ.out; omega)).trans GA.out) ((C_0.out.block (w.heap.size + 1) (by have := HSZ.out; omega)).trans GB.out))
    refine hK.out _ _ trivial (fun hS => ?_)
    clear hK
    refine wpAnyH_ready (rs := [4, 9]) (by kernel_rfl) (by simp) ?_
    refine AllReadyH.cons rfl (fun K hK => ?_) (AllReadyH.cons rfl (fun K hK => ?_) AllReadyH.nil)
    · rw [if_pos (by rfl)]
      go_simp
      refine (Hc.out _ _ RS_1.out).mono ?_
      rintro e u2 ⟨v2, rfl, hown, hb⟩
      obtain ⟨a2, c2, rfl, hrd⟩ := Rd.owned hown
      have RC_2 := Lib.hid hrd
      have C_2 := Lib.hid (below_call C_1.out C_1.out.size hb)
      clear hb hown hrd
      refine hK.out _ _ trivial (fun hS => ?_)
      clear hK
      refine wpAnyH_ready (rs := [5, 9]) (by kernel_rfl) (by simp) ?_
      refine AllReadyH.cons rfl (fun K hK => ?_) (AllReadyH.cons rfl (fun K hK => ?_) AllReadyH.nil)
      · rw [if_pos (by rfl)]
        go_simp
        refine (Hh.out _ _ _ RC_2.out).mono ?_
        rintro e u3 ⟨rfl, hb⟩
        have C_3 := Lib.hid (below_call C_2.out C_2.out.size hb)
        clear hb
        refine hK.out _ _ trivial (fun hS => ?_)
        clear hK
        refine take_at (i := 6) (v := .tuple #[.agg (ints .u8 V), .int .i64 0]) rfl rfl (by kernel_rfl) (by kernel_rfl) (by kernel_rfl) (fun _ _ _ h => h) (Or.inl ⟨by rfl, fun W hW => by go_simp⟩) hS ?_
        refine take_at (i := 7) (v := .agg (ints .u8 V)) rfl rfl (by kernel_rfl) (by kernel_rfl) (by kernel_rfl) (fun _ _ _ h => h) (Or.inl ⟨by rfl, fun W hW => by go_simp⟩) hS ?_
        refine take_at (i := 8) (v := .int .i64 0) rfl rfl (by kernel_rfl) (by kernel_rfl) (by kernel_rfl) (fun _ _ _ h => h) (Or.inl ⟨by rfl, fun W hW => by go_simp⟩) hS ?_
        simp only [List.setIfInBounds_toArray, List.set_cons_zero, List.set_cons_succ]
        refine wpAnyH_ready (rs := [9]) (by kernel_rfl) (by simp) ?_
        refine AllReadyH.cons rfl (fun K hK => ?_) AllReadyH.nil
        rw [if_pos (by rfl)]
        go_simp
        have C_4 := Lib.hid (C_3.out.alloc C_3.out.size (.cells (ints .u8 z32) 28))
        have G7_4 : Hid (((u3).alloc (.cells (ints .u8 z32) 28)).heap[u3.heap.size]? = some (.cells (ints .u8 z32) 28)) := Lib.hid (by simpa only [World.size_drew, World.size_alloc] using heap_alloc_last (u3) (.cells (ints .u8 z32) 28))
        have L7_4 : Hid (W0.heap.size ≤ u3.heap.size) := Lib.hid (by simpa only [World.size_drew, World.size_alloc] using C_3.out.size)
        rw [← Hz.out]
        refine hK.out _ _ trivial (fun hS => ?_)
        clear hK
        refine wpAnyH_ready (rs := [10]) (by kernel_rfl) (by simp) ?_
        refine AllReadyH.cons rfl (fun K hK => ?_) AllReadyH.nil
        rw [if_pos (by rfl)]
        refine wp_store_row (o := ⟨none, _, _, _, _, _⟩) 28 _ _ rfl _ (ints .u8 V) rfl rfl 28 (ints .u8 z32) G7_4.out (by rw [ints_size, Hvl.out]; exact sizeKey) (by rw [ints_size, ints_size, Hvl.out]; rfl) (ints_one _ _) ?_
        simp only [Act.put]
        refine hK.out _ _ trivial (fun hS => ?_)
        clear hK
        refine take_at (i := 11) (v := .int .i64 0) rfl rfl (by kernel_rfl) (by kernel_rfl) (by kernel_rfl) (fun _ _ _ h => h) (Or.inl ⟨by rfl, fun W hW => by go_simp⟩) hS ?_
        refine wpAnyH_done (by kernel_rfl) ?_ _
        simp only [List.setIfInBounds_toArray, List.set_cons_zero, List.set_cons_succ]
        clear hS
        have CF := Lib.hid (Below.setRow C_4.out L7_4.out (ints .u8 V))
        have GF := Lib.hid (setRow_heap _ _ (ints .u8 z32) (ints .u8 V) _ _ G7_4.out)
        have GR := Lib.hid ((CF.out.block (w.heap.size + 1 + 1) (by have := HSZ.out; omega)).trans G6.out)
        go_wp2_with (first | (refine wpList_load_row rfl 28 _ rfl (u3.heap.size) rfl 28 (ints .u8 V) (0, 0) _ GF.out Try.underlying28 rfl (by rw [ints_size, Hvl.out]; exact sizeKey) ?_) | (refine wpList_store_row rfl 28 _ _ rfl (w.heap.size + 1 + 1) (ints .u8 V) rfl rfl 28 (ints .u8 z32) GR.out (by rw [ints_size, Hvl.out]; exact sizeKey) (by rw [ints_size, ints_size, Hvl.out]; rfl) (ints_one _ _) ?_))
        refine bodyPost_ret (results_cell_row rfl _ _ (w.heap.size + 1 + 1) 28 (ints .u8 V) (0, 0) _ rfl (setRow_heap _ _ (ints .u8 z32) _ _ _ GR.out) Try.underlying28 rfl (by rw [ints_size, Hvl.out]; exact sizeKey)) rfl ⟨rfl, ?_⟩
        exact Below.setRow (BW.out.trans (CF.out.mono BW.out.size)) (by omega) _
      · rw [if_pos (by rfl)]
        go_simp
        have C_5 := Lib.hid (C_2.out.alloc C_2.out.size (.cells (ints .u8 z32) 28))
        have G7_5 : Hid (((u2).alloc (.cells (ints .u8 z32) 28)).heap[u2.heap.size]? = some (.cells (ints .u8 z32) 28)) := Lib.hid (by simpa only [World.size_drew, World.size_alloc] using heap_alloc_last (u2) (.cells (ints .u8 z32) 28))
        have L7_5 : Hid (W0.heap.size ≤ u2.heap.size) := Lib.hid (by simpa only [World.size_drew, World.size_alloc] using C_2.out.size)
        rw [← Hz.out]
        have RC_5 := Lib.hid (RC_2.out.below ((Below.refl _ _).alloc (Nat.le_refl _) (.cells (ints .u8 z32) 28)))
        refine hK.out _ _ trivial (fun hS => ?_)
        clear hK
        refine wpAnyH_ready (rs := [5]) (by kernel_rfl) (by simp) ?_
        refine AllReadyH.cons rfl (fun K hK => ?_) AllReadyH.nil
        rw [if_pos (by rfl)]
        go_simp
        refine (Hh.out _ _ _ RC_5.out).mono ?_
        rintro e u6 ⟨rfl, hb⟩
        have C_6 := Lib.hid (below_call C_5.out C_5.out.size hb)
        have G7_6 := Lib.hid (keep_block G7_5.out hb)
        have L7_6 := L7_5
        clear hb
        refine hK.out _ _ trivial (fun hS => ?_)
        clear hK
        refine take_at (i := 6) (v := .tuple #[.agg (ints .u8 V), .int .i64 0]) rfl rfl (by kernel_rfl) (by kernel_rfl) (by kernel_rfl) (fun _ _ _ h => h) (Or.inl ⟨by rfl, fun W hW => by go_simp⟩) hS ?_
        refine take_at (i := 7) (v := .agg (ints .u8 V)) rfl rfl (by kernel_rfl) (by kernel_rfl) (by kernel_rfl) (fun _ _ _ h => h) (Or.inl ⟨by rfl, fun W hW => by go_simp⟩) hS ?_
        refine take_at (i := 8) (v := .int .i64 0) rfl rfl (by kernel_rfl) (by kernel_rfl) (by kernel_rfl) (fun _ _ _ h => h) (Or.inl ⟨by rfl, fun W hW => by go_simp⟩) hS ?_
        simp only [List.setIfInBounds_toArray, List.set_cons_zero, List.set_cons_succ]
        refine wpAnyH_ready (rs := [10]) (by kernel_rfl) (by simp) ?_
        refine AllReadyH.cons rfl (fun K hK => ?_) AllReadyH.nil
        rw [if_pos (by rfl)]
        refine wp_store_row (o := ⟨none, _, _, _, _, _⟩) 28 _ _ rfl _ (ints .u8 V) rfl rfl 28 (ints .u8 z32) G7_6.out (by rw [ints_size, Hvl.out]; exact sizeKey) (by rw [ints_size, ints_size, Hvl.out]; rfl) (ints_one _ _) ?_
        simp only [Act.put]
        refine hK.out _ _ trivial (fun hS => ?_)
        clear hK
        refine take_at (i := 11) (v := .int .i64 0) rfl rfl (by kernel_rfl) (by kernel_rfl) (by kernel_rfl) (fun _ _ _ h => h) (Or.inl ⟨by rfl, fun W hW => by go_simp⟩) hS ?_
        refine wpAnyH_done (by kernel_rfl) ?_ _
        simp only [List.setIfInBounds_toArray, List.set_cons_zero, List.set_cons_succ]
        clear hS
        have CF := Lib.hid (Below.setRow C_6.out L7_6.out (ints .u8 V))
        have GF := Lib.hid (setRow_heap _ _ (ints .u8 z32) (ints .u8 V) _ _ G7_6.out)
        have GR := Lib.hid ((CF.out.block (w.heap.size + 1 + 1) (by have := HSZ.out; omega)).trans G6.out)
        go_wp2_with (first | (refine wpList_load_row rfl 28 _ rfl (u2.heap.size) rfl 28 (ints .u8 V) (0, 0) _ GF.out Try.underlying28 rfl (by rw [ints_size, Hvl.out]; exact sizeKey) ?_) | (refine wpList_store_row rfl 28 _ _ rfl (w.heap.size + 1 + 1) (ints .u8 V) rfl rfl 28 (ints .u8 z32) GR.out (by rw [ints_size, Hvl.out]; exact sizeKey) (by rw [ints_size, ints_size, Hvl.out]; rfl) (ints_one _ _) ?_))
        refine bodyPost_ret (results_cell_row rfl _ _ (w.heap.size + 1 + 1) 28 (ints .u8 V) (0, 0) _ rfl (setRow_heap _ _ (ints .u8 z32) _ _ _ GR.out) Try.underlying28 rfl (by rw [ints_size, Hvl.out]; exact sizeKey)) rfl ⟨rfl, ?_⟩
        exact Below.setRow (BW.out.trans (CF.out.mono BW.out.size)) (by omega) _
    · rw [if_pos (by rfl)]
      go_simp
      have C_7 := Lib.hid (C_1.out.alloc C_1.out.size (.cells (ints .u8 z32) 28))
      have G7_7 : Hid ((((W0.drew).alloc (.cells #[.slice (some ⟨w.heap.size, 0, none⟩) 32 32, .slice (some ⟨w.heap.size + 1, 0, none⟩) 32 32] 22)).alloc (.cells (ints .u8 z32) 28)).heap[W0.heap.size + 1]? = some (.cells (ints .u8 z32) 28)) := Lib.hid (by simpa only [World.size_drew, World.size_alloc] using heap_alloc_last ((W0.drew).alloc (.cells #[.slice (some ⟨w.heap.size, 0, none⟩) 32 32, .slice (some ⟨w.heap.size + 1, 0, none⟩) 32 32] 22)) (.cells (ints .u8 z32) 28))
      have L7_7 : Hid (W0.heap.size ≤ W0.heap.size + 1) := Lib.hid (by simpa only [World.size_drew, World.size_alloc] using C_1.out.size)
      rw [← Hz.out]
      have RS_7 := Lib.hid (RdS.below RS_1.out ((Below.refl _ _).alloc (Nat.le_refl _) (.cells (ints .u8 z32) 28)))
      refine hK.out _ _ trivial (fun hS => ?_)
      clear hK
      refine wpAnyH_ready (rs := [4]) (by kernel_rfl) (by simp) ?_
      refine AllReadyH.cons rfl (fun K hK => ?_) AllReadyH.nil
      rw [if_pos (by rfl)]
      go_simp
      refine (Hc.out _ _ RS_7.out).mono ?_
      rintro e u8 ⟨v8, rfl, hown, hb⟩
      obtain ⟨a8, c8, rfl, hrd⟩ := Rd.owned hown
      have RC_8 := Lib.hid hrd
      have C_8 := Lib.hid (below_call C_7.out C_7.out.size hb)
      have G7_8 := Lib.hid (keep_block G7_7.out hb)
      have L7_8 := L7_7
      clear hb hown hrd
      refine hK.out _ _ trivial (fun hS => ?_)
      clear hK
      refine wpAnyH_ready (rs := [5]) (by kernel_rfl) (by simp) ?_
      refine AllReadyH.cons rfl (fun K hK => ?_) AllReadyH.nil
      rw [if_pos (by rfl)]
      go_simp
      refine (Hh.out _ _ _ RC_8.out).mono ?_
      rintro e u9 ⟨rfl, hb⟩
      have C_9 := Lib.hid (below_call C_8.out C_8.out.size hb)
      have G7_9 := Lib.hid (keep_block G7_8.out hb)
      have L7_9 := L7_8
      clear hb
      refine hK.out _ _ trivial (fun hS => ?_)
      clear hK
      refine take_at (i := 6) (v := .tuple #[.agg (ints .u8 V), .int .i64 0]) rfl rfl (by kernel_rfl) (by kernel_rfl) (by kernel_rfl) (fun _ _ _ h => h) (Or.inl ⟨by rfl, fun W hW => by go_simp⟩) hS ?_
      refine take_at (i := 7) (v := .agg (ints .u8 V)) rfl rfl (by kernel_rfl) (by kernel_rfl) (by kernel_rfl) (fun _ _ _ h => h) (Or.inl ⟨by rfl, fun W hW => by go_simp⟩) hS ?_
      refine take_at (i := 8) (v := .int .i64 0) rfl rfl (by kernel_rfl) (by kernel_rfl) (by kernel_rfl) (fun _ _ _ h => h) (Or.inl ⟨by rfl, fun W hW => by go_simp⟩) hS ?_
      simp only [List.setIfInBounds_toArray, List.set_cons_zero, List.set_cons_succ]
      refine wpAnyH_ready (rs := [10]) (by kernel_rfl) (by simp) ?_
      refine AllReadyH.cons rfl (fun K hK => ?_) AllReadyH.nil
      rw [if_pos (by rfl)]
      refine wp_store_row (o := ⟨none, _, _, _, _, _⟩) 28 _ _ rfl _ (ints .u8 V) rfl rfl 28 (ints .u8 z32) G7_9.out (by rw [ints_size, Hvl.out]; exact sizeKey) (by rw [ints_size, ints_size, Hvl.out]; rfl) (ints_one _ _) ?_
      simp only [Act.put]
      refine hK.out _ _ trivial (fun hS => ?_)
      clear hK
      refine take_at (i := 11) (v := .int .i64 0) rfl rfl (by kernel_rfl) (by kernel_rfl) (by kernel_rfl) (fun _ _ _ h => h) (Or.inl ⟨by rfl, fun W hW => by go_simp⟩) hS ?_
      refine wpAnyH_done (by kernel_rfl) ?_ _
      simp only [List.setIfInBounds_toArray, List.set_cons_zero, List.set_cons_succ]
      clear hS
      have CF := Lib.hid (Below.setRow C_9.out L7_9.out (ints .u8 V))
      have GF := Lib.hid (setRow_heap _ _ (ints .u8 z32) (ints .u8 V) _ _ G7_9.out)
      have GR := Lib.hid ((CF.out.block (w.heap.size + 1 + 1) (by have := HSZ.out; omega)).trans G6.out)
      go_wp2_with (first | (refine wpList_load_row rfl 28 _ rfl (W0.heap.size + 1) rfl 28 (ints .u8 V) (0, 0) _ GF.out Try.underlying28 rfl (by rw [ints_size, Hvl.out]; exact sizeKey) ?_) | (refine wpList_store_row rfl 28 _ _ rfl (w.heap.size + 1 + 1) (ints .u8 V) rfl rfl 28 (ints .u8 z32) GR.out (by rw [ints_size, Hvl.out]; exact sizeKey) (by rw [ints_size, ints_size, Hvl.out]; rfl) (ints_one _ _) ?_))
      refine bodyPost_ret (results_cell_row rfl _ _ (w.heap.size + 1 + 1) 28 (ints .u8 V) (0, 0) _ rfl (setRow_heap _ _ (ints .u8 z32) _ _ _ GR.out) Try.underlying28 rfl (by rw [ints_size, Hvl.out]; exact sizeKey)) rfl ⟨rfl, ?_⟩
      exact Below.setRow (BW.out.trans (CF.out.mono BW.out.size)) (by omega) _
  · rw [if_pos (by rfl)]
    go_simp
    have C_10 := Lib.hid (C_0.out.alloc C_0.out.size (.cells (ints .u8 z32) 28))
    have G7_10 : Hid (((W0.drew).alloc (.cells (ints .u8 z32) 28)).heap[W0.heap.size]? = some (.cells (ints .u8 z32) 28)) := Lib.hid (by simpa only [World.size_drew, World.size_alloc] using heap_alloc_last (W0.drew) (.cells (ints .u8 z32) 28))
    have L7_10 : Hid (W0.heap.size ≤ W0.heap.size) := Lib.hid (by simpa only [World.size_drew, World.size_alloc] using C_0.out.size)
    rw [← Hz.out]
    refine hK.out _ _ trivial (fun hS => ?_)
    clear hK
    refine wpAnyH_ready (rs := [3]) (by kernel_rfl) (by simp) ?_
    refine AllReadyH.cons rfl (fun K hK => ?_) AllReadyH.nil
    rw [if_pos (by rfl)]
    go_simp
    have C_11 := Lib.hid (C_10.out.alloc C_10.out.size (.cells #[.slice (some ⟨w.heap.size, 0, none⟩) 32 32, .slice (some ⟨w.heap.size + 1, 0, none⟩) 32 32] 22))
    have RS_11 : Hid (RdS (((W0.drew).alloc (.cells (ints .u8 z32) 28)).alloc (.cells #[.slice (some ⟨w.heap.size, 0, none⟩) 32 32, .slice (some ⟨w.heap.size + 1, 0, none⟩) 32 32] 22)) (some ⟨W0.heap.size + 1, 0, none⟩) 2 [a, b]) := Lib.hid (by simpa only [World.size_drew, World.size_alloc] using pair_keys (u := (W0.drew).alloc (.cells (ints .u8 z32) 28)) Ha.out Hb.out ((C_10.out.block w.heap.size (by have := HSZ.out; omega)).trans GA.out) ((C_10.out.block (w.heap.size + 1) (by have := HSZ.out; omega)).trans GB.out))
    have G7_11 := Lib.hid ((Below.heap_alloc ((W0.drew).alloc (.cells (ints .u8 z32) 28)) (.cells #[.slice (some ⟨w.heap.size, 0, none⟩) 32 32, .slice (some ⟨w.heap.size + 1, 0, none⟩) 32 32] 22) _ (Array.getElem?_eq_some_iff.1 G7_10.out).1).trans G7_10.out)
    have L7_11 := L7_10
    refine hK.out _ _ trivial (fun hS => ?_)
    clear hK
    refine wpAnyH_ready (rs := [4]) (by kernel_rfl) (by simp) ?_
    refine AllReadyH.cons rfl (fun K hK => ?_) AllReadyH.nil
    rw [if_pos (by rfl)]
    go_simp
    refine (Hc.out _ _ RS_11.out).mono ?_
    rintro e u12 ⟨v12, rfl, hown, hb⟩
    obtain ⟨a12, c12, rfl, hrd⟩ := Rd.owned hown
    have RC_12 := Lib.hid hrd
    have C_12 := Lib.hid (below_call C_11.out C_11.out.size hb)
    have G7_12 := Lib.hid (keep_block G7_11.out hb)
    have L7_12 := L7_11
    clear hb hown hrd
    refine hK.out _ _ trivial (fun hS => ?_)
    clear hK
    refine wpAnyH_ready (rs := [5]) (by kernel_rfl) (by simp) ?_
    refine AllReadyH.cons rfl (fun K hK => ?_) AllReadyH.nil
    rw [if_pos (by rfl)]
    go_simp
    refine (Hh.out _ _ _ RC_12.out).mono ?_
    rintro e u13 ⟨rfl, hb⟩
    have C_13 := Lib.hid (below_call C_12.out C_12.out.size hb)
    have G7_13 := Lib.hid (keep_block G7_12.out hb)
    have L7_13 := L7_12
    clear hb
    refine hK.out _ _ trivial (fun hS => ?_)
    clear hK
    refine take_at (i := 6) (v := .tuple #[.agg (ints .u8 V), .int .i64 0]) rfl rfl (by kernel_rfl) (by kernel_rfl) (by kernel_rfl) (fun _ _ _ h => h) (Or.inl ⟨by rfl, fun W hW => by go_simp⟩) hS ?_
    refine take_at (i := 7) (v := .agg (ints .u8 V)) rfl rfl (by kernel_rfl) (by kernel_rfl) (by kernel_rfl) (fun _ _ _ h => h) (Or.inl ⟨by rfl, fun W hW => by go_simp⟩) hS ?_
    refine take_at (i := 8) (v := .int .i64 0) rfl rfl (by kernel_rfl) (by kernel_rfl) (by kernel_rfl) (fun _ _ _ h => h) (Or.inl ⟨by rfl, fun W hW => by go_simp⟩) hS ?_
    simp only [List.setIfInBounds_toArray, List.set_cons_zero, List.set_cons_succ]
    refine wpAnyH_ready (rs := [10]) (by kernel_rfl) (by simp) ?_
    refine AllReadyH.cons rfl (fun K hK => ?_) AllReadyH.nil
    rw [if_pos (by rfl)]
    refine wp_store_row (o := ⟨none, _, _, _, _, _⟩) 28 _ _ rfl _ (ints .u8 V) rfl rfl 28 (ints .u8 z32) G7_13.out (by rw [ints_size, Hvl.out]; exact sizeKey) (by rw [ints_size, ints_size, Hvl.out]; rfl) (ints_one _ _) ?_
    simp only [Act.put]
    refine hK.out _ _ trivial (fun hS => ?_)
    clear hK
    refine take_at (i := 11) (v := .int .i64 0) rfl rfl (by kernel_rfl) (by kernel_rfl) (by kernel_rfl) (fun _ _ _ h => h) (Or.inl ⟨by rfl, fun W hW => by go_simp⟩) hS ?_
    refine wpAnyH_done (by kernel_rfl) ?_ _
    simp only [List.setIfInBounds_toArray, List.set_cons_zero, List.set_cons_succ]
    clear hS
    have CF := Lib.hid (Below.setRow C_13.out L7_13.out (ints .u8 V))
    have GF := Lib.hid (setRow_heap _ _ (ints .u8 z32) (ints .u8 V) _ _ G7_13.out)
    have GR := Lib.hid ((CF.out.block (w.heap.size + 1 + 1) (by have := HSZ.out; omega)).trans G6.out)
    go_wp2_with (first | (refine wpList_load_row rfl 28 _ rfl (W0.heap.size) rfl 28 (ints .u8 V) (0, 0) _ GF.out Try.underlying28 rfl (by rw [ints_size, Hvl.out]; exact sizeKey) ?_) | (refine wpList_store_row rfl 28 _ _ rfl (w.heap.size + 1 + 1) (ints .u8 V) rfl rfl 28 (ints .u8 z32) GR.out (by rw [ints_size, Hvl.out]; exact sizeKey) (by rw [ints_size, ints_size, Hvl.out]; rfl) (ints_one _ _) ?_))
    refine bodyPost_ret (results_cell_row rfl _ _ (w.heap.size + 1 + 1) 28 (ints .u8 V) (0, 0) _ rfl (setRow_heap _ _ (ints .u8 z32) _ _ _ GR.out) Try.underlying28 rfl (by rw [ints_size, Hvl.out]; exact sizeKey)) rfl ⟨rfl, ?_⟩
    exact Below.setRow (BW.out.trans (CF.out.mono BW.out.size)) (by omega) _
end Go.Proofs.Ytjijgckljjcfiaa
