/- FeedHasher: the program's part. -/
import Derived.Test.YtabepfdononppaaKeyOf
import Derived.Test.YtabepfdononppaaMarkO
import Derived.Test.YtabepfdononppaaBlocks
namespace Go.Proofs.Ytabepfdononppaa
open Go.ChangeShapes Go.WideShapes Go.ChangeAt Go.RowKit
set_option linter.unusedVariables false
/-- What is held behind further bytes, and the state. -/
def fedS (st A : List Int) : List Int := mixB st (A.take (32 * (A.length / 32))) (A.length / 32)
def fedT (A : List Int) : List Int := A.drop (32 * (A.length / 32))
set_option maxRecDepth 100000 in
set_option maxHeartbeats 1000000 in
theorem clone0 (w : World) : Calls Try.prog 122 #[.slice none 0 0] w fun e w' => e = .returned (.slice none 0 0) ∧ Below w.heap.size w w' := by
  have heq : ∀ W, (binOp .eql 41 (.slice none 0 0) (.slice none 0 0)).run Try.prog W = .ok (.bool true) W := fun W => by
    simp [binOp, go_sem, run_equal_slice_nil W 41 5 none 0 0 Try.underlying41]
  go_enter Try.func122, Try.ntmps122
  go_wp2_with fail
  go_ret
  exact ⟨rfl, Below.refl _ _⟩
theorem owns_setRow' {g base e n size : Nat} {w : World} {v : Value} {xs : List Value} {cs : Array Value} (hb : g < base) (o : w.ownsRow base e size v n xs) : (w.setRow g cs).ownsRow base e size v n xs := by
  refine ⟨o.1, ?_⟩
  rcases o.2 with h0 | ⟨c, cap, cur, hv, hc, hh, r⟩
  · exact Or.inl h0
  · exact Or.inr ⟨c, cap, cur, hv, hc, (setRow_other _ _ _ _ (by omega)).trans hh, r⟩
theorem owns_slc4 {w : World} {base size n : Nat} {e : TypeId} {v : Value} {xs : List Value} (h : w.ownsRow base e size v n xs) : ∃ a cap, v = .slice a n cap := by
  rcases h.2 with ⟨rfl, rfl⟩ | ⟨g, cap, cur, rfl, _⟩
  · exact ⟨none, 0, rfl⟩
  · exact ⟨_, cap, rfl⟩
theorem rds_pair {w : World} {a b : Option Addr} {n cap k kap : Nat} {l d : List Int} (h : Rd .u8 w a n l) (h2 : Rd .u8 w b k d) :
    RdS (w.alloc (.cells #[.slice a n cap, .slice b k kap] 41)) (some ⟨w.heap.size, 0, none⟩) 2 [l, d] := by
  have hg := heap_alloc_last w (.cells #[.slice a n cap, .slice b k kap] 41)
  refine ⟨rfl, Or.inr ⟨w.heap.size, 0, rfl, by simp, fun j hj => ?_⟩⟩
  match j, hj with
  | 0, _ => exact ⟨a, n, cap, by rw [cell_of_row _ _ _ _ _ _ hg]; rfl, h.below ((Below.refl w.heap.size w).alloc (Nat.le_refl _) _)⟩
  | 1, _ => exact ⟨b, k, kap, by rw [cell_of_row _ _ _ _ _ _ hg]; rfl, h2.below ((Below.refl w.heap.size w).alloc (Nat.le_refl _) _)⟩
  | j + 2, hj => simp at hj; omega
set_option maxRecDepth 100000 in
set_option maxHeartbeats 2000000 in
theorem fed_impl (x0 x1 x2 x3 x4 x5 x6 x7 : Int) (a b : Option Addr) (n cap k kap : Nat) (l d : List Int) (c : Int) (sr : W32 [x0, x1, x2, x3, x4, x5, x6, x7]) (fl : ∀ z ∈ l, 0 ≤ z ∧ z ≤ 255) (fd : ∀ z ∈ d, 0 ≤ z ∧ z ≤ 255) (hn : n ≤ 1048576) (hk : k ≤ 1048576) (c0 : 0 ≤ c) (c1 : c ≤ 1000000000) (w : World) (hr : Rd .u8 w a n l) (hd : Rd .u8 w b k d) :
    Calls Try.prog 109 #[.agg #[.int .u32 x0, .int .u32 x1, .int .u32 x2, .int .u32 x3, .int .u32 x4, .int .u32 x5, .int .u32 x6, .int .u32 x7, .slice a n cap, .int .i64 c], .slice b k kap] w fun e w' => ∃ y0 y1 y2 y3 y4 y5 y6 y7 v, fedS [x0, x1, x2, x3, x4, x5, x6, x7] (l ++ d) = [y0, y1, y2, y3, y4, y5, y6, y7] ∧ e = .returned (.agg #[.int .u32 y0, .int .u32 y1, .int .u32 y2, .int .u32 y3, .int .u32 y4, .int .u32 y5, .int .u32 y6, .int .u32 y7, v, .int .i64 (c + k)]) ∧ w'.ownsRow w.heap.size 5 1 v (fedT (l ++ d)).length ((fedT (l ++ d)).map (Value.int .u8)) ∧ Below w.heap.size w w' := by
  have Hln : l.length = n := hr.1
  have Hdn : d.length = k := hd.1
  have HBZ := Lib.hid (((Below.refl w.heap.size w).alloc (Nat.le_refl _) (.cells #[.int .u32 x0, .int .u32 x1, .int .u32 x2, .int .u32 x3, .int .u32 x4, .int .u32 x5, .int .u32 x6, .int .u32 x7, .slice a n cap, .int .i64 c] 134)).alloc (by simp) (.cells #[.int .u32 0, .int .u32 0, .int .u32 0, .int .u32 0, .int .u32 0, .int .u32 0, .int .u32 0, .int .u32 0, .slice none 0 0, .int .i64 0] 134))
  have G1 := Lib.hid (heap_alloc2_old w (.cells #[.int .u32 x0, .int .u32 x1, .int .u32 x2, .int .u32 x3, .int .u32 x4, .int .u32 x5, .int .u32 x6, .int .u32 x7, .slice a n cap, .int .i64 c] 134) (.cells #[.int .u32 0, .int .u32 0, .int .u32 0, .int .u32 0, .int .u32 0, .int .u32 0, .int .u32 0, .int .u32 0, .slice none 0 0, .int .i64 0] 134))
  have G2 := Lib.hid (heap_alloc2_new w (.cells #[.int .u32 x0, .int .u32 x1, .int .u32 x2, .int .u32 x3, .int .u32 x4, .int .u32 x5, .int .u32 x6, .int .u32 x7, .slice a n cap, .int .i64 c] 134) (.cells #[.int .u32 0, .int .u32 0, .int .u32 0, .int .u32 0, .int .u32 0, .int .u32 0, .int .u32 0, .int .u32 0, .slice none 0 0, .int .i64 0] 134))
  have Hcon := Lib.hid (concat_impl (some ⟨w.heap.size + 1 + 1, 0, none⟩) 2 2 [l, d] (by omega) (by simp; omega) (((w.alloc (.cells #[.int .u32 x0, .int .u32 x1, .int .u32 x2, .int .u32 x3, .int .u32 x4, .int .u32 x5, .int .u32 x6, .int .u32 x7, .slice a n cap, .int .i64 c] 134)).alloc (.cells #[.int .u32 0, .int .u32 0, .int .u32 0, .int .u32 0, .int .u32 0, .int .u32 0, .int .u32 0, .int .u32 0, .slice none 0 0, .int .i64 0] 134)).alloc (.cells #[.slice a n cap, .slice b k kap] 41)) (by
    have h := rds_pair (cap := cap) (kap := kap) (hr.below HBZ.out) (hd.below HBZ.out)
    rw [World.size_alloc, World.size_alloc] at h
    exact h))
  have HB3 := Lib.hid (HBZ.out.alloc HBZ.out.size (.cells #[.slice a n cap, .slice b k kap] 41))
  have G1' := Lib.hid ((Below.heap_alloc _ (.cells #[.slice a n cap, .slice b k kap] 41) _ (Array.getElem?_eq_some_iff.1 G1.out).1).trans G1.out)
  have G2' := Lib.hid ((Below.heap_alloc _ (.cells #[.slice a n cap, .slice b k kap] 41) _ (Array.getElem?_eq_some_iff.1 G2.out).1).trans G2.out)
  have HA : Hid ([l, d].flatten = l ++ d) := Lib.hid (by simp)
  rw [HA.out] at Hcon
  have HAl : Hid ((l ++ d).length = n + k) := Lib.hid (by simp; omega)
  have HAr : Hid (∀ z ∈ l ++ d, 0 ≤ z ∧ z ≤ 255) := Lib.hid (fun z hz => by
    rcases List.mem_append.1 hz with h | h
    · exact fl z h
    · exact fd z h)
  clear hr hd HBZ G1 G2 HA Hln Hdn fl fd
  generalize l ++ d = A at Hcon HAl HAr
  go_enter Try.func109, Try.ntmps109
  go_wp2_with fail
  refine Hcon.out.mono ?_
  rintro e w4 ⟨v4, rfl, hown, hb⟩
  have B4 := Lib.hid (below_call HB3.out HB3.out.size hb)
  have C4 := Lib.hid (keep_block G1'.out hb)
  have Z4 := Lib.hid (keep_block G2'.out hb)
  have O4 := Lib.hid (owns_base HB3.out.size hown)
  obtain ⟨a4, c4, rfl⟩ := owns_slc4 hown
  clear hb hown Hcon G1' G2' HB3
  rw [HAl.out] at O4 ⊢
  go_wp2_with fail
  obtain ⟨Q, hQ⟩ : ∃ Q : Nat, (n : Int) + (k : Int) - ((n : Int) + (k : Int)) % 32 = (Q : Int) := ⟨n + k - (n + k) % 32, by omega⟩
  rw [hQ]
  have hQ1 : Q ≤ n + k := by omega
  rcases O4.out.2 with ⟨hv, hz⟩ | ⟨g, c5, cur, hv, hbg, hgg, hcc, hcm, hcs, hct⟩
  · obtain ⟨rfl, hnk, rfl⟩ : a4 = none ∧ n + k = 0 ∧ c4 = 0 := by simpa using hv
    clear hv
    obtain rfl : Q = 0 := by omega
    obtain rfl : A = [] := List.eq_nil_of_length_eq_zero (by rw [HAl.out]; exact hnk)
    have HT2 : Hid (fedT [] = []) := Lib.hid rfl
    have Hblk := Lib.hid (fun (W : World) => blocks_impl none 0 0 0 0 [] (by omega) (Or.inl rfl) (by omega) (by simp [maxLen]) rfl W (Or.inl rfl) (fun j hj => by omega))
    have HHl : Hid (([] : List Int).length = 32 * 0) := Lib.hid rfl
    have Hmix := Lib.hid (fun a' cap' W h => mixbs_impl a' 0 cap' [x0, x1, x2, x3, x4, x5, x6, x7] [] sr (by simp) (by omega) W h)
    have e8 : ints .u32 [x0, x1, x2, x3, x4, x5, x6, x7] = #[.int .u32 x0, .int .u32 x1, .int .u32 x2, .int .u32 x3, .int .u32 x4, .int .u32 x5, .int .u32 x6, .int .u32 x7] := rfl
    rw [e8] at Hmix
    obtain ⟨y0, y1, y2, y3, y4, y5, y6, y7, hy⟩ := list8 (mixB_ok (L := []) sr 0).1
    rw [hy] at Hmix
    have e9 : ints .u32 [y0, y1, y2, y3, y4, y5, y6, y7] = #[.int .u32 y0, .int .u32 y1, .int .u32 y2, .int .u32 y3, .int .u32 y4, .int .u32 y5, .int .u32 y6, .int .u32 y7] := rfl
    rw [e9] at Hmix
    have HY : Hid (fedS [x0, x1, x2, x3, x4, x5, x6, x7] [] = [y0, y1, y2, y3, y4, y5, y6, y7]) := Lib.hid hy
    clear hy e8 e9 HAr
    have hck : IntKind.i64.wrap (c + (k : Int)) = c + (k : Int) := by rw [IntKind.wrap_i64]; omega
    obtain rfl : n = 0 := by omega
    obtain rfl : k = 0 := by omega
    clear hck
    have hck : IntKind.i64.wrap c = c := by rw [IntKind.wrap_i64]; omega
    simp only [Nat.add_zero, Int.ofNat_zero]
    refine wp_region_held_drew (S := fun W => Below w.heap.size w W ∧ W.heap[w.heap.size]? = some (.cells #[.int .u32 x0, .int .u32 x1, .int .u32 x2, .int .u32 x3, .int .u32 x4, .int .u32 x5, .int .u32 x6, .int .u32 x7, .slice a 0 cap, .int .i64 c] 134)) (by kernel_rfl) ⟨B4.out.drew, C4.out⟩ (fun hS => ?_)
    refine take_at (i := 0) (v := .pointer (some ⟨w.heap.size, 0, none⟩)) rfl rfl (by kernel_rfl) (by kernel_rfl) (by kernel_rfl) (fun _ _ _ h => h) (Or.inl ⟨by rfl, fun W hW => by go_simp⟩) hS ?_
    refine take_at (i := 1) (v := .agg #[.int .u32 x0, .int .u32 x1, .int .u32 x2, .int .u32 x3, .int .u32 x4, .int .u32 x5, .int .u32 x6, .int .u32 x7]) rfl rfl (by kernel_rfl) (by kernel_rfl) (by kernel_rfl) (fun _ _ _ h => h) (yieldsIf_load_mid (by rfl) 129 _ rfl w.heap.size 0 rfl [.int .u32 x0, .int .u32 x1, .int .u32 x2, .int .u32 x3, .int .u32 x4, .int .u32 x5, .int .u32 x6, .int .u32 x7] _ (fun W hW => head8 hW.2) Try.underlying129 rfl sizeA8) hS ?_
    refine take_at (i := 2) (v := .slice none 0 0) rfl rfl (by kernel_rfl) (by kernel_rfl) (by kernel_rfl) (fun _ _ _ h => h) (Or.inl ⟨by rfl, fun W hW => by go_simp⟩) hS ?_
    refine take_at (i := 3) (v := .int .i64 (0 : Int)) rfl rfl (by kernel_rfl) (by kernel_rfl) (by kernel_rfl) (fun _ _ _ h => h) (Or.inl ⟨by rfl, fun W hW => by go_simp⟩) hS ?_
    refine take_at (i := 4) (v := .slice none 0 0) rfl rfl (by kernel_rfl) (by kernel_rfl) (by kernel_rfl) (fun _ _ _ h => h) (Or.inl ⟨by rfl, fun W hW => by go_simp⟩) hS ?_
    refine take_at (i := 7) (v := .slice none 0 0) rfl rfl (by kernel_rfl) (by kernel_rfl) (by kernel_rfl) (fun _ _ _ h => h) (Or.inl ⟨by rfl, fun W hW => by go_simp⟩) hS ?_
    refine take_at (i := 8) (v := .int .i64 (0 : Int)) rfl rfl (by kernel_rfl) (by kernel_rfl) (by kernel_rfl) (fun _ _ _ h => h) (Or.inl ⟨by rfl, fun W hW => by go_simp⟩) hS ?_
    refine take_at (i := 9) (v := .slice none 0 0) rfl rfl (by kernel_rfl) (by kernel_rfl) (by kernel_rfl) (fun _ _ _ h => h) (Or.inl ⟨by rfl, fun W hW => by go_simp⟩) hS ?_
    refine take_at (i := 11) (v := .pointer (some ⟨w.heap.size, 9, none⟩)) rfl rfl (by kernel_rfl) (by kernel_rfl) (by kernel_rfl) (fun _ _ _ h => h) (Or.inl ⟨by rfl, fun W hW => by go_simp⟩) hS ?_
    refine take_at (i := 12) (v := .int .i64 c) rfl rfl (by kernel_rfl) (by kernel_rfl) (by kernel_rfl) (fun _ _ _ h => h) (Or.inl ⟨by rfl, fun W hW => by
      have hc := cell_of_row W w.heap.size 9 _ _ _ hW.2
      have hc' : W.cell? ⟨w.heap.size, 9, none⟩ = some (.int .i64 c) := hc
      go_simp⟩) hS ?_
    refine take_at (i := 13) (v := .slice b 0 kap) rfl rfl (by kernel_rfl) (by kernel_rfl) (by kernel_rfl) (fun _ _ _ h => h) (Or.inl ⟨by rfl, fun W hW => by go_simp⟩) hS ?_
    refine take_at (i := 14) (v := .int .i64 (0 : Int)) rfl rfl (by kernel_rfl) (by kernel_rfl) (by kernel_rfl) (fun _ _ _ h => h) (Or.inl ⟨by rfl, fun W hW => by go_simp⟩) hS ?_
    refine take_at (i := 15) (v := .int .i64 c) rfl rfl (by kernel_rfl) (by kernel_rfl) (by kernel_rfl) (fun _ _ _ h => h) (Or.inl ⟨by rfl, fun W hW => by go_simp⟩) hS ?_
    simp only [List.setIfInBounds_toArray, List.set_cons_zero, List.set_cons_succ]
    refine wpAnyH_ready (rs := [5]) (by kernel_rfl) (by simp) ?_
    refine AllReadyH.cons rfl (fun K' hK => ?_) AllReadyH.nil
    rw [if_pos (by rfl)]
    go_simp
    refine (Hblk.out w4.drew).mono ?_
    rintro e u1 ⟨v1, rfl, hown, hb⟩
    obtain ⟨a1, k1, rfl, hrd⟩ := RdK.owned HHl.out hown
    have R1 := Lib.hid hrd
    clear hown hrd
    have Z1 := Lib.hid (keep_block (w := w4.drew) Z4.out hb)
    refine hK.out _ _ ⟨below_call hS.1 hS.1.size hb, keep_block hS.2 hb⟩ (fun hS => ?_)
    clear hb hK
    refine wpAnyH_ready (rs := [6]) (by kernel_rfl) (by simp) ?_
    refine AllReadyH.cons rfl (fun K' hK => ?_) AllReadyH.nil
    rw [if_pos (by rfl)]
    go_simp
    refine (Hmix.out _ _ _ R1.out).mono ?_
    rintro e u2 ⟨rfl, hb⟩
    have Z2 := Lib.hid (keep_block Z1.out hb)
    refine hK.out _ _ ⟨below_call hS.1 hS.1.size hb, keep_block hS.2 hb⟩ (fun hS => ?_)
    clear hb hK
    refine wpAnyH_ready (rs := [10]) (by kernel_rfl) (by simp) ?_
    refine AllReadyH.cons rfl (fun K' hK => ?_) AllReadyH.nil
    rw [if_pos (by rfl)]
    go_simp
    refine (clone0 _).mono ?_
    rintro e u3 ⟨rfl, hb⟩
    have Z3 := Lib.hid (keep_block Z2.out hb)
    refine hK.out _ _ ⟨below_call hS.1 hS.1.size hb, keep_block hS.2 hb⟩ (fun hS => ?_)
    clear hb hK
    refine wpAnyH_ready (rs := [16]) (by kernel_rfl) (by simp) ?_
    refine AllReadyH.cons rfl (fun K' hK => ?_) AllReadyH.nil
    rw [if_pos (by rfl)]
    go_simp
    refine hK.out _ _ hS (fun hS => ?_)
    clear hK
    refine wpAnyH_ready (rs := [17]) (by kernel_rfl) (by simp) ?_
    refine AllReadyH.cons rfl (fun K' hK => ?_) AllReadyH.nil
    rw [if_pos (by rfl)]
    refine wp_store_row (o := ⟨none, _, _, _, _, _⟩) 134 _ _ rfl (w.heap.size + 1) #[.int .u32 y0, .int .u32 y1, .int .u32 y2, .int .u32 y3, .int .u32 y4, .int .u32 y5, .int .u32 y6, .int .u32 y7, .slice none 0 0, .int .i64 c] rfl rfl 134 #[.int .u32 0, .int .u32 0, .int .u32 0, .int .u32 0, .int .u32 0, .int .u32 0, .int .u32 0, .int .u32 0, .slice none 0 0, .int .i64 0] Z3.out sizeHi rfl (by simp [Value.oneCell']) ?_
    simp only [Act.put]
    refine hK.out _ _ ⟨Below.setRow hS.1 (by omega) _, by rw [setRow_other _ _ _ _ (by omega)]; exact hS.2⟩ (fun hS => ?_)
    refine wpAnyH_done (by kernel_rfl) ?_ _
    have B9 := Lib.hid hS.1
    clear hS hK
    go_wp2_with fail
    refine bodyPost_ret (results_cell_row rfl _ _ (w.heap.size + 1) 134 #[.int .u32 y0, .int .u32 y1, .int .u32 y2, .int .u32 y3, .int .u32 y4, .int .u32 y5, .int .u32 y6, .int .u32 y7, .slice none 0 0, .int .i64 c] (0, 0) _ rfl (setRow_heap _ _ #[.int .u32 0, .int .u32 0, .int .u32 0, .int .u32 0, .int .u32 0, .int .u32 0, .int .u32 0, .int .u32 0, .slice none 0 0, .int .i64 0] _ _ _ Z3.out) Try.underlying134 rfl sizeHi) rfl ?_
    first
      | refine ⟨y0, y1, y2, y3, y4, y5, y6, y7, .slice none 0 0, HY.out, by simp, ?_, B9.out⟩
      | refine ⟨y0, y1, y2, y3, y4, y5, y6, y7, HY.out, .slice none 0 0, by simp, ?_, B9.out⟩
    rw [HT2.out]
    exact World.ownsRow_nil _ _ _ _
  cases hv
  obtain ⟨M, hM⟩ : ∃ M : Nat, 32 * M = Q := ⟨(n + k) / 32, by omega⟩
  have hMA : A.length / 32 = M := by rw [HAl.out]; omega
  have HMA := Lib.hid hMA
  have hcur : ∀ j, j < n + k → cur[j]? = some (.int .u8 (A[j]?.getD 0)) := fun j hj => by
    have h1 : (cur.toList.take ((n + k) * 1))[j]? = (A.map (Value.int .u8))[j]? := by rw [hct]
    rw [List.getElem?_take_of_lt (by omega), List.getElem?_map, List.getElem?_eq_getElem (l := A) (by rw [HAl.out]; exact hj)] at h1
    rw [List.getElem?_eq_getElem (l := A) (by rw [HAl.out]; exact hj)]
    simpa using h1
  have Gg := Lib.hid hgg
  have HTl : Hid ((A.drop Q).length = n + k - Q) := Lib.hid (by simp; rw [HAl.out])
  have HHl : Hid ((A.take Q).length = 32 * M) := Lib.hid (by simp; rw [HAl.out]; omega)
  have HHr : Hid (∀ z ∈ A.take Q, 0 ≤ z ∧ z ≤ 255) := Lib.hid (fun z hz => HAr.out z (List.mem_of_mem_take hz))
  have Hblk := Lib.hid (fun (W : World) (hW : W.heap[g]? = some (.cells cur 5)) => by
    have h := blocks_impl (some ⟨g, 0, none⟩) g 0 M c4 (A.take Q) (by omega) (Or.inr rfl) (by omega) hcm HHl.out W (Or.inr (Array.getElem?_eq_some_iff.1 hW).1) (fun j hj => by
      rw [Nat.zero_add, cell_of_row _ _ _ _ _ _ hW, hcur j (by omega), List.getElem?_take_of_lt (by omega)])
    rw [hM] at h
    exact h)
  have Hmix := Lib.hid (fun a' cap' W h => mixbs_impl a' M cap' [x0, x1, x2, x3, x4, x5, x6, x7] (A.take Q) sr HHr.out (by omega) W h)
  have e8 : ints .u32 [x0, x1, x2, x3, x4, x5, x6, x7] = #[.int .u32 x0, .int .u32 x1, .int .u32 x2, .int .u32 x3, .int .u32 x4, .int .u32 x5, .int .u32 x6, .int .u32 x7] := rfl
  rw [e8] at Hmix
  obtain ⟨y0, y1, y2, y3, y4, y5, y6, y7, hy⟩ := list8 (mixB_ok (L := A.take Q) sr M).1
  rw [hy] at Hmix
  have e9 : ints .u32 [y0, y1, y2, y3, y4, y5, y6, y7] = #[.int .u32 y0, .int .u32 y1, .int .u32 y2, .int .u32 y3, .int .u32 y4, .int .u32 y5, .int .u32 y6, .int .u32 y7] := rfl
  rw [e9] at Hmix
  have HY : Hid (fedS [x0, x1, x2, x3, x4, x5, x6, x7] A = [y0, y1, y2, y3, y4, y5, y6, y7]) := Lib.hid (by unfold fedS; rw [hMA, hM]; exact hy)
  have HT2 : Hid (fedT A = A.drop Q) := Lib.hid (by unfold fedT; rw [hMA, hM])
  have hQ2 : (Q : Int) ≤ (n : Int) + (k : Int) := by omega
  have hQ3 : Q ≤ c4 := by omega
  obtain ⟨o, ho, ho2⟩ : ∃ o : Nat, (if c4 = Q then some ⟨g, 0, none⟩ else some ⟨g, Q, none⟩) = some (⟨g, o, none⟩ : Addr) ∧ (n + k - Q = 0 ∨ o = Q) := by
    by_cases h : c4 = Q
    · exact ⟨0, if_pos h, Or.inl (by omega)⟩
    · exact ⟨Q, if_neg h, Or.inr rfl⟩
  have Hclo := Lib.hid (fun (W : World) (hW : W.heap[g]? = some (.cells cur 5)) => clone_impl g o (n + k - Q) (c4 - Q) (A.drop Q) (by omega) W ⟨HTl.out, by
    rcases ho2 with h | h
    · exact Or.inl h
    · subst h
      exact Or.inr ⟨g, o, rfl, (Array.getElem?_eq_some_iff.1 hW).1, fun j hj => by rw [cell_of_row _ _ _ _ _ _ hW, hcur (o + j) (by omega), List.getElem?_drop]⟩⟩)
  clear hct hcur hgg ho2 hMA hy e8 e9 HAr
  have hck : IntKind.i64.wrap (c + (k : Int)) = c + (k : Int) := by rw [IntKind.wrap_i64]; omega
  refine wp_region_held_drew (S := fun W => Below w.heap.size w W ∧ W.heap[w.heap.size]? = some (.cells #[.int .u32 x0, .int .u32 x1, .int .u32 x2, .int .u32 x3, .int .u32 x4, .int .u32 x5, .int .u32 x6, .int .u32 x7, .slice a n cap, .int .i64 c] 134)) (by kernel_rfl) ⟨B4.out.drew, C4.out⟩ (fun hS => ?_)
  refine take_at (i := 0) (v := .pointer (some ⟨w.heap.size, 0, none⟩)) rfl rfl (by kernel_rfl) (by kernel_rfl) (by kernel_rfl) (fun _ _ _ h => h) (Or.inl ⟨by rfl, fun W hW => by go_simp⟩) hS ?_
  refine take_at (i := 1) (v := .agg #[.int .u32 x0, .int .u32 x1, .int .u32 x2, .int .u32 x3, .int .u32 x4, .int .u32 x5, .int .u32 x6, .int .u32 x7]) rfl rfl (by kernel_rfl) (by kernel_rfl) (by kernel_rfl) (fun _ _ _ h => h) (yieldsIf_load_mid (by rfl) 129 _ rfl w.heap.size 0 rfl [.int .u32 x0, .int .u32 x1, .int .u32 x2, .int .u32 x3, .int .u32 x4, .int .u32 x5, .int .u32 x6, .int .u32 x7] _ (fun W hW => head8 hW.2) Try.underlying129 rfl sizeA8) hS ?_
  refine take_at (i := 2) (v := .slice (some ⟨g, 0, none⟩) (n + k) c4) rfl rfl (by kernel_rfl) (by kernel_rfl) (by kernel_rfl) (fun _ _ _ h => h) (Or.inl ⟨by rfl, fun W hW => by go_simp⟩) hS ?_
  refine take_at (i := 3) (v := .int .i64 (Q : Int)) rfl rfl (by kernel_rfl) (by kernel_rfl) (by kernel_rfl) (fun _ _ _ h => h) (Or.inl ⟨by rfl, fun W hW => by go_simp⟩) hS ?_
  refine take_at (i := 4) (v := .slice (some ⟨g, 0, none⟩) Q c4) rfl rfl (by kernel_rfl) (by kernel_rfl) (by kernel_rfl) (fun _ _ _ h => h) (Or.inl ⟨by rfl, fun W hW => by go_simp⟩) hS ?_
  refine take_at (i := 7) (v := .slice (some ⟨g, 0, none⟩) (n + k) c4) rfl rfl (by kernel_rfl) (by kernel_rfl) (by kernel_rfl) (fun _ _ _ h => h) (Or.inl ⟨by rfl, fun W hW => by go_simp⟩) hS ?_
  refine take_at (i := 8) (v := .int .i64 (Q : Int)) rfl rfl (by kernel_rfl) (by kernel_rfl) (by kernel_rfl) (fun _ _ _ h => h) (Or.inl ⟨by rfl, fun W hW => by go_simp⟩) hS ?_
  refine take_at (i := 9) (v := .slice (some ⟨g, o, none⟩) (n + k - Q) (c4 - Q)) rfl rfl (by kernel_rfl) (by kernel_rfl) (by kernel_rfl) (fun _ _ _ h => h) (Or.inl ⟨by rfl, fun W hW => by go_simp⟩) hS ?_
  refine take_at (i := 11) (v := .pointer (some ⟨w.heap.size, 9, none⟩)) rfl rfl (by kernel_rfl) (by kernel_rfl) (by kernel_rfl) (fun _ _ _ h => h) (Or.inl ⟨by rfl, fun W hW => by go_simp⟩) hS ?_
  refine take_at (i := 12) (v := .int .i64 c) rfl rfl (by kernel_rfl) (by kernel_rfl) (by kernel_rfl) (fun _ _ _ h => h) (Or.inl ⟨by rfl, fun W hW => by
    have hc := cell_of_row W w.heap.size 9 _ _ _ hW.2
    have hc' : W.cell? ⟨w.heap.size, 9, none⟩ = some (.int .i64 c) := hc
    go_simp⟩) hS ?_
  refine take_at (i := 13) (v := .slice b k kap) rfl rfl (by kernel_rfl) (by kernel_rfl) (by kernel_rfl) (fun _ _ _ h => h) (Or.inl ⟨by rfl, fun W hW => by go_simp⟩) hS ?_
  refine take_at (i := 14) (v := .int .i64 (k : Int)) rfl rfl (by kernel_rfl) (by kernel_rfl) (by kernel_rfl) (fun _ _ _ h => h) (Or.inl ⟨by rfl, fun W hW => by go_simp⟩) hS ?_
  refine take_at (i := 15) (v := .int .i64 (c + k)) rfl rfl (by kernel_rfl) (by kernel_rfl) (by kernel_rfl) (fun _ _ _ h => h) (Or.inl ⟨by rfl, fun W hW => by go_simp⟩) hS ?_
  simp only [List.setIfInBounds_toArray, List.set_cons_zero, List.set_cons_succ]
  refine wpAnyH_ready (rs := [5]) (by kernel_rfl) (by simp) ?_
  refine AllReadyH.cons rfl (fun K' hK => ?_) AllReadyH.nil
  rw [if_pos (by rfl)]
  go_simp
  refine (Hblk.out w4.drew Gg.out).mono ?_
  rintro e u1 ⟨v1, rfl, hown, hb⟩
  obtain ⟨a1, k1, rfl, hrd⟩ := RdK.owned HHl.out hown
  have R1 := Lib.hid hrd
  clear hown hrd
  have Gg1 := Lib.hid (keep_block (w := w4.drew) Gg.out hb)
  have Z1 := Lib.hid (keep_block (w := w4.drew) Z4.out hb)
  refine hK.out _ _ ⟨below_call hS.1 hS.1.size hb, keep_block hS.2 hb⟩ (fun hS => ?_)
  clear hb hK
  refine wpAnyH_ready (rs := [6]) (by kernel_rfl) (by simp) ?_
  refine AllReadyH.cons rfl (fun K' hK => ?_) AllReadyH.nil
  rw [if_pos (by rfl)]
  go_simp
  refine (Hmix.out _ _ _ R1.out).mono ?_
  rintro e u2 ⟨rfl, hb⟩
  have Gg2 := Lib.hid (keep_block Gg1.out hb)
  have Z2 := Lib.hid (keep_block Z1.out hb)
  refine hK.out _ _ ⟨below_call hS.1 hS.1.size hb, keep_block hS.2 hb⟩ (fun hS => ?_)
  clear hb hK
  refine wpAnyH_ready (rs := [10]) (by kernel_rfl) (by simp) ?_
  refine AllReadyH.cons rfl (fun K' hK => ?_) AllReadyH.nil
  rw [if_pos (by rfl)]
  go_simp
  refine (Hclo.out _ Gg2.out).mono ?_
  rintro e u3 ⟨v3, rfl, hown, hb⟩
  have Z3 := Lib.hid (keep_block Z2.out hb)
  have O3 := Lib.hid (owns_base (show w.heap.size + 2 ≤ _ from (Array.getElem?_eq_some_iff.1 Z2.out).1) hown)
  obtain ⟨a3, k3, rfl⟩ := owns_slc4 hown
  refine hK.out _ _ ⟨below_call hS.1 hS.1.size hb, keep_block hS.2 hb⟩ (fun hS => ?_)
  clear hb hK hown
  refine wpAnyH_ready (rs := [16]) (by kernel_rfl) (by simp) ?_
  refine AllReadyH.cons rfl (fun K' hK => ?_) AllReadyH.nil
  rw [if_pos (by rfl)]
  go_simp
  refine hK.out _ _ hS (fun hS => ?_)
  clear hK
  refine wpAnyH_ready (rs := [17]) (by kernel_rfl) (by simp) ?_
  refine AllReadyH.cons rfl (fun K' hK => ?_) AllReadyH.nil
  rw [if_pos (by rfl)]
  refine wp_store_row (o := ⟨none, _, _, _, _, _⟩) 134 _ _ rfl (w.heap.size + 1) #[.int .u32 y0, .int .u32 y1, .int .u32 y2, .int .u32 y3, .int .u32 y4, .int .u32 y5, .int .u32 y6, .int .u32 y7, .slice a3 (n + k - Q) k3, .int .i64 (c + k)] rfl rfl 134 #[.int .u32 0, .int .u32 0, .int .u32 0, .int .u32 0, .int .u32 0, .int .u32 0, .int .u32 0, .int .u32 0, .slice none 0 0, .int .i64 0] Z3.out sizeHi rfl (by simp [Value.oneCell']) ?_
  simp only [Act.put]
  refine hK.out _ _ ⟨Below.setRow hS.1 (by omega) _, by rw [setRow_other _ _ _ _ (by omega)]; exact hS.2⟩ (fun hS => ?_)
  refine wpAnyH_done (by kernel_rfl) ?_ _
  have B9 := Lib.hid hS.1
  clear hS hK
  go_wp2_with fail
  refine bodyPost_ret (results_cell_row rfl _ _ (w.heap.size + 1) 134 #[.int .u32 y0, .int .u32 y1, .int .u32 y2, .int .u32 y3, .int .u32 y4, .int .u32 y5, .int .u32 y6, .int .u32 y7, .slice a3 (n + k - Q) k3, .int .i64 (c + k)] (0, 0) _ rfl (setRow_heap _ _ #[.int .u32 0, .int .u32 0, .int .u32 0, .int .u32 0, .int .u32 0, .int .u32 0, .int .u32 0, .int .u32 0, .slice none 0 0, .int .i64 0] _ _ _ Z3.out) Try.underlying134 rfl sizeHi) rfl ⟨y0, y1, y2, y3, y4, y5, y6, y7, _, HY.out, rfl, ?_, B9.out⟩
  rw [HT2.out, HTl.out]
  exact owns_base (show w.heap.size ≤ w.heap.size + 2 by omega) (owns_setRow' (by omega) O3.out)
end Go.Proofs.Ytabepfdononppaa
