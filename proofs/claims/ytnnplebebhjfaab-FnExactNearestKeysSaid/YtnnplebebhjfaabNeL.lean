/- The statement on FnExactNearestKeys: its walk. Written by wip/gen/klist.py. -/
import Derived.Test.YtnnplebebhjfaabNeP
import Derived.Test.YtnnplebebhjfaabKeysM
import Derived.Test.YtnnplebebhjfaabBlocks
namespace Go.Proofs.Ytnnplebebhjfaab
open Go.ChangeShapes Go.WideShapes Go.ChangeAt Go.RowKit
theorem take_atN {P : Program} {ops : Array Oper} {Q : Exit → Act → World → Prop} {md : Region.Mode} {S : World → Prop} {i : Nat} {d : Tmp} {oi : Oper} {v : Value} {fuel : Nat} {listed : Array Bool} {ts : Array Value} {ds : List Deferred} {w : World}
    (hi : ops[i]? = some oi) (hd : oi.dst = some d) (hs : Region.noSelect ops = true) (hf : Region.free md ops listed i = true) (hr : (Region.ready md ops listed).contains i = true)
    (hQ : ∀ c a w, Q (.panic c) (a.put oi.dst v) w → Q (.panic c) a w) (hy : YieldsIf P ops S oi v ⟨ts, ds⟩) (hS : S w)
    (h : wpAnyH P md ops Q S fuel (listed.setIfInBounds i true) ⟨ts.setIfInBounds d v, ds⟩ w) : wpAnyH P md ops Q S (fuel + 1) listed ⟨ts, ds⟩ w :=
  wpAnyH_take hi hs hf hr hQ hy hS (by rw [hd]; exact h)
theorem wf_i64_inv {z : Int} (h : (Lit.int .i64 z).wf = true) : -9223372036854775808 ≤ z ∧ z ≤ 9223372036854775807 := by
  have e0 : IntKind.i64.min = -9223372036854775808 := rfl
  have e1 : IntKind.i64.max = 9223372036854775807 := rfl
  simp [Lit.wf, e0, e1] at h
  omega
set_option linter.unusedVariables false
set_option maxRecDepth 100000 in
set_option maxHeartbeats 8000000 in
theorem FnExactNearestKeys_in (a : Option Addr) (n cap : Nat) (key : List Int) (c : Int) (N : Nat) (fl L : List Int) (E : Int) (hN : N ≤ 1048576) (hL : L.length = 32 * N) (hn : n ≤ 1048576) (w : World) (hr : RdK w a n fl) (hkey : key.length = 32)
    (hs : ∀ (W : World) (b : Option Addr), RdK W b n fl → Calls Try.prog 28 #[.slice b n n, .agg (ints .u8 key), .int .i64 c] W fun e w' => ∃ v, e = .returned (.tuple #[v, .int .i64 E]) ∧ w'.ownsRow W.heap.size 44 32 v N (L.map (Value.int .u8)) ∧ Below W.heap.size W w')
    (hi : ∀ (W : World) (b : Option Addr), RdK W b n fl → Calls Try.prog 30 #[.slice b n n, .agg (ints .u8 key), .int .i64 c] W fun e w' => ∃ v, e = .returned (.tuple #[v, .int .i64 E]) ∧ w'.ownsRow W.heap.size 44 32 v N (L.map (Value.int .u8)) ∧ Below W.heap.size W w') :
    Calls Try.prog 6 #[.slice a n cap, .agg (ints .u8 key), .int .i64 c] w fun e w' => e = .returned (.bool true) ∧ Below w.heap.size w w' := by
  have Hr := Lib.hid hr
  have HL := Lib.hid hL
  have HK := Lib.hid hkey
  have Hs := Lib.hid hs
  have Hi := Lib.hid hi
  have Hl := Lib.hid hr.1
  clear hr hs hi hL hkey
  go_enter Try.func6, Try.ntmps6
  go_wp2_with fail
  refine (szKS_in a n cap 1048576 (by omega) (by omega) (by omega) _).mono ?_
  rintro e v0 ⟨rfl, rfl⟩
  go_wp2_with fail
  have A0 := Lib.hid (heap_alloc_last w (.cells (ints .u8 key) 43))
  have L0 := Lib.hid (show Below w.heap.size w (w.alloc (.cells (ints .u8 key) 43)) by go_grown)
  have Z0 := Lib.hid (show w.heap.size < (w.alloc (.cells (ints .u8 key) 43)).heap.size from by rw [World.size_alloc]; omega)
  generalize w.alloc (.cells (ints .u8 key) 43) = w0 at A0 L0 Z0 ⊢
  refine wp_region_held_drew (S := Below w0.heap.size w0) (by kernel_rfl) ((Below.refl _ _).drew) (fun hS => ?_)
  refine take_atN (i := 0) (v := .slice a n cap) rfl rfl (by kernel_rfl) (by kernel_rfl) (by kernel_rfl) (fun _ _ _ h => h) (Or.inl ⟨by kernel_rfl, fun W hW => by go_simp⟩) hS ?_
  refine take_atN (i := 2) (v := .agg (ints .u8 key)) rfl rfl (by kernel_rfl) (by kernel_rfl) (by kernel_rfl) (fun _ _ _ h => h) (yields_box (by kernel_rfl) 43 _ rfl w.heap.size rfl _ 43 _ A0.out Try.underlying43 rfl (by rw [ints_size, HK.out]; exact sizeA32)) hS ?_
  refine take_atN (i := 4) (v := .int .i64 c) rfl rfl (by kernel_rfl) (by kernel_rfl) (by kernel_rfl) (fun _ _ _ h => h) (Or.inl ⟨by kernel_rfl, fun W hW => by go_simp⟩) hS ?_
  simp only [List.setIfInBounds_toArray, List.set_cons_zero, List.set_cons_succ]
  refine wpAnyH_ready (rs := [1]) (by kernel_rfl) (by simp) ?_
  refine AllReadyH.cons rfl (fun KQ hKQ => ?_) AllReadyH.nil
  rw [if_pos (by kernel_rfl)]
  go_simp
  refine (toKS a n cap fl hn _ (Hr.out.below (L0.out.trans (hS.mono L0.out.size)))).mono ?_
  rintro e w31 ⟨rfl, hg, hb⟩
  simp only [World.size_drew] at hg
  have S1 := below_call hS hS.size hb
  refine hKQ.out _ _ S1 (fun hS => ?_)
  clear hb hKQ
  refine wpAnyH_ready (rs := [3]) (by kernel_rfl) (by simp) ?_
  refine AllReadyH.cons rfl (fun KQ hKQ => ?_) AllReadyH.nil
  rw [if_pos (by kernel_rfl)]
  go_simp
  refine (toKey_ key HK.out _).mono ?_
  rintro e w32 ⟨rfl, hb⟩
  have hg2 := keep_block hg hb
  refine hKQ.out _ _ (below_call hS hS.size hb) (fun hS => ?_)
  clear hb hKQ
  refine wpAnyH_ready (rs := [5]) (by kernel_rfl) (by simp) ?_
  refine AllReadyH.cons rfl (fun KQ hKQ => ?_) AllReadyH.nil
  rw [if_pos (by kernel_rfl)]
  go_simp
  refine (Hs.out _ _ (RdK.row Hl.out hg2)).mono ?_
  rintro e w3 ⟨v3, rfl, hown, hb⟩
  obtain ⟨a3, c3, rfl, R3⟩ := RdK.owned HL.out hown
  refine hKQ.out _ _ (below_call hS hS.size hb) (fun hS => ?_)
  clear hb hKQ hg hg2 S1 hown
  refine take_atN (i := 6) (v := .tuple #[.slice a3 N c3, .int .i64 E]) rfl rfl (by kernel_rfl) (by kernel_rfl) (by kernel_rfl) (fun _ _ _ h => h) (Or.inl ⟨by kernel_rfl, fun W hW => by go_simp⟩) hS ?_
  refine take_atN (i := 7) (v := .slice a3 N c3) rfl rfl (by kernel_rfl) (by kernel_rfl) (by kernel_rfl) (fun _ _ _ h => h) (Or.inl ⟨by kernel_rfl, fun W hW => by go_simp⟩) hS ?_
  refine take_atN (i := 8) (v := .int .i64 E) rfl rfl (by kernel_rfl) (by kernel_rfl) (by kernel_rfl) (fun _ _ _ h => h) (Or.inl ⟨by kernel_rfl, fun W hW => by go_simp⟩) hS ?_
  refine take_atN (i := 9) (v := .slice a3 N c3) rfl rfl (by kernel_rfl) (by kernel_rfl) (by kernel_rfl) (fun _ _ _ h => h) (Or.inl ⟨by kernel_rfl, fun W hW => by go_simp⟩) hS ?_
  refine take_atN (i := 10) (v := .int .i64 E) rfl rfl (by kernel_rfl) (by kernel_rfl) (by kernel_rfl) (fun _ _ _ h => h) (Or.inl ⟨by kernel_rfl, fun W hW => by go_simp⟩) hS ?_
  refine wpAnyH_done (by kernel_rfl) ?_ _
  simp only [List.setIfInBounds_toArray, List.set_cons_zero, List.set_cons_succ]
  have R3 := Lib.hid R3
  have L3 := Lib.hid (L0.out.trans (hS.mono L0.out.size))
  have A3 := Lib.hid (keep_block A0.out hS)
  have Z3 := Lib.hid (Nat.lt_of_lt_of_le Z0.out hS.size)
  clear hS A0 L0 Z0
  go_wp2_with fail
  refine (toKS a n cap fl hn _ (Hr.out.below L3.out)).mono ?_
  rintro e w4 ⟨rfl, hg, hb⟩
  have X4 := Lib.hid hg
  have T4 := Lib.hid hb
  have HR4 := Lib.hid (RdK.row Hl.out hg)
  have HX4 : Hid (w3.heap.size < w4.heap.size) := Lib.hid (Array.getElem?_eq_some_iff.1 hg).1
  clear hg hb
  have A4 := Lib.hid ((T4.out.block w.heap.size Z3.out).trans A3.out)
  go_wp2_with (refine wpList_load_row rfl 43 _ rfl w.heap.size rfl 43 (ints .u8 key) (0, 0) _ A4.out Try.underlying43 rfl (by rw [ints_size, HK.out]; exact sizeA32) ?_)
  refine (toKey_ key HK.out _).mono ?_
  rintro e w4b ⟨rfl, hb⟩
  have T4 := Lib.hid (below_call T4.out T4.out.size hb)
  have X4 := Lib.hid (keep_block X4.out hb)
  have HR4 := Lib.hid (HR4.out.below hb)
  have HX4 := Lib.hid (Nat.lt_of_lt_of_le HX4.out hb.size)
  clear hb A4
  go_wp2_with fail
  refine (Hi.out _ _ HR4.out).mono ?_
  rintro e w5 ⟨v5, rfl, hown, hb⟩
  have T5 := Lib.hid (below_call T4.out T4.out.size hb)
  have X5 := Lib.hid (keep_block X4.out hb)
  obtain ⟨a5, c5, rfl, R5⟩ := RdK.owned HL.out hown
  have O5 := Lib.hid hown
  clear hb hown R5
  go_wp2_with fail
  refine (eqKS a5 a3 N c5 c3 L hN _ (rdk_of_owned HL.out O5.out) (R3.out.below T5.out)).mono ?_
  rintro e w6 ⟨rfl, hb⟩
  have T6 := Lib.hid (below_call T5.out T5.out.size hb)
  have O6 := Lib.hid (owns_below O5.out hb)
  have X6 := Lib.hid (keep_block X5.out hb)
  clear hb
  go_wp2_with fail
  refine (toKS a n cap fl hn _ (Hr.out.below (L3.out.trans (T6.out.mono L3.out.size)))).mono ?_
  rintro e v6 ⟨rfl, hg, hb0⟩
  have HR6 := Lib.hid (RdK.row Hl.out hg)
  have HX6 := Lib.hid (RdK.row Hl.out (keep_block X6.out hb0))
  have T6b := Lib.hid (below_call T6.out T6.out.size hb0)
  have O6b := Lib.hid (owns_below O6.out hb0)
  have X6b := Lib.hid (keep_block X6.out hb0)
  clear hg hb0
  go_wp2_with fail
  refine (eqKS _ _ n n n fl hn _ HX6.out HR6.out).mono ?_
  rintro e w7 ⟨rfl, hb⟩
  have T7 := Lib.hid (below_call T6b.out T6b.out.size hb)
  have O7 := Lib.hid (owns_below O6b.out hb)
  have X7 := Lib.hid (keep_block X6b.out hb)
  clear hb HR6 HX6
  go_wp2_with fail
  refine (markA w3.heap.size n n _ 1 (by omega) (by omega) hn (by rw [ints_size, Hl.out]; exact Nat.le_refl _) _ X7.out).mono ?_
  rintro e w8 ⟨rfl, hx8, hk8⟩
  have O8 := Lib.hid (owns_keep (by have := HX4.out; omega) O7.out hk8)
  have T8 := Lib.hid (T7.out.trans (hk8.below T7.out.size (fun k e => by have h : k = w3.heap.size := e; omega)))
  clear hk8 hx8
  have hk0 : 0 ≤ (1 : Int) + ((32 * n : Nat) : Int) := by omega
  generalize (1 : Int) + ((32 * n : Nat) : Int) = kk at hk0
  go_wp2_with fail
  refine (eqKS a5 a3 N c5 c3 L hN _ (rdk_of_owned HL.out O8.out) (R3.out.below T8.out)).mono ?_
  rintro e w9 ⟨rfl, hb⟩
  have O9 := Lib.hid (owns_below O8.out hb)
  have T9 := Lib.hid (below_call T8.out T8.out.size hb)
  clear hb
  go_wp2_with fail
  refine (markKV a5 N c5 _ L 1 (by omega) (by omega) (by omega) _ O9.out).mono ?_
  rintro e w10 ⟨rfl, hm, hb⟩
  have T10 := Lib.hid (T9.out.trans (hb.mono T4.out.size))
  have M10 := Lib.hid hm
  clear hb hm
  have hm0 : 0 ≤ (1 : Int) + ((32 * N : Nat) : Int) := by omega
  generalize hm : (1 : Int) + ((32 * N : Nat) : Int) = m0 at hm0
  have HM := Lib.hid hm
  clear hm
  go_wp2_with fail
  refine (heldA a5 N c5 1 (by omega) (by omega) (by omega) _ M10.out).mono ?_
  rintro e w11 ⟨rfl, rfl⟩
  rw [HM.out]
  go_wp2_with fail
  have LA := Lib.hid (L3.out.trans (T10.out.mono L3.out.size))
  have AA := Lib.hid ((T10.out.block w.heap.size Z3.out).trans A3.out)
  refine wp_region_held_drew (S := Below w11.heap.size w11) (by kernel_rfl) ((Below.refl _ _).drew) (fun hS => ?_)
  refine take_atN (i := 0) (v := .slice a n cap) rfl rfl (by kernel_rfl) (by kernel_rfl) (by kernel_rfl) (fun _ _ _ h => h) (Or.inl ⟨by kernel_rfl, fun W hW => by go_simp⟩) hS ?_
  refine take_atN (i := 2) (v := .agg (ints .u8 key)) rfl rfl (by kernel_rfl) (by kernel_rfl) (by kernel_rfl) (fun _ _ _ h => h) (yields_box (by kernel_rfl) 43 _ rfl w.heap.size rfl _ 43 _ AA.out Try.underlying43 rfl (by rw [ints_size, HK.out]; exact sizeA32)) hS ?_
  refine take_atN (i := 4) (v := .int .i64 c) rfl rfl (by kernel_rfl) (by kernel_rfl) (by kernel_rfl) (fun _ _ _ h => h) (Or.inl ⟨by kernel_rfl, fun W hW => by go_simp⟩) hS ?_
  simp only [List.setIfInBounds_toArray, List.set_cons_zero, List.set_cons_succ]
  refine wpAnyH_ready (rs := [1]) (by kernel_rfl) (by simp) ?_
  refine AllReadyH.cons rfl (fun KQ hKQ => ?_) AllReadyH.nil
  rw [if_pos (by kernel_rfl)]
  go_simp
  refine (toKS a n cap fl hn _ (Hr.out.below (LA.out.trans (hS.mono LA.out.size)))).mono ?_
  rintro e w131 ⟨rfl, hg, hb⟩
  simp only [World.size_drew] at hg
  have S1 := below_call hS hS.size hb
  refine hKQ.out _ _ S1 (fun hS => ?_)
  clear hb hKQ
  refine wpAnyH_ready (rs := [3]) (by kernel_rfl) (by simp) ?_
  refine AllReadyH.cons rfl (fun KQ hKQ => ?_) AllReadyH.nil
  rw [if_pos (by kernel_rfl)]
  go_simp
  refine (toKey_ key HK.out _).mono ?_
  rintro e w132 ⟨rfl, hb⟩
  have hg2 := keep_block hg hb
  refine hKQ.out _ _ (below_call hS hS.size hb) (fun hS => ?_)
  clear hb hKQ
  refine wpAnyH_ready (rs := [5]) (by kernel_rfl) (by simp) ?_
  refine AllReadyH.cons rfl (fun KQ hKQ => ?_) AllReadyH.nil
  rw [if_pos (by kernel_rfl)]
  go_simp
  refine (Hi.out _ _ (RdK.row Hl.out hg2)).mono ?_
  rintro e w13 ⟨v13, rfl, hown, hb⟩
  obtain ⟨a13, c13, rfl, R13⟩ := RdK.owned HL.out hown
  refine hKQ.out _ _ (below_call hS hS.size hb) (fun hS => ?_)
  clear hb hKQ hg hg2 S1 hown
  refine take_atN (i := 6) (v := .tuple #[.slice a13 N c13, .int .i64 E]) rfl rfl (by kernel_rfl) (by kernel_rfl) (by kernel_rfl) (fun _ _ _ h => h) (Or.inl ⟨by kernel_rfl, fun W hW => by go_simp⟩) hS ?_
  refine take_atN (i := 7) (v := .slice a13 N c13) rfl rfl (by kernel_rfl) (by kernel_rfl) (by kernel_rfl) (fun _ _ _ h => h) (Or.inl ⟨by kernel_rfl, fun W hW => by go_simp⟩) hS ?_
  refine take_atN (i := 8) (v := .int .i64 E) rfl rfl (by kernel_rfl) (by kernel_rfl) (by kernel_rfl) (fun _ _ _ h => h) (Or.inl ⟨by kernel_rfl, fun W hW => by go_simp⟩) hS ?_
  refine take_atN (i := 9) (v := .slice a13 N c13) rfl rfl (by kernel_rfl) (by kernel_rfl) (by kernel_rfl) (fun _ _ _ h => h) (Or.inl ⟨by kernel_rfl, fun W hW => by go_simp⟩) hS ?_
  refine take_atN (i := 10) (v := .int .i64 E) rfl rfl (by kernel_rfl) (by kernel_rfl) (by kernel_rfl) (fun _ _ _ h => h) (Or.inl ⟨by kernel_rfl, fun W hW => by go_simp⟩) hS ?_
  refine wpAnyH_done (by kernel_rfl) ?_ _
  simp only [List.setIfInBounds_toArray, List.set_cons_zero, List.set_cons_succ]
  have R13 := Lib.hid R13
  have T13 := Lib.hid (below_call T10.out T10.out.size hS)
  have M13 := Lib.hid (M10.out.below hS)
  clear hS LA AA
  go_wp2_with fail
  refine (eqKS a13 a3 N c13 c3 L hN _ R13.out (R3.out.below T13.out)).mono ?_
  rintro e w14 ⟨rfl, hb⟩
  have T14 := Lib.hid (below_call T13.out T13.out.size hb)
  have M14 := Lib.hid (M13.out.below hb)
  clear hb
  go_wp2_with fail
  refine (heldA a5 N c5 1 (by omega) (by omega) (by omega) _ M14.out).mono ?_
  rintro e w15 ⟨rfl, rfl⟩
  rw [HM.out]
  go_wp2
  go_ret
  exact ⟨rfl, L3.out.trans (T14.out.mono L3.out.size)⟩
set_option maxRecDepth 100000 in
set_option maxHeartbeats 1000000 in
theorem FnExactNearestKeys_out (a : Option Addr) (n cap : Nat) (key : List Int) (c : Int) (hm : n ≤ maxLen) (hn : ¬ n ≤ 1048576) (w : World) :
    Calls Try.prog 6 #[.slice a n cap, .agg (ints .u8 key), .int .i64 c] w fun e w' => e = .returned (.bool true) ∧ Below w.heap.size w w' := by
  unfold maxLen at hm
  have h1 : (1048576 : Int) < (n : Int) := by omega
  go_enter Try.func6, Try.ntmps6
  go_wp2_with fail
  refine (szKS_out a n cap 1048576 (by omega) (by omega) hm h1 _).mono ?_
  rintro e v0 ⟨rfl, rfl⟩
  go_wp2
  go_ret
  exact ⟨rfl, by go_grown⟩
theorem FnExactNearestKeys_walk (a : Option Addr) (n cap : Nat) (fl : List Int) (key : List Int) (c : Int) (w : World) (f : IsKeys w a n fl) (hkey : key.length = 32) (fkey : ∀ z ∈ key, (Lit.int .u8 z).wf = true) (f_c : (Lit.int .i64 c).wf = true) :
    Calls Try.prog 6 #[.slice a n cap, .agg (ints .u8 key), .int .i64 c] w fun e w' => e = .returned (.bool true) ∧ Below w.heap.size w w' := by
  by_cases hn : n ≤ 1048576
  · have hl := f.2.1.1
    have fb := f.2.2
    have fkb : ∀ z ∈ key, 0 ≤ z ∧ z ≤ 255 := fun z hz => wf_u8_inv (fkey z hz)
    have cb : -9223372036854775808 ≤ c ∧ c ≤ 9223372036854775807 := wf_i64_inv f_c
    exact FnExactNearestKeys_in a n cap key c (if n ≤ 256 ∧ 0 ≤ c ∧ c ≤ 256 then (nearK key fl n c).length else 0) fl (flatK (if n ≤ 256 ∧ 0 ≤ c ∧ c ≤ 256 then nearK key fl n c else [])) (if n ≤ 256 then (if 0 ≤ c ∧ c ≤ 256 then 0 else 2) else 3) (by have := nearK_le key fl n c; split <;> omega) (by rw [flatK_len]; split <;> rfl) hn w f.2.1 hkey
      (fun W b h => near_spec b n n fl key c cb hn fb ⟨hkey, fkb⟩ W h) (fun W b h => near_impl b n n fl key c cb hn fb ⟨hkey, fkb⟩ W h)
  · exact FnExactNearestKeys_out a n cap key c f.1 hn w
end Go.Proofs.Ytnnplebebhjfaab
