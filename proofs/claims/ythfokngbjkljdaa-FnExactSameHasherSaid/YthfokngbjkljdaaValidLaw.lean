/- The statement on ValidHasher: its walk. -/
import Derived.Test.YthfokngbjkljdaaValid
import Derived.Test.YthfokngbjkljdaaOpenH
namespace Go.Proofs.Ythfokngbjkljdaa
open Go.ChangeShapes Go.WideShapes Go.ChangeAt Go.RowKit
set_option linter.unusedVariables false
set_option maxRecDepth 100000 in
set_option maxHeartbeats 2000000 in
theorem szH_in (x0 x1 x2 x3 x4 x5 x6 x7 : Int) (a : Option Addr) (n cap : Nat) (c left : Int) (h0 : 0 ≤ left) (h1 : left ≤ 1048576) (hn : (n : Int) ≤ left) (w : World) :
    Calls Try.prog 40 #[.agg #[.int .u32 x0, .int .u32 x1, .int .u32 x2, .int .u32 x3, .int .u32 x4, .int .u32 x5, .int .u32 x6, .int .u32 x7, .slice a n cap, .int .i64 c], .int .i64 left] w fun e w' => e = .returned (.int .i64 (left - n)) ∧ Below w.heap.size w w' := by
  go_enter Try.func40, Try.ntmps40
  go_wp2_with fail
  refine (szBS_in a n cap left h0 (by omega) hn _).mono ?_
  rintro e w' ⟨rfl, rfl⟩
  go_wp2
  go_ret
  exact ⟨rfl, (Below.refl _ _).alloc (by simp) _⟩
set_option maxRecDepth 100000 in
set_option maxHeartbeats 2000000 in
theorem szH_out (x0 x1 x2 x3 x4 x5 x6 x7 : Int) (a : Option Addr) (n cap : Nat) (c left : Int) (h0 : 0 ≤ left) (h1 : left ≤ 1048576) (hm : n ≤ 9223372036854775807) (hn : left < (n : Int)) (w : World) :
    Calls Try.prog 40 #[.agg #[.int .u32 x0, .int .u32 x1, .int .u32 x2, .int .u32 x3, .int .u32 x4, .int .u32 x5, .int .u32 x6, .int .u32 x7, .slice a n cap, .int .i64 c], .int .i64 left] w fun e w' => e = .returned (.int .i64 (-1)) ∧ Below w.heap.size w w' := by
  go_enter Try.func40, Try.ntmps40
  go_wp2_with fail
  refine (szBS_out a n cap left h0 (by omega) hm hn _).mono ?_
  rintro e w' ⟨rfl, rfl⟩
  go_wp2
  go_ret
  exact ⟨rfl, (Below.refl _ _).alloc (by simp) _⟩
set_option maxRecDepth 100000 in
set_option maxHeartbeats 4000000 in
theorem valid_law_in (x0 x1 x2 x3 x4 x5 x6 x7 : Int) (a : Option Addr) (n cap : Nat) (l : List Int) (c : Int) (hn : n ≤ 1048576) (w : World) (hr : Rd .u8 w a n l) :
    Calls Try.prog 9 #[.agg #[.int .u32 x0, .int .u32 x1, .int .u32 x2, .int .u32 x3, .int .u32 x4, .int .u32 x5, .int .u32 x6, .int .u32 x7, .slice a n cap, .int .i64 c]] w fun e w' => e = .returned (.bool true) ∧ Below w.heap.size w w' := by
  have Hr := Lib.hid hr
  clear hr
  generalize hv : vH n c = V
  have HV := Lib.hid hv
  clear hv
  go_enter Try.func9, Try.ntmps9
  go_wp2_with fail
  refine (szH_in _ _ _ _ _ _ _ _ a n cap c 1048576 (by omega) (by omega) (by omega) _).mono ?_
  rintro e w1 ⟨rfl, hb⟩
  have L1 := Lib.hid (((Below.refl w.heap.size w).alloc (by simp) _).trans (hb.mono (by simp)))
  have A1 := Lib.hid (keep_block (heap_alloc_last w (.cells #[.int .u32 x0, .int .u32 x1, .int .u32 x2, .int .u32 x3, .int .u32 x4, .int .u32 x5, .int .u32 x6, .int .u32 x7, .slice a n cap, .int .i64 c] 54)) hb)
  clear hb
  go_wp2_with (refine wpList_load_row rfl 54 (.tmp 1) rfl w.heap.size rfl 54 #[.int .u32 x0, .int .u32 x1, .int .u32 x2, .int .u32 x3, .int .u32 x4, .int .u32 x5, .int .u32 x6, .int .u32 x7, .slice a n cap, .int .i64 c] (0, 0) _ A1.out Try.underlying54 rfl sizeHl ?_)
  refine (toH _ _ _ _ _ _ _ _ a n cap l c hn _ (Hr.out.below L1.out)).mono ?_
  rintro e w2 ⟨rfl, hg, hb⟩
  have L2 := Lib.hid (below_call L1.out L1.out.size hb)
  have A2 := Lib.hid (keep_block A1.out hb)
  clear hb hg
  go_wp2_with fail
  refine (valid_spec _ _ _ _ _ _ _ _ _ n n c hn _).mono ?_
  rw [HV.out]
  rintro e w3 ⟨rfl, hb⟩
  have L3 := Lib.hid (below_call L2.out L2.out.size hb)
  have A3 := Lib.hid (keep_block A2.out hb)
  clear hb
  go_wp2_with (refine wpList_load_row rfl 54 (.tmp 1) rfl w.heap.size rfl 54 #[.int .u32 x0, .int .u32 x1, .int .u32 x2, .int .u32 x3, .int .u32 x4, .int .u32 x5, .int .u32 x6, .int .u32 x7, .slice a n cap, .int .i64 c] (0, 0) _ A3.out Try.underlying54 rfl sizeHl ?_)
  refine (toH _ _ _ _ _ _ _ _ a n cap l c hn _ (Hr.out.below L3.out)).mono ?_
  rintro e w4 ⟨rfl, hg, hb⟩
  have L4 := Lib.hid (below_call L3.out L3.out.size hb)
  have A4 := Lib.hid ((Below.heap_alloc w4 (.cells #[.int .u32 x0, .int .u32 x1, .int .u32 x2, .int .u32 x3, .int .u32 x4, .int .u32 x5, .int .u32 x6, .int .u32 x7, .slice (some ⟨w3.heap.size + 6, 0, none⟩) n n, .int .i64 c] 50) _ (Array.getElem?_eq_some_iff.1 (keep_block A3.out hb)).1).trans (keep_block A3.out hb))
  have G4 := Lib.hid ((Below.heap_alloc w4 (.cells #[.int .u32 x0, .int .u32 x1, .int .u32 x2, .int .u32 x3, .int .u32 x4, .int .u32 x5, .int .u32 x6, .int .u32 x7, .slice (some ⟨w3.heap.size + 6, 0, none⟩) n n, .int .i64 c] 50) _ (Array.getElem?_eq_some_iff.1 hg).1).trans hg)
  clear hb hg
  go_wp2_with (first | (refine wpList_store_row rfl 50 _ _ rfl w4.heap.size #[.int .u32 x0, .int .u32 x1, .int .u32 x2, .int .u32 x3, .int .u32 x4, .int .u32 x5, .int .u32 x6, .int .u32 x7, .slice (some ⟨w3.heap.size + 6, 0, none⟩) n n, .int .i64 c] rfl rfl 50 #[.int .u32 0, .int .u32 0, .int .u32 0, .int .u32 0, .int .u32 0, .int .u32 0, .int .u32 0, .int .u32 0, .slice none 0 0, .int .i64 0] (heap_alloc_last _ _) sizeHi rfl rfl ?_; rw [World.setRow_alloc_new]) | (refine wpList_load_row rfl 50 (.tmp 5) rfl w4.heap.size rfl 50 #[.int .u32 x0, .int .u32 x1, .int .u32 x2, .int .u32 x3, .int .u32 x4, .int .u32 x5, .int .u32 x6, .int .u32 x7, .slice (some ⟨w3.heap.size + 6, 0, none⟩) n n, .int .i64 c] (0, 0) _ (heap_alloc_last _ _) Try.underlying50 rfl sizeHi ?_))
  refine (valid_impl _ _ _ _ _ _ _ _ _ n n c hn _).mono ?_
  rw [HV.out]
  rintro e w5 ⟨rfl, hb⟩
  have L5 := Lib.hid ((L4.out.alloc L4.out.size _).trans (hb.mono (by have := L4.out.size; simp; omega)))
  have A5 := Lib.hid (keep_block A4.out hb)
  have G5 := Lib.hid (keep_block G4.out hb)
  have N5 := Lib.hid (keep_block (heap_alloc_last w4 (.cells #[.int .u32 x0, .int .u32 x1, .int .u32 x2, .int .u32 x3, .int .u32 x4, .int .u32 x5, .int .u32 x6, .int .u32 x7, .slice (some ⟨w3.heap.size + 6, 0, none⟩) n n, .int .i64 c] 50)) hb)
  clear hb
  go_wp2_with fail
  refine wp_region_held_drew (S := Below w5.heap.size w5) (by kernel_rfl) ((Below.refl _ _).drew) (fun hS => ?_)
  refine wpAnyH_take (i := 0) (v := _) rfl (by kernel_rfl) (by kernel_rfl) (by kernel_rfl) (fun _ _ _ h => h) (yields_box (by rfl) 50 _ rfl w4.heap.size rfl _ 50 _ N5.out Try.underlying50 rfl sizeHi) hS ?_
  refine wpAnyH_take (i := 1) (v := _) rfl (by kernel_rfl) (by kernel_rfl) (by kernel_rfl) (fun _ _ _ h => h) (yields_box (by rfl) 54 _ rfl w.heap.size rfl _ 54 _ A5.out Try.underlying54 rfl sizeHl) hS ?_
  refine wpAnyH_ready (rs := [2]) (by kernel_rfl) (by simp) ?_
  refine AllReadyH.cons rfl (fun K hK => ?_) AllReadyH.nil
  rw [if_pos (by rfl)]
  go_simp
  refine (toH _ _ _ _ _ _ _ _ a n cap l c hn _ (Hr.out.below (below_call L5.out L5.out.size hS))).mono ?_
  rintro e w6 ⟨rfl, hg6, hb⟩
  have S6 := below_call hS hS.size hb
  refine hK.out _ _ S6 (fun hS => ?_)
  clear hb hK
  refine wpAnyH_ready (rs := [3]) (by kernel_rfl) (by simp) ?_
  refine AllReadyH.cons rfl (fun K hK => ?_) AllReadyH.nil
  rw [if_pos (by rfl)]
  go_simp
  have R1 := Rd.row (keep_block G5.out S6)
  have R2 := Rd.row hg6
  rw [Hr.out.1] at R1 R2
  refine (eqH _ _ _ _ _ _ _ _ _ _ n n n l c hn _ R1 R2).mono ?_
  rintro e w7 ⟨rfl, hb⟩
  have S7 := below_call hS hS.size hb
  refine hK.out _ _ S7 (fun hS => ?_)
  clear hb hK
  refine wpAnyH_ready (rs := [4]) (by kernel_rfl) (by simp) ?_
  refine AllReadyH.cons rfl (fun K hK => ?_) AllReadyH.nil
  rw [if_pos (by rfl)]
  go_simp
  refine hK.out _ _ S7 (fun hS => ?_)
  refine wpAnyH_done (by kernel_rfl) ?_ _
  have HS := Lib.hid S7
  clear R1 R2 S6 S7 hg6 hK hS
  go_wp2
  go_ret
  exact ⟨rfl, below_call L5.out L5.out.size HS.out⟩
set_option maxRecDepth 100000 in
set_option maxHeartbeats 2000000 in
theorem valid_law_out (x0 x1 x2 x3 x4 x5 x6 x7 : Int) (a : Option Addr) (n cap : Nat) (c : Int) (hm : n ≤ maxLen) (hn : ¬ n ≤ 1048576) (w : World) :
    Calls Try.prog 9 #[.agg #[.int .u32 x0, .int .u32 x1, .int .u32 x2, .int .u32 x3, .int .u32 x4, .int .u32 x5, .int .u32 x6, .int .u32 x7, .slice a n cap, .int .i64 c]] w fun e w' => e = .returned (.bool true) ∧ Below w.heap.size w w' := by
  unfold maxLen at hm
  have h1 : (1048576 : Int) < (n : Int) := by omega
  go_enter Try.func9, Try.ntmps9
  go_wp2_with fail
  refine (szH_out _ _ _ _ _ _ _ _ a n cap c 1048576 (by omega) (by omega) hm h1 _).mono ?_
  rintro e w1 ⟨rfl, hb⟩
  have L1 := Lib.hid (((Below.refl w.heap.size w).alloc (by simp) _).trans (hb.mono (by simp)))
  clear hb
  go_wp2
  go_ret
  exact ⟨rfl, L1.out⟩
theorem FnExactValidHasher_walk (x0 x1 x2 x3 x4 x5 x6 x7 : Int) (a : Option Addr) (n cap : Nat) (c : Int) (zs : List Int) (w : World) (f : IsRow .u8 w a n cap zs) (g : ∀ z ∈ [x0, x1, x2, x3, x4, x5, x6, x7], (Lit.int .u32 z).wf = true) (e : (Lit.int .i64 c).wf = true) :
    Calls Try.prog 9 #[.agg #[.int .u32 x0, .int .u32 x1, .int .u32 x2, .int .u32 x3, .int .u32 x4, .int .u32 x5, .int .u32 x6, .int .u32 x7, .slice a n cap, .int .i64 c]] w fun e w' => e = .returned (.bool true) ∧ Below w.heap.size w w' := by
  by_cases hn : n ≤ 1048576
  · exact valid_law_in x0 x1 x2 x3 x4 x5 x6 x7 a n cap (zs.take n) c hn w (rd_of_row f)
  · exact valid_law_out x0 x1 x2 x3 x4 x5 x6 x7 a n cap c (row_len f) hn w
end Go.Proofs.Ythfokngbjkljdaa
