/- The statement on KeyOf: its walk. -/
import Derived.Test.YtdamgodfgoackaaKeyOf
import Derived.Test.YtdamgodfgoackaaSzH
import Derived.Test.YtdamgodfgoackaaOpenH
namespace Go.Proofs.Ytdamgodfgoackaa
open Go.ChangeShapes Go.WideShapes Go.ChangeAt Go.RowKit
set_option linter.unusedVariables false
set_option maxRecDepth 100000 in
set_option maxHeartbeats 4000000 in
theorem keyof_law_in (x0 x1 x2 x3 x4 x5 x6 x7 : Int) (a : Option Addr) (n cap : Nat) (l : List Int) (c : Int) (hn : n ≤ 1048576) (sr : W32 [x0, x1, x2, x3, x4, x5, x6, x7]) (fl : ∀ z ∈ l, 0 ≤ z ∧ z ≤ 255) (w : World) (hr : Rd .u8 w a n l) :
    Calls Try.prog 4 #[.agg #[.int .u32 x0, .int .u32 x1, .int .u32 x2, .int .u32 x3, .int .u32 x4, .int .u32 x5, .int .u32 x6, .int .u32 x7, .slice a n cap, .int .i64 c]] w fun e w' => e = .returned (.bool true) ∧ Below w.heap.size w w' := by
  have Hr := Lib.hid hr
  have Hl := Lib.hid hr.1
  have Hz := Lib.hid z32_ints
  have Hs := Lib.hid (fun W g h1 h2 => keyof_spec x0 x1 x2 x3 x4 x5 x6 x7 g 0 n n l c sr fl hn W hr.1 h1 h2)
  have Hi := Lib.hid (fun W g h => keyof_impl x0 x1 x2 x3 x4 x5 x6 x7 (some ⟨g, 0, none⟩) n n l c sr fl hn W h)
  have Hvl := Lib.hid (keyV_len [x0, x1, x2, x3, x4, x5, x6, x7] l c)
  clear hr sr fl
  generalize keyV [x0, x1, x2, x3, x4, x5, x6, x7] l c = V at Hs Hi Hvl
  generalize keyE l c = E at Hs Hi
  go_enter Try.func4, Try.ntmps4
  go_wp2_with fail
  refine (szH_in _ _ _ _ _ _ _ _ a n cap c 1048576 (by omega) (by omega) (by omega) _).mono ?_
  rintro e w1 ⟨rfl, hb⟩
  have L1 := Lib.hid (((Below.refl w.heap.size w).alloc (by simp) _).trans (hb.mono (by simp)))
  have A1 := Lib.hid (keep_block (heap_alloc_last w (.cells #[.int .u32 x0, .int .u32 x1, .int .u32 x2, .int .u32 x3, .int .u32 x4, .int .u32 x5, .int .u32 x6, .int .u32 x7, .slice a n cap, .int .i64 c] 34)) hb)
  clear hb
  go_wp2_with (refine wpList_load_row rfl 34 (.tmp 1) rfl w.heap.size rfl 34 #[.int .u32 x0, .int .u32 x1, .int .u32 x2, .int .u32 x3, .int .u32 x4, .int .u32 x5, .int .u32 x6, .int .u32 x7, .slice a n cap, .int .i64 c] (0, 0) _ A1.out Try.underlying34 rfl sizeHl ?_)
  refine (toH _ _ _ _ _ _ _ _ a n cap l c hn _ (Hr.out.below L1.out)).mono ?_
  rintro e w2 ⟨rfl, hg, hb⟩
  have L2 := Lib.hid (below_call L1.out L1.out.size hb)
  have A2 := Lib.hid (keep_block A1.out hb)
  have X2 := Lib.hid hg
  clear hb hg
  go_wp2_with fail
  refine (Hs.out _ _ (Array.getElem?_eq_some_iff.1 X2.out).1 (fun j hj => by rw [Nat.zero_add, cell_of_row _ _ _ _ _ _ X2.out, ints_get .u8 l j (by rw [Hl.out]; exact hj)])).mono ?_
  rintro e w3 ⟨rfl, hb⟩
  have L3p := Lib.hid (below_call L2.out L2.out.size hb)
  have A3p := Lib.hid (keep_block A2.out hb)
  clear hb X2
  have K3 := Lib.hid (heap_alloc_last w3 (.cells (ints .u8 V) 24))
  have L3 := Lib.hid (L3p.out.alloc L3p.out.size (.cells (ints .u8 V) 24))
  have A3 := Lib.hid ((Below.heap_alloc w3 (.cells (ints .u8 V) 24) _ (Array.getElem?_eq_some_iff.1 A3p.out).1).trans A3p.out)
  obtain ⟨W3, hW3⟩ : ∃ W3, w3.alloc (.cells (ints .u8 V) 24) = W3 := ⟨_, rfl⟩
  rw [hW3] at K3 L3 A3
  go_wp2_with (first | (refine wpList_store_row rfl 24 _ _ rfl w3.heap.size (ints .u8 V) rfl rfl 24 (ints .u8 z32) (by rw [Hz.out]; exact heap_alloc_last _ _) (by rw [ints_size, Hvl.out]; exact sizeKey) (by rw [ints_size, ints_size, Hvl.out]; rfl) (ints_one _ _) ?_; rw [World.setRow_alloc_new]) | (refine wpList_load_row rfl 34 (.tmp 1) rfl w.heap.size rfl 34 #[.int .u32 x0, .int .u32 x1, .int .u32 x2, .int .u32 x3, .int .u32 x4, .int .u32 x5, .int .u32 x6, .int .u32 x7, .slice a n cap, .int .i64 c] (0, 0) _ A3.out Try.underlying34 rfl sizeHl ?_))
  clear hW3
  refine (toH _ _ _ _ _ _ _ _ a n cap l c hn _ (Hr.out.below L3.out)).mono ?_
  rintro e w4 ⟨rfl, hg, hb⟩
  have L4 := Lib.hid (below_call L3.out L3.out.size hb)
  have A4 := Lib.hid ((Below.heap_alloc w4 (.cells #[.int .u32 x0, .int .u32 x1, .int .u32 x2, .int .u32 x3, .int .u32 x4, .int .u32 x5, .int .u32 x6, .int .u32 x7, .slice (some ⟨W3.heap.size + 6, 0, none⟩) n n, .int .i64 c] 37) _ (Array.getElem?_eq_some_iff.1 (keep_block A3.out hb)).1).trans (keep_block A3.out hb))
  have G4 := Lib.hid ((Below.heap_alloc w4 (.cells #[.int .u32 x0, .int .u32 x1, .int .u32 x2, .int .u32 x3, .int .u32 x4, .int .u32 x5, .int .u32 x6, .int .u32 x7, .slice (some ⟨W3.heap.size + 6, 0, none⟩) n n, .int .i64 c] 37) _ (Array.getElem?_eq_some_iff.1 hg).1).trans hg)
  have K4 := Lib.hid ((Below.heap_alloc w4 (.cells #[.int .u32 x0, .int .u32 x1, .int .u32 x2, .int .u32 x3, .int .u32 x4, .int .u32 x5, .int .u32 x6, .int .u32 x7, .slice (some ⟨W3.heap.size + 6, 0, none⟩) n n, .int .i64 c] 37) _ (Array.getElem?_eq_some_iff.1 (keep_block K3.out hb)).1).trans (keep_block K3.out hb))
  have R4 := Rd.row G4.out
  rw [Hl.out] at R4
  have HR4 := Lib.hid R4
  clear hb hg R4
  go_wp2_with (first | (refine wpList_store_row rfl 37 _ _ rfl w4.heap.size #[.int .u32 x0, .int .u32 x1, .int .u32 x2, .int .u32 x3, .int .u32 x4, .int .u32 x5, .int .u32 x6, .int .u32 x7, .slice (some ⟨W3.heap.size + 6, 0, none⟩) n n, .int .i64 c] rfl rfl 37 #[.int .u32 0, .int .u32 0, .int .u32 0, .int .u32 0, .int .u32 0, .int .u32 0, .int .u32 0, .int .u32 0, .slice none 0 0, .int .i64 0] (heap_alloc_last _ _) sizeHi rfl rfl ?_; rw [World.setRow_alloc_new]) | (refine wpList_load_row rfl 37 (.tmp 6) rfl w4.heap.size rfl 37 #[.int .u32 x0, .int .u32 x1, .int .u32 x2, .int .u32 x3, .int .u32 x4, .int .u32 x5, .int .u32 x6, .int .u32 x7, .slice (some ⟨W3.heap.size + 6, 0, none⟩) n n, .int .i64 c] (0, 0) _ (heap_alloc_last _ _) Try.underlying37 rfl sizeHi ?_))
  refine (Hi.out _ _ HR4.out).mono ?_
  rintro e w5 ⟨rfl, hb⟩
  have L5 := Lib.hid ((L4.out.alloc L4.out.size (.cells #[.int .u32 x0, .int .u32 x1, .int .u32 x2, .int .u32 x3, .int .u32 x4, .int .u32 x5, .int .u32 x6, .int .u32 x7, .slice (some ⟨W3.heap.size + 6, 0, none⟩) n n, .int .i64 c] 37)).trans (hb.mono (by have := L4.out.size; simp; omega)))
  have A5 := Lib.hid (keep_block A4.out hb)
  have G5 := Lib.hid (keep_block G4.out hb)
  have K5 := Lib.hid (keep_block K4.out hb)
  have N5 := Lib.hid (keep_block (heap_alloc_last w4 (.cells #[.int .u32 x0, .int .u32 x1, .int .u32 x2, .int .u32 x3, .int .u32 x4, .int .u32 x5, .int .u32 x6, .int .u32 x7, .slice (some ⟨W3.heap.size + 6, 0, none⟩) n n, .int .i64 c] 37)) hb)
  clear hb
  have L6 := Lib.hid (L5.out.alloc L5.out.size (.cells (ints .u8 V) 24))
  have A6 := Lib.hid ((Below.heap_alloc w5 (.cells (ints .u8 V) 24) _ (Array.getElem?_eq_some_iff.1 A5.out).1).trans A5.out)
  have G6 := Lib.hid ((Below.heap_alloc w5 (.cells (ints .u8 V) 24) _ (Array.getElem?_eq_some_iff.1 G5.out).1).trans G5.out)
  have K6 := Lib.hid ((Below.heap_alloc w5 (.cells (ints .u8 V) 24) _ (Array.getElem?_eq_some_iff.1 K5.out).1).trans K5.out)
  have N6 := Lib.hid ((Below.heap_alloc w5 (.cells (ints .u8 V) 24) _ (Array.getElem?_eq_some_iff.1 N5.out).1).trans N5.out)
  go_wp2_with (first | (refine wpList_store_row rfl 24 _ _ rfl w5.heap.size (ints .u8 V) rfl rfl 24 (ints .u8 z32) (by rw [Hz.out]; exact heap_alloc_last _ _) (by rw [ints_size, Hvl.out]; exact sizeKey) (by rw [ints_size, ints_size, Hvl.out]; rfl) (ints_one _ _) ?_; rw [World.setRow_alloc_new]) | (refine wpList_load_row rfl 24 _ rfl w5.heap.size rfl 24 (ints .u8 V) (0, 0) _ (heap_alloc_last _ _) Try.underlying24 rfl (by rw [ints_size, Hvl.out]; exact sizeKey) ?_) | (refine wpList_load_row rfl 24 _ rfl w3.heap.size rfl 24 (ints .u8 V) (0, 0) _ K6.out Try.underlying24 rfl (by rw [ints_size, Hvl.out]; exact sizeKey) ?_))
  refine (eqKey_ V Hvl.out _).mono ?_
  rintro e w8 ⟨rfl, hb⟩
  have L8 := Lib.hid (below_call L6.out L6.out.size hb)
  have A8 := Lib.hid (keep_block A6.out hb)
  have G8 := Lib.hid (keep_block G6.out hb)
  have N8 := Lib.hid (keep_block N6.out hb)
  clear hb
  go_wp2_with fail
  refine wp_region_held_drew (S := Below w8.heap.size w8) (by kernel_rfl) ((Below.refl _ _).drew) (fun hS => ?_)
  refine wpAnyH_take (i := 0) (v := _) rfl (by kernel_rfl) (by kernel_rfl) (by kernel_rfl) (fun _ _ _ h => h) (yields_box (by rfl) 37 _ rfl w4.heap.size rfl _ 37 _ N8.out Try.underlying37 rfl sizeHi) hS ?_
  refine wpAnyH_take (i := 1) (v := _) rfl (by kernel_rfl) (by kernel_rfl) (by kernel_rfl) (fun _ _ _ h => h) (yields_box (by rfl) 34 _ rfl w.heap.size rfl _ 34 _ A8.out Try.underlying34 rfl sizeHl) hS ?_
  refine wpAnyH_ready (rs := [2]) (by kernel_rfl) (by simp) ?_
  refine AllReadyH.cons rfl (fun K hK => ?_) AllReadyH.nil
  rw [if_pos (by rfl)]
  go_simp
  refine (toH _ _ _ _ _ _ _ _ a n cap l c hn _ (Hr.out.below (below_call L8.out L8.out.size hS))).mono ?_
  rintro e w6 ⟨rfl, hg6, hb⟩
  have S6 := below_call hS hS.size hb
  refine hK.out _ _ S6 (fun hS => ?_)
  clear hb hK
  refine wpAnyH_ready (rs := [3]) (by kernel_rfl) (by simp) ?_
  refine AllReadyH.cons rfl (fun K hK => ?_) AllReadyH.nil
  rw [if_pos (by rfl)]
  go_simp
  have R1 := Rd.row (keep_block G8.out S6)
  have R2 := Rd.row hg6
  rw [Hl.out] at R1 R2
  refine (eqH _ _ _ _ _ _ _ _ _ _ n n n l c hn _ R1 R2).mono ?_
  rintro e w7 ⟨rfl, hb⟩
  have S7 := below_call hS hS.size hb
  refine hK.out _ _ S7 (fun hS => ?_)
  clear hb hK
  refine wpAnyH_ready (rs := [4]) (by kernel_rfl) (by simp) ?_
  refine AllReadyH.cons rfl (fun K hK => ?_) AllReadyH.nil
  rw [if_pos (by rfl)]
  go_simp
  refine hK.out _ _ S7 (fun hS => ?_)
  refine wpAnyH_done (by kernel_rfl) ?_ _
  have HS := Lib.hid S7
  clear R1 R2 S6 S7 hg6 hK hS
  go_wp2
  go_ret
  exact ⟨rfl, below_call L8.out L8.out.size HS.out⟩
set_option maxRecDepth 100000 in
set_option maxHeartbeats 2000000 in
theorem keyof_law_out (x0 x1 x2 x3 x4 x5 x6 x7 : Int) (a : Option Addr) (n cap : Nat) (c : Int) (hm : n ≤ maxLen) (hn : ¬ n ≤ 1048576) (w : World) :
    Calls Try.prog 4 #[.agg #[.int .u32 x0, .int .u32 x1, .int .u32 x2, .int .u32 x3, .int .u32 x4, .int .u32 x5, .int .u32 x6, .int .u32 x7, .slice a n cap, .int .i64 c]] w fun e w' => e = .returned (.bool true) ∧ Below w.heap.size w w' := by
  unfold maxLen at hm
  have h1 : (1048576 : Int) < (n : Int) := by omega
  go_enter Try.func4, Try.ntmps4
  go_wp2_with fail
  refine (szH_out _ _ _ _ _ _ _ _ a n cap c 1048576 (by omega) (by omega) hm h1 _).mono ?_
  rintro e w1 ⟨rfl, hb⟩
  have L1 := Lib.hid (((Below.refl w.heap.size w).alloc (by simp) _).trans (hb.mono (by simp)))
  clear hb
  go_wp2
  go_ret
  exact ⟨rfl, L1.out⟩
theorem FnExactKeyOf_walk (x0 x1 x2 x3 x4 x5 x6 x7 : Int) (a : Option Addr) (n cap : Nat) (c : Int) (zs : List Int) (w : World) (f : IsRow .u8 w a n cap zs) (g : ∀ z ∈ [x0, x1, x2, x3, x4, x5, x6, x7], (Lit.int .u32 z).wf = true) (e : (Lit.int .i64 c).wf = true) :
    Calls Try.prog 4 #[.agg #[.int .u32 x0, .int .u32 x1, .int .u32 x2, .int .u32 x3, .int .u32 x4, .int .u32 x5, .int .u32 x6, .int .u32 x7, .slice a n cap, .int .i64 c]] w fun e w' => e = .returned (.bool true) ∧ Below w.heap.size w w' := by
  by_cases hn : n ≤ 1048576
  · exact keyof_law_in x0 x1 x2 x3 x4 x5 x6 x7 a n cap (zs.take n) c hn (w32_of g) (fun z hz => bounds_u8 (rd_wf f z hz)) w (rd_of_row f)
  · exact keyof_law_out x0 x1 x2 x3 x4 x5 x6 x7 a n cap c (row_len f) hn w
end Go.Proofs.Ytdamgodfgoackaa
