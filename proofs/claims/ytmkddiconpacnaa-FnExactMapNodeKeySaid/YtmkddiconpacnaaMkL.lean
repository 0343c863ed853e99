/- The statement on FnExactMapNodeKey: its walk. Written by wip/gen/nlaw.py. -/
import Derived.Test.YtmkddiconpacnaaNodW
import Derived.Test.YtmkddiconpacnaaMkK
namespace Go.Proofs.Ytmkddiconpacnaa
open Go.ChangeShapes Go.WideShapes Go.ChangeAt Go.RowKit
set_option linter.unusedVariables false
set_option linter.unusedSimpArgs false
theorem sizeLN : (Try.prog.info? 38).map (·.size) = some 66 := by kernel_rfl
set_option maxRecDepth 100000 in
set_option maxHeartbeats 8000000 in
theorem FnExactMapNodeKey_in (l r : List Int) (nm vl : ByteArray) (hl : l.length = 32) (hr : r.length = 32) (hs : nm.size ≤ maxLen) (ht : vl.size ≤ maxLen) (h : nm.size + vl.size ≤ 1048576) (VV : List Int) (EE : Int) (hVL : VV.length = 32) (w : World)
    (hS : ∀ (U : World), Calls Try.prog 35 #[.agg (nodC l r nm vl)] U fun e w' => e = .returned (.tuple #[.agg (ints .u8 VV), .int .i64 EE]) ∧ Below U.heap.size U w')
    (hI : ∀ (U : World), Calls Try.prog 36 #[.agg (nodC l r nm vl)] U fun e w' => e = .returned (.tuple #[.agg (ints .u8 VV), .int .i64 EE]) ∧ Below U.heap.size U w') :
    Calls Try.prog 6 #[.agg (nodC l r nm vl)] w fun e w' => e = .returned (.bool true) ∧ Below w.heap.size w w' := by
  have HS := Lib.hid (nodC_size nm vl hl hr)
  have A0' := heap_alloc_last w (.cells (nodC l r nm vl) 38)
  have B0' := (Below.refl w.heap.size w).alloc (Nat.le_refl _) (.cells (nodC l r nm vl) 38)
  obtain ⟨w0, hw0⟩ : ∃ w0, w.alloc (.cells (nodC l r nm vl) 38) = w0 := ⟨_, rfl⟩
  rw [hw0] at A0' B0'
  have A0 := Lib.hid A0'
  have B0 := Lib.hid B0'
  have HZ := Lib.hid (fun U => szN_in l r nm vl hl hr 1048576 (by omega) (by omega) hs ht (by omega) U)
  have HT := Lib.hid (fun U => toNode l r nm vl hl hr U)
  have HSP := Lib.hid hS
  have HIM := Lib.hid hI
  have q0 : ¬ (1048576 : Int) - (nm.size : Int) - (vl.size : Int) < 0 := by omega
  have Hz := Lib.hid z32_ints
  have HVL := Lib.hid hVL
  clear hVL
  clear A0' B0' hl hr hs ht h hS hI
  go_enter Try.func6, Try.ntmps6
  go_wp2_with (refine wpList_load_row rfl 38 _ rfl w.heap.size rfl 38 (nodC l r nm vl) (0, 0) _ A0.out Try.underlying38 rfl (by rw [HS.out]; exact sizeLN) ?_)
  refine (HZ.out _).mono ?_
  rintro e w1 ⟨rfl, hb⟩
  have B1 := Lib.hid (below_call B0.out B0.out.size hb)
  have A1 := Lib.hid (keep_block A0.out hb)
  clear hw0
  clear hb
  go_wp2_with (refine wpList_load_row rfl 38 _ rfl w.heap.size rfl 38 (nodC l r nm vl) (0, 0) _ A1.out Try.underlying38 rfl (by rw [HS.out]; exact sizeLN) ?_)
  refine (HT.out _).mono ?_
  rintro e w2 ⟨rfl, hb⟩
  have B2 := Lib.hid (below_call B1.out B1.out.size hb)
  have A2 := Lib.hid (keep_block A1.out hb)
  clear hb
  go_wp2_with fail
  refine (HSP.out _).mono ?_
  rintro e w3 ⟨rfl, hb⟩
  have B3 := Lib.hid (below_call B2.out B2.out.size hb)
  have A3 := Lib.hid (keep_block A2.out hb)
  clear hb
  have LB := layB w3 (ints .u8 z32) (ints .u8 VV) 43
  have B4 := Lib.hid (below_call B3.out B3.out.size LB)
  have A4 := Lib.hid (keep_block A3.out LB)
  have N4 := Lib.hid (layN w3 (ints .u8 z32) (ints .u8 VV) 43)
  clear LB
  go_wp2_with (first | (refine wpList_store_row rfl 43 (.tmp 4) _ rfl w3.heap.size (ints .u8 VV) rfl rfl 43 (ints .u8 z32) (by rw [Hz.out]; exact heap_alloc_last _ _) (by rw [ints_size, HVL.out]; exact sizeKey) (by rw [ints_size, ints_size, HVL.out]; rfl) (ints_one _ _) ?_) | (refine wpList_load_row rfl 38 _ rfl w.heap.size rfl 38 (nodC l r nm vl) (0, 0) _ (by rw [← Hz.out]; exact A4.out) Try.underlying38 rfl (by rw [HS.out]; exact sizeLN) ?_))
  rw [← Hz.out]
  generalize (w3.alloc (.cells (ints .u8 z32) 43)).setRow w3.heap.size (ints .u8 VV) = w4 at B4 N4 A4 ⊢
  generalize w3.heap.size = gN at N4 ⊢
  refine (HT.out _).mono ?_
  rintro e w5 ⟨rfl, hb⟩
  have B5 := Lib.hid (below_call B4.out B4.out.size hb)
  have A5 := Lib.hid (keep_block A4.out hb)
  have N5 := Lib.hid (keep_block N4.out hb)
  clear hb
  go_wp2_with fail
  refine (HIM.out _).mono ?_
  rintro e w6 ⟨rfl, hb⟩
  have B6 := Lib.hid (below_call B5.out B5.out.size hb)
  have A6 := Lib.hid (keep_block A5.out hb)
  have N6 := Lib.hid (keep_block N5.out hb)
  clear hb
  have LB := layB w6 (ints .u8 z32) (ints .u8 VV) 43
  have B7 := Lib.hid (below_call B6.out B6.out.size LB)
  have A7 := Lib.hid (keep_block A6.out LB)
  have N7 := Lib.hid (keep_block N6.out LB)
  have M7 := Lib.hid (layN w6 (ints .u8 z32) (ints .u8 VV) 43)
  clear LB
  go_wp2_with (first | (refine wpList_store_row rfl 43 (.tmp 6) _ rfl w6.heap.size (ints .u8 VV) rfl rfl 43 (ints .u8 z32) (by rw [Hz.out]; exact heap_alloc_last _ _) (by rw [ints_size, HVL.out]; exact sizeKey) (by rw [ints_size, ints_size, HVL.out]; rfl) (ints_one _ _) ?_) | (refine wpList_load_row rfl 43 (.tmp 6) rfl w6.heap.size rfl 43 (ints .u8 VV) (0, 0) _ (by rw [← Hz.out]; exact M7.out) Try.underlying43 rfl (by rw [ints_size, HVL.out]; exact sizeKey) ?_) | (refine wpList_load_row rfl 43 (.tmp 4) rfl gN rfl 43 (ints .u8 VV) (0, 0) _ (by rw [← Hz.out]; exact N7.out) Try.underlying43 rfl (by rw [ints_size, HVL.out]; exact sizeKey) ?_))
  rw [← Hz.out]
  generalize (w6.alloc (.cells (ints .u8 z32) 43)).setRow w6.heap.size (ints .u8 VV) = w7 at B7 M7 A7 N7 ⊢
  generalize w6.heap.size = gM at M7 ⊢
  refine (eqKey_ VV HVL.out _).mono ?_
  rintro e w8 ⟨rfl, hb⟩
  have B8 := Lib.hid (below_call B7.out B7.out.size hb)
  clear hb
  go_wp2
  go_ret
  exact ⟨rfl, B8.out⟩
set_option maxRecDepth 100000 in
set_option maxHeartbeats 2000000 in
theorem FnExactMapNodeKey_out (l r : List Int) (nm vl : ByteArray) (hl : l.length = 32) (hr : r.length = 32) (hs : nm.size ≤ maxLen) (ht : vl.size ≤ maxLen) (h : ¬ nm.size + vl.size ≤ 1048576) (w : World) :
    Calls Try.prog 6 #[.agg (nodC l r nm vl)] w fun e w' => e = .returned (.bool true) ∧ Below w.heap.size w w' := by
  have HS := Lib.hid (nodC_size nm vl hl hr)
  have A0' := heap_alloc_last w (.cells (nodC l r nm vl) 38)
  have B0' := (Below.refl w.heap.size w).alloc (Nat.le_refl _) (.cells (nodC l r nm vl) 38)
  obtain ⟨w0, hw0⟩ : ∃ w0, w.alloc (.cells (nodC l r nm vl) 38) = w0 := ⟨_, rfl⟩
  rw [hw0] at A0' B0'
  have A0 := Lib.hid A0'
  have B0 := Lib.hid B0'
  have HZ := Lib.hid (fun U => szN_out l r nm vl hl hr 1048576 (by omega) (by omega) hs ht (by omega) U)
  clear A0' B0' hl hr hs ht h
  go_enter Try.func6, Try.ntmps6
  go_wp2_with (refine wpList_load_row rfl 38 _ rfl w.heap.size rfl 38 (nodC l r nm vl) (0, 0) _ A0.out Try.underlying38 rfl (by rw [HS.out]; exact sizeLN) ?_)
  refine (HZ.out _).mono ?_
  rintro e w1 ⟨rfl, hb⟩
  have B1 := Lib.hid (below_call B0.out B0.out.size hb)
  clear hb hw0
  go_wp2
  go_ret
  exact ⟨rfl, B1.out⟩
theorem FnExactMapNodeKey_walk (l r : List Int) (nm vl : ByteArray) (w : World) (f : Is32' l ∧ Is32' r) (g : nm.size ≤ maxLen ∧ vl.size ≤ maxLen) :
    Calls Try.prog 6 #[.agg (nodC l r nm vl)] w fun e w' => e = .returned (.bool true) ∧ Below w.heap.size w w' := by
  by_cases h : nm.size + vl.size ≤ 1048576
  · exact FnExactMapNodeKey_in l r nm vl f.1.1 f.2.1 g.1 g.2 h _ _ (mkV_len l r nm vl) w (fun U => mk_spec l r nm vl f.1 f.2 g.1 g.2 U) (fun U => mk_impl l r nm vl f.1 f.2 g.1 g.2 U)
  · exact FnExactMapNodeKey_out l r nm vl f.1.1 f.2.1 g.1 g.2 h w
end Go.Proofs.Ytmkddiconpacnaa
