/- The statement on FnExactMapNodeBytes: its walk. Written by wip/gen/nlaw.py. -/
import Derived.Test.YtmkddiconpacnaaNodW
namespace Go.Proofs.Ytmkddiconpacnaa
open Go.ChangeShapes Go.WideShapes Go.ChangeAt Go.RowKit
set_option linter.unusedVariables false
set_option linter.unusedSimpArgs false
theorem sizeLN : (Try.prog.info? 38).map (·.size) = some 66 := by kernel_rfl
set_option maxRecDepth 100000 in
set_option maxHeartbeats 8000000 in
theorem FnExactMapNodeBytes_in (l r : List Int) (nm vl : ByteArray) (hl : l.length = 32) (hr : r.length = 32) (hs : nm.size ≤ maxLen) (ht : vl.size ≤ maxLen) (h : nm.size + vl.size ≤ 1048576) (VV : List Int) (NN : Nat) (EE : Int) (hN : NN ≤ 1048576) (w : World)
    (hS : ∀ (U : World), Calls Try.prog 25 #[.agg (nodC l r nm vl)] U fun e w' => ∃ a cap, e = .returned (.tuple #[.slice a NN cap, .int .i64 EE]) ∧ Rd .u8 w' a NN VV ∧ Below U.heap.size U w')
    (hI : ∀ (U : World), Calls Try.prog 27 #[.agg (nodC l r nm vl)] U fun e w' => ∃ v, e = .returned (.tuple #[v, .int .i64 EE]) ∧ OwnB w' U.heap.size v NN VV ∧ Below U.heap.size U w') :
    Calls Try.prog 4 #[.agg (nodC l r nm vl)] w fun e w' => e = .returned (.bool true) ∧ Below w.heap.size w w' := by
  have HS := Lib.hid (nodC_size nm vl hl hr)
  have A0' := heap_alloc_last w (.cells (nodC l r nm vl) 38)
  have B0' := (Below.refl w.heap.size w).alloc (Nat.le_refl _) (.cells (nodC l r nm vl) 38)
  obtain ⟨w0, hw0⟩ : ∃ w0, w.alloc (.cells (nodC l r nm vl) 38) = w0 := ⟨_, rfl⟩
  rw [hw0] at A0' B0'
  have A0 := Lib.hid A0'
  have B0 := Lib.hid B0'
  have HZ := Lib.hid (fun U => szN_in l r nm vl hl hr 1048576 (by omega) (by omega) hs ht (by omega) U)
  have HT := Lib.hid (fun U => toNode l r nm vl hl hr U)
  have HSP := Lib.hid hS
  have HIM := Lib.hid hI
  have q0 : ¬ (1048576 : Int) - (nm.size : Int) - (vl.size : Int) < 0 := by omega
  have q1 : ¬ (1 : Int) + (NN : Int) < 0 := by omega
  clear A0' B0' hl hr hs ht h hS hI
  go_enter Try.func4, Try.ntmps4
  go_wp2_with (refine wpList_load_row rfl 38 _ rfl w.heap.size rfl 38 (nodC l r nm vl) (0, 0) _ A0.out Try.underlying38 rfl (by rw [HS.out]; exact sizeLN) ?_)
  refine (HZ.out _).mono ?_
  rintro e w1 ⟨rfl, hb⟩
  have B1 := Lib.hid (below_call B0.out B0.out.size hb)
  have A1 := Lib.hid (keep_block A0.out hb)
  clear hw0
  clear hb
  go_wp2_with (refine wpList_load_row rfl 38 _ rfl w.heap.size rfl 38 (nodC l r nm vl) (0, 0) _ A1.out Try.underlying38 rfl (by rw [HS.out]; exact sizeLN) ?_)
  refine (HT.out _).mono ?_
  rintro e w2 ⟨rfl, hb⟩
  have B2 := Lib.hid (below_call B1.out B1.out.size hb)
  have A2 := Lib.hid (keep_block A1.out hb)
  clear hb
  go_wp2_with fail
  refine (HSP.out _).mono ?_
  rintro e w3 ⟨aS, cS, rfl, hrd, hb⟩
  have B3 := Lib.hid (below_call B2.out B2.out.size hb)
  have A3 := Lib.hid (keep_block A2.out hb)
  have S3 := Lib.hid hrd
  clear hrd
  clear hb
  go_wp2_with (refine wpList_load_row rfl 38 _ rfl w.heap.size rfl 38 (nodC l r nm vl) (0, 0) _ A3.out Try.underlying38 rfl (by rw [HS.out]; exact sizeLN) ?_)
  refine (HT.out _).mono ?_
  rintro e w4 ⟨rfl, hb⟩
  have B4 := Lib.hid (below_call B3.out B3.out.size hb)
  have A4 := Lib.hid (keep_block A3.out hb)
  have S4 := Lib.hid (S3.out.below hb)
  clear hb
  go_wp2_with fail
  refine (HIM.out _).mono ?_
  rintro e w5 ⟨vG, rfl, ho, hb⟩
  have B5 := Lib.hid (below_call B4.out B4.out.size hb)
  have A5 := Lib.hid (keep_block A4.out hb)
  have S5 := Lib.hid (S4.out.below hb)
  obtain ⟨aG, cG, rfl, hrd, ho'⟩ := ho.read
  have G5 := Lib.hid hrd
  have O5 := Lib.hid ho'
  have D5 := Lib.hid hb
  clear hrd ho ho'
  clear hb
  go_wp2_with fail
  refine (eqBS _ _ NN _ _ VV (by omega) _ G5.out S5.out).mono ?_
  rintro e w6 ⟨rfl, hb⟩
  have B6 := Lib.hid (below_call B5.out B5.out.size hb)
  have A6 := Lib.hid (keep_block A5.out hb)
  have S6 := Lib.hid (S5.out.below hb)
  have O6 := Lib.hid (O5.out.below hb)
  have hD := hb
  clear hb
  have D6 := Lib.hid (below_call D5.out D5.out.size hD)
  clear hD
  obtain ⟨aM, cM, e1, HM⟩ := markOwn _ _ _ _ 1 (by omega) (by omega) (by omega) w6 O6.out
  obtain ⟨rfl, _, rfl⟩ := Value.slice.inj e1
  have HMK := Lib.hid HM
  clear HM
  go_wp2_with fail
  refine (HMK.out).mono ?_
  rintro e w7 ⟨rfl, ho, hb⟩
  have D7 := Lib.hid (D6.out.trans hb)
  have B7 := Lib.hid (below_call B4.out B4.out.size D7.out)
  have A7 := Lib.hid (keep_block A4.out D7.out)
  have S7 := Lib.hid (S4.out.below D7.out)
  obtain ⟨_, _, e1, hrd, _⟩ := ho
  obtain ⟨rfl, _, rfl⟩ := Value.slice.inj e1
  have M7 := Lib.hid hrd
  clear hb e1 hrd
  go_wp2_with fail
  refine (heldBS _ NN _ 1 (by omega) (by omega) (by omega) _ M7.out).mono ?_
  rintro e wh1 ⟨rfl, rfl⟩
  go_wp2_with (refine wpList_load_row rfl 38 _ rfl w.heap.size rfl 38 (nodC l r nm vl) (0, 0) _ A7.out Try.underlying38 rfl (by rw [HS.out]; exact sizeLN) ?_)
  refine (HT.out _).mono ?_
  rintro e w8 ⟨rfl, hb⟩
  have B8 := Lib.hid (below_call B7.out B7.out.size hb)
  have A8 := Lib.hid (keep_block A7.out hb)
  have S8 := Lib.hid (S7.out.below hb)
  have M8 := Lib.hid (M7.out.below hb)
  clear hb
  go_wp2_with fail
  refine (HIM.out _).mono ?_
  rintro e w9 ⟨vH, rfl, ho, hb⟩
  have B9 := Lib.hid (below_call B8.out B8.out.size hb)
  have A9 := Lib.hid (keep_block A8.out hb)
  have S9 := Lib.hid (S8.out.below hb)
  have M9 := Lib.hid (M8.out.below hb)
  obtain ⟨aH, cH, rfl, hrd, _⟩ := ho.read
  have H9 := Lib.hid hrd
  clear hrd ho
  clear hb
  go_wp2_with fail
  refine (eqBS _ _ NN _ _ VV (by omega) _ H9.out S9.out).mono ?_
  rintro e w10 ⟨rfl, hb⟩
  have B10 := Lib.hid (below_call B9.out B9.out.size hb)
  have A10 := Lib.hid (keep_block A9.out hb)
  have M10 := Lib.hid (M9.out.below hb)
  clear hb
  go_wp2_with fail
  refine (heldBS _ NN _ 1 (by omega) (by omega) (by omega) _ M10.out).mono ?_
  rintro e wh2 ⟨rfl, rfl⟩
  go_wp2
  go_ret
  exact ⟨rfl, B10.out⟩
set_option maxRecDepth 100000 in
set_option maxHeartbeats 2000000 in
theorem FnExactMapNodeBytes_out (l r : List Int) (nm vl : ByteArray) (hl : l.length = 32) (hr : r.length = 32) (hs : nm.size ≤ maxLen) (ht : vl.size ≤ maxLen) (h : ¬ nm.size + vl.size ≤ 1048576) (w : World) :
    Calls Try.prog 4 #[.agg (nodC l r nm vl)] w fun e w' => e = .returned (.bool true) ∧ Below w.heap.size w w' := by
  have HS := Lib.hid (nodC_size nm vl hl hr)
  have A0' := heap_alloc_last w (.cells (nodC l r nm vl) 38)
  have B0' := (Below.refl w.heap.size w).alloc (Nat.le_refl _) (.cells (nodC l r nm vl) 38)
  obtain ⟨w0, hw0⟩ : ∃ w0, w.alloc (.cells (nodC l r nm vl) 38) = w0 := ⟨_, rfl⟩
  rw [hw0] at A0' B0'
  have A0 := Lib.hid A0'
  have B0 := Lib.hid B0'
  have HZ := Lib.hid (fun U => szN_out l r nm vl hl hr 1048576 (by omega) (by omega) hs ht (by omega) U)
  clear A0' B0' hl hr hs ht h
  go_enter Try.func4, Try.ntmps4
  go_wp2_with (refine wpList_load_row rfl 38 _ rfl w.heap.size rfl 38 (nodC l r nm vl) (0, 0) _ A0.out Try.underlying38 rfl (by rw [HS.out]; exact sizeLN) ?_)
  refine (HZ.out _).mono ?_
  rintro e w1 ⟨rfl, hb⟩
  have B1 := Lib.hid (below_call B0.out B0.out.size hb)
  clear hb hw0
  go_wp2
  go_ret
  exact ⟨rfl, B1.out⟩
theorem FnExactMapNodeBytes_walk (l r : List Int) (nm vl : ByteArray) (w : World) (f : Is32' l ∧ Is32' r) (g : nm.size ≤ maxLen ∧ vl.size ≤ maxLen) :
    Calls Try.prog 4 #[.agg (nodC l r nm vl)] w fun e w' => e = .returned (.bool true) ∧ Below w.heap.size w w' := by
  by_cases h : nm.size + vl.size ≤ 1048576
  · exact FnExactMapNodeBytes_in l r nm vl f.1.1 f.2.1 g.1 g.2 h _ _ _ (by have := mbN_le nm vl; omega) w (fun U => mb_spec l r nm vl f.1.1 f.2.1 g.1 g.2 U) (fun U => mb_impl l r nm vl f.1.1 f.2.1 g.1 g.2 U)
  · exact FnExactMapNodeBytes_out l r nm vl f.1.1 f.2.1 g.1 g.2 h w
end Go.Proofs.Ytmkddiconpacnaa
