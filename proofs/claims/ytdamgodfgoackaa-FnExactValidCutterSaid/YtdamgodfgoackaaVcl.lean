/- The statement on ValidCutter: its walk. -/
import Derived.Test.YtdamgodfgoackaaVcut
import Derived.Test.YtdamgodfgoackaaVspec
namespace Go.Proofs.Ytdamgodfgoackaa
open Go.ChangeShapes Go.WideShapes Go.ChangeAt Go.RowKit
set_option linter.unusedVariables false
set_option maxRecDepth 100000 in
set_option maxHeartbeats 4000000 in
theorem vcl_in (lo mo bi q : Int) (a : Option Addr) (n cap : Nat) (l : List Int) (hn : n ≤ 1048576) (fl : ∀ z ∈ l, 0 ≤ z ∧ z ≤ 255) (w : World) (hr : Rd .u8 w a n l) :
    Calls Try.prog 9 #[.agg #[.int .i64 lo, .int .i64 mo, .int .i64 bi, .int .u32 q, .slice a n cap]] w fun e w' => e = .returned (.bool true) ∧ Below w.heap.size w w' := by
  have Hr := Lib.hid hr
  have Hl := Lib.hid hr.1
  have Hs := Lib.hid (fun g (W : World) h => validcut_spec (some ⟨g, 0, none⟩) n n lo mo bi q l fl hn W h)
  have Hi := Lib.hid (fun g (W : World) h => validcut_impl (some ⟨g, 0, none⟩) n n lo mo bi q l fl hn (Nat.le_refl _) (by unfold maxLen; omega) W h)
  clear hr fl
  generalize fitP lo mo bi q l = V at Hs Hi
  go_enter Try.func9, Try.ntmps9
  go_wp2_with fail
  refine (szC_in _ _ _ _ a n cap 1048576 (by omega) (by omega) (by omega) _).mono ?_
  rintro e w1 ⟨rfl, hb⟩
  have L1 := Lib.hid (((Below.refl w.heap.size w).alloc (by simp) (.cells #[.int .i64 lo, .int .i64 mo, .int .i64 bi, .int .u32 q, .slice a n cap] 59)).trans (hb.mono (by simp)))
  have A1 := Lib.hid (keep_block (heap_alloc_last w (.cells #[.int .i64 lo, .int .i64 mo, .int .i64 bi, .int .u32 q, .slice a n cap] 59)) hb)
  clear hb
  go_wp2_with (refine wpList_load_row rfl 59 _ rfl w.heap.size rfl 59 #[.int .i64 lo, .int .i64 mo, .int .i64 bi, .int .u32 q, .slice a n cap] (0, 0) _ A1.out Try.underlying59 rfl sizeCl ?_)
  refine (toC _ _ _ _ a n cap l hn _ (Hr.out.below L1.out)).mono ?_
  rintro e w2 ⟨g2, rfl, hg, hb⟩
  have L2 := Lib.hid (below_call L1.out L1.out.size hb)
  have A2 := Lib.hid (keep_block A1.out hb)
  have R2 := Rd.row hg
  rw [Hl.out] at R2
  have HR2 := Lib.hid R2
  clear hb hg R2
  go_wp2_with fail
  refine (Hs.out _ _ HR2.out).mono ?_
  rintro e w3 ⟨rfl, hb⟩
  have L3 := Lib.hid (below_call L2.out L2.out.size hb)
  have A3 := Lib.hid (keep_block A2.out hb)
  clear hb
  go_wp2_with (refine wpList_load_row rfl 59 _ rfl w.heap.size rfl 59 #[.int .i64 lo, .int .i64 mo, .int .i64 bi, .int .u32 q, .slice a n cap] (0, 0) _ A3.out Try.underlying59 rfl sizeCl ?_)
  refine (toC _ _ _ _ a n cap l hn _ (Hr.out.below L3.out)).mono ?_
  rintro e w4 ⟨g4, rfl, hg, hb⟩
  have L4 := Lib.hid ((below_call L3.out L3.out.size hb).alloc (Nat.le_trans L3.out.size hb.size) (.cells #[.int .i64 lo, .int .i64 mo, .int .i64 bi, .int .u32 q, .slice (some ⟨g4, 0, none⟩) n n] 64))
  have A4 := Lib.hid ((Below.heap_alloc w4 (.cells #[.int .i64 lo, .int .i64 mo, .int .i64 bi, .int .u32 q, .slice (some ⟨g4, 0, none⟩) n n] 64) _ (Array.getElem?_eq_some_iff.1 (keep_block A3.out hb)).1).trans (keep_block A3.out hb))
  have G4 := Lib.hid ((Below.heap_alloc w4 (.cells #[.int .i64 lo, .int .i64 mo, .int .i64 bi, .int .u32 q, .slice (some ⟨g4, 0, none⟩) n n] 64) _ (Array.getElem?_eq_some_iff.1 hg).1).trans hg)
  have H4 := Lib.hid (heap_alloc_last w4 (.cells #[.int .i64 lo, .int .i64 mo, .int .i64 bi, .int .u32 q, .slice (some ⟨g4, 0, none⟩) n n] 64))
  have R4 := Rd.row G4.out
  rw [Hl.out] at R4
  have HR4 := Lib.hid R4
  clear hb hg R4
  go_wp2_with (first | (refine wpList_store_row rfl 64 _ _ rfl w4.heap.size #[.int .i64 lo, .int .i64 mo, .int .i64 bi, .int .u32 q, .slice (some ⟨g4, 0, none⟩) n n] rfl rfl 64 #[.int .i64 0, .int .i64 0, .int .i64 0, .int .u32 0, .slice none 0 0] (heap_alloc_last _ _) sizeCi rfl (by simp [Value.oneCell']) ?_; rw [World.setRow_alloc_new]) | (refine wpList_load_row rfl 64 _ rfl w4.heap.size rfl 64 #[.int .i64 lo, .int .i64 mo, .int .i64 bi, .int .u32 q, .slice (some ⟨g4, 0, none⟩) n n] (0, 0) _ H4.out Try.underlying64 rfl sizeCi ?_))
  refine (Hi.out _ _ HR4.out).mono ?_
  rintro e w8 ⟨rfl, hb⟩
  have L8 := Lib.hid (below_call L4.out L4.out.size hb)
  have A8 := Lib.hid (keep_block A4.out hb)
  have G8 := Lib.hid (keep_block G4.out hb)
  have H8 := Lib.hid (keep_block H4.out hb)
  clear hb
  go_wp2_with fail
  refine wp_region_held_drew (S := Below w8.heap.size w8) (by kernel_rfl) ((Below.refl _ _).drew) (fun hS => ?_)
  refine wpAnyH_take (i := 0) (v := _) rfl (by kernel_rfl) (by kernel_rfl) (by kernel_rfl) (fun _ _ _ h => h) (yields_box (by rfl) 64 _ rfl w4.heap.size rfl _ 64 _ H8.out Try.underlying64 rfl sizeCi) hS ?_
  refine wpAnyH_take (i := 1) (v := _) rfl (by kernel_rfl) (by kernel_rfl) (by kernel_rfl) (fun _ _ _ h => h) (yields_box (by rfl) 59 _ rfl w.heap.size rfl _ 59 _ A8.out Try.underlying59 rfl sizeCl) hS ?_
  refine wpAnyH_ready (rs := [2]) (by kernel_rfl) (by simp) ?_
  refine AllReadyH.cons rfl (fun K hK => ?_) AllReadyH.nil
  rw [if_pos (by rfl)]
  go_simp
  refine (toC _ _ _ _ a n cap l hn _ (Hr.out.below (below_call L8.out L8.out.size hS))).mono ?_
  rintro e v1 ⟨_, rfl, hg6, hb⟩
  have S6 := below_call hS hS.size hb
  refine hK.out _ _ S6 (fun hS => ?_)
  clear hb hK
  refine wpAnyH_ready (rs := [3]) (by kernel_rfl) (by simp) ?_
  refine AllReadyH.cons rfl (fun K hK => ?_) AllReadyH.nil
  rw [if_pos (by rfl)]
  go_simp
  have R1 := Rd.row (keep_block G8.out S6)
  have R2 := Rd.row hg6
  rw [Hl.out] at R1 R2
  refine (eqC _ _ _ _ _ _ n n n l hn _ R1 R2).mono ?_
  rintro e v2 ⟨rfl, hb⟩
  have S7 := below_call S6 S6.size hb
  refine hK.out _ _ S7 (fun hS => ?_)
  clear hb hK
  refine wpAnyH_ready (rs := [4]) (by kernel_rfl) (by simp) ?_
  refine AllReadyH.cons rfl (fun K hK => ?_) AllReadyH.nil
  rw [if_pos (by rfl)]
  go_simp
  refine hK.out _ _ S7 (fun hS => ?_)
  refine wpAnyH_done (by kernel_rfl) ?_ _
  have L9 := Lib.hid (below_call L8.out L8.out.size S7)
  clear R1 R2 S6 S7 hg6 hK hS
  go_wp2
  go_ret
  exact ⟨rfl, L9.out⟩
set_option maxRecDepth 100000 in
set_option maxHeartbeats 2000000 in
theorem vcl_out (lo mo bi q : Int) (a : Option Addr) (n cap : Nat) (hm : n ≤ maxLen) (hn : ¬ n ≤ 1048576) (w : World) :
    Calls Try.prog 9 #[.agg #[.int .i64 lo, .int .i64 mo, .int .i64 bi, .int .u32 q, .slice a n cap]] w fun e w' => e = .returned (.bool true) ∧ Below w.heap.size w w' := by
  unfold maxLen at hm
  have h1 : (1048576 : Int) < (n : Int) := by omega
  go_enter Try.func9, Try.ntmps9
  go_wp2_with fail
  refine (szC_out _ _ _ _ a n cap 1048576 (by omega) (by omega) hm h1 _).mono ?_
  rintro e w1 ⟨rfl, hb⟩
  have L1 := Lib.hid (((Below.refl w.heap.size w).alloc (by simp) (.cells #[.int .i64 lo, .int .i64 mo, .int .i64 bi, .int .u32 q, .slice a n cap] 59)).trans (hb.mono (by simp)))
  clear hb
  go_wp2
  go_ret
  exact ⟨rfl, L1.out⟩
theorem FnExactValidCutter_walk (lo mo bi q : Int) (a : Option Addr) (n cap : Nat) (zs : List Int) (w : World) (f : IsRow .u8 w a n cap zs) (g : ∀ z ∈ [lo, mo, bi], (Lit.int .i64 z).wf = true) (e : (Lit.int .u32 q).wf = true) :
    Calls Try.prog 9 #[.agg #[.int .i64 lo, .int .i64 mo, .int .i64 bi, .int .u32 q, .slice a n cap]] w fun e w' => e = .returned (.bool true) ∧ Below w.heap.size w w' := by
  by_cases hn : n ≤ 1048576
  · exact vcl_in lo mo bi q a n cap (zs.take n) hn (fun z hz => bounds_u8 (rd_wf f z hz)) w (rd_of_row f)
  · exact vcl_out lo mo bi q a n cap (row_len f) hn w
end Go.Proofs.Ytdamgodfgoackaa
