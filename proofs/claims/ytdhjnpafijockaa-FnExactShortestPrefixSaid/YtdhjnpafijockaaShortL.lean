/- The statement on ShortestPrefix: its walk. -/
import Derived.Test.YtdhjnpafijockaaShortP
namespace Go.Proofs.Ytdhjnpafijockaa
open Go.ChangeShapes Go.WideShapes Go.ChangeAt Go.RowKit
set_option linter.unusedVariables false
set_option maxRecDepth 100000 in
set_option maxHeartbeats 2000000 in
theorem shortl_in (a : Option Addr) (n cap : Nat) (fl key : List Int) (hn : n ≤ 1048576) (hk : key.length = 32) (w : World) (hr : RdK w a n fl) :
    Calls Try.prog 9 #[.slice a n cap, .agg (ints .u8 key)] w fun e w' => e = .returned (.bool true) ∧ Below w.heap.size w w' := by
  have Hk := Lib.hid hk
  have Hr := Lib.hid hr
  have Hl := Lib.hid hr.1
  have Hs := Lib.hid (fun (b : Option Addr) (W : World) h => short_spec b n n fl key hn hk W h)
  have Hi := Lib.hid (fun (b : Option Addr) (W : World) h => short_impl b n n fl key hn hk W h)
  clear hr hk
  generalize shortV fl key n = V at Hs Hi
  generalize shortE fl key n = E at Hs Hi
  go_enter Try.func9, Try.ntmps9
  go_wp2_with fail
  refine (szKS_in a n cap 1048576 (by omega) (by omega) (by omega) _).mono ?_
  rintro e v0 ⟨rfl, rfl⟩
  go_wp2_with fail
  refine wp_region_held_drew (S := Below (w.alloc (.cells (ints .u8 key) 59)).heap.size (w.alloc (.cells (ints .u8 key) 59))) (by kernel_rfl) ((Below.refl _ _).drew) (fun hS => ?_)
  refine take_at (i := 0) (v := .slice a n cap) rfl rfl (by kernel_rfl) (by kernel_rfl) (by kernel_rfl) (fun _ _ _ h => h) (Or.inl ⟨by rfl, fun W hW => by go_simp⟩) hS ?_
  refine take_at (i := 2) (v := .agg (ints .u8 key)) rfl rfl (by kernel_rfl) (by kernel_rfl) (by kernel_rfl) (fun _ _ _ h => h) (yields_box (by rfl) 59 _ rfl w.heap.size rfl _ 59 _ (heap_alloc_last _ _) Try.underlying59 rfl (by rw [ints_size, Hk.out]; exact sizeA32)) hS ?_
  simp only [List.setIfInBounds_toArray, List.set_cons_zero, List.set_cons_succ]
  refine wpAnyH_ready (rs := [1]) (by kernel_rfl) (by simp) ?_
  refine AllReadyH.cons rfl (fun K hK => ?_) AllReadyH.nil
  rw [if_pos (by rfl)]
  go_simp
  refine (toKS a n cap fl hn _ (Hr.out.below ((((Below.refl w.heap.size w).alloc (by simp) (.cells (ints .u8 key) 59))).trans (hS.mono (by simp))))).mono ?_
  rintro e w1 ⟨rfl, hg, hb⟩
  simp only [World.size_drew, World.size_alloc] at hg
  have S1 := below_call hS hS.size hb
  refine hK.out _ _ S1 (fun hS => ?_)
  clear hb hK
  refine wpAnyH_ready (rs := [3]) (by kernel_rfl) (by simp) ?_
  refine AllReadyH.cons rfl (fun K hK => ?_) AllReadyH.nil
  rw [if_pos (by rfl)]
  go_simp
  refine (toKey_ key Hk.out _).mono ?_
  rintro e w2 ⟨rfl, hb⟩
  have hg2 := keep_block hg hb
  refine hK.out _ _ (below_call hS hS.size hb) (fun hS => ?_)
  clear hb hK
  refine wpAnyH_ready (rs := [4]) (by kernel_rfl) (by simp) ?_
  refine AllReadyH.cons rfl (fun K hK => ?_) AllReadyH.nil
  rw [if_pos (by rfl)]
  go_simp
  refine (Hs.out _ _ (RdK.row Hl.out hg2)).mono ?_
  rintro e w3 ⟨rfl, hb⟩
  refine hK.out _ _ (below_call hS hS.size hb) (fun hS => ?_)
  clear hb hK hg hg2 S1
  refine take_at (i := 5) (v := .tuple #[.int .i64 V, .int .i64 E]) rfl rfl (by kernel_rfl) (by kernel_rfl) (by kernel_rfl) (fun _ _ _ h => h) (Or.inl ⟨by rfl, fun W hW => by go_simp⟩) hS ?_
  refine take_at (i := 6) (v := .int .i64 V) rfl rfl (by kernel_rfl) (by kernel_rfl) (by kernel_rfl) (fun _ _ _ h => h) (Or.inl ⟨by rfl, fun W hW => by go_simp⟩) hS ?_
  refine take_at (i := 7) (v := .int .i64 E) rfl rfl (by kernel_rfl) (by kernel_rfl) (by kernel_rfl) (fun _ _ _ h => h) (Or.inl ⟨by rfl, fun W hW => by go_simp⟩) hS ?_
  refine take_at (i := 8) (v := .int .i64 V) rfl rfl (by kernel_rfl) (by kernel_rfl) (by kernel_rfl) (fun _ _ _ h => h) (Or.inl ⟨by rfl, fun W hW => by go_simp⟩) hS ?_
  refine take_at (i := 9) (v := .int .i64 E) rfl rfl (by kernel_rfl) (by kernel_rfl) (by kernel_rfl) (fun _ _ _ h => h) (Or.inl ⟨by rfl, fun W hW => by go_simp⟩) hS ?_
  refine wpAnyH_done (by kernel_rfl) ?_ _
  simp only [List.setIfInBounds_toArray, List.set_cons_zero, List.set_cons_succ]
  have L1 := Lib.hid (((Below.refl w.heap.size w).alloc (by simp) (.cells (ints .u8 key) 59)).trans (hS.mono (by simp)))
  have A1 := Lib.hid ((hS.block w.heap.size (by simp)).trans (heap_alloc_last w (.cells (ints .u8 key) 59)))
  clear hS
  go_wp2_with fail
  refine (toKS a n cap fl hn _ (Hr.out.below L1.out)).mono ?_
  rintro e w4 ⟨rfl, hg, hb⟩
  have L2 := Lib.hid (below_call L1.out L1.out.size hb)
  have A2 := Lib.hid (keep_block A1.out hb)
  have X2 := Lib.hid hg
  clear hb hg
  generalize hgx : w3.heap.size = gx at X2
  have HGX := Lib.hid hgx
  clear hgx
  go_wp2_with (refine wpList_load_row rfl 59 (.tmp 3) rfl w.heap.size rfl 59 (ints .u8 key) (0, 0) _ A2.out Try.underlying59 rfl (by rw [ints_size, Hk.out]; exact sizeA32) ?_)
  refine (toKey_ key Hk.out _).mono ?_
  rintro e w5 ⟨rfl, hb⟩
  have L25 := Lib.hid (below_call L2.out L2.out.size hb)
  have X25 := Lib.hid (keep_block X2.out hb)
  clear hb
  go_wp2_with fail
  refine (Hi.out _ _ (RdK.row Hl.out X25.out)).mono ?_
  rintro e w6 ⟨rfl, hb⟩
  have L3 := Lib.hid (below_call L25.out L25.out.size hb)
  have X3 := Lib.hid (keep_block X25.out hb)
  clear hb
  go_wp2_with fail
  refine (toKS a n cap fl hn _ (Hr.out.below L3.out)).mono ?_
  rintro e w7 ⟨rfl, hg, hb⟩
  have L4 := Lib.hid (below_call L3.out L3.out.size hb)
  have X4 := Lib.hid (keep_block X3.out hb)
  have Y4 := Lib.hid hg
  clear hb hg
  go_wp2_with fail
  refine (eqKS _ _ n n n fl hn _ (RdK.row Hl.out X4.out) (RdK.row Hl.out Y4.out)).mono ?_
  rintro e w8 ⟨rfl, hb⟩
  have L5 := Lib.hid (below_call L4.out L4.out.size hb)
  clear hb
  go_wp2
  go_ret
  exact ⟨rfl, L5.out⟩
set_option maxRecDepth 100000 in
set_option maxHeartbeats 1000000 in
theorem shortl_out (a : Option Addr) (n cap : Nat) (key : List Int) (hm : n ≤ maxLen) (hn : ¬ n ≤ 1048576) (w : World) :
    Calls Try.prog 9 #[.slice a n cap, .agg (ints .u8 key)] w fun e w' => e = .returned (.bool true) ∧ Below w.heap.size w w' := by
  unfold maxLen at hm
  have h1 : (1048576 : Int) < (n : Int) := by omega
  go_enter Try.func9, Try.ntmps9
  go_wp2_with fail
  refine (szKS_out a n cap 1048576 (by omega) (by omega) hm h1 _).mono ?_
  rintro e v0 ⟨rfl, rfl⟩
  go_wp2
  go_ret
  exact ⟨rfl, (Below.refl _ _).alloc (by simp) _⟩
theorem FnExactShortestPrefix_walk (a : Option Addr) (n cap : Nat) (fl key : List Int) (w : World) (f : IsKeys w a n fl) (hk : key.length = 32) (fk : ∀ z ∈ key, (Lit.int .u8 z).wf = true) :
    Calls Try.prog 9 #[.slice a n cap, .agg (ints .u8 key)] w fun e w' => e = .returned (.bool true) ∧ Below w.heap.size w w' := by
  by_cases hn : n ≤ 1048576
  · exact shortl_in a n cap fl key hn hk w f.2.1
  · exact shortl_out a n cap key f.1 hn w
end Go.Proofs.Ytdhjnpafijockaa
