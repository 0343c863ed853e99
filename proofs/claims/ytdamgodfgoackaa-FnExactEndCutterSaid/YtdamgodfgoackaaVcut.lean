/- Whether a cutter is valid: the program's function. -/
import Derived.Test.YtdamgodfgoackaaFits
import Derived.Test.YtdamgodfgoackaaCutter
namespace Go.Proofs.Ytdamgodfgoackaa
open Go.ChangeShapes Go.WideShapes Go.ChangeAt Go.RowKit
set_option linter.unusedVariables false
theorem fits_impl (g : Nat) (a : Option Addr) (N cap : Nat) (lo mo bi q : Int) (L : List Int) (fl : ∀ z ∈ L, 0 ≤ z ∧ z ≤ 255) (hN : N ≤ 1048576) (hcap : N ≤ cap) (hcap2 : cap ≤ maxLen) (w : World) (hg : w.heap[g]? = some (.cells (#[.int .i64 lo, .int .i64 mo, .int .i64 bi] ++ ints .u32 rollT) 145)) (hr : Rd .u8 w a N L) :
    Calls Try.prog 89 #[.pointer (some ⟨g, 0, none⟩), .agg #[.int .i64 lo, .int .i64 mo, .int .i64 bi, .int .u32 q, .slice a N cap]] w fun e w' => e = .returned (.bool (fitP lo mo bi q L)) ∧ Below w.heap.size w w' := by
  have hgl := (Array.getElem?_eq_some_iff.1 hg).1
  rcases hr.2 with h0 | ⟨b, off, rfl, hb, hc⟩
  · exact callsIn_wide.1 (fits_in 4 g g (Nat.le_refl _) a 0 N cap lo mo bi q L hr.1 fl hN (Or.inl h0) hcap hcap2 w hg hgl (fun j hj => by omega) hr)
  · exact callsIn_wide.1 (fits_in 4 g b (Nat.le_refl _) (some ⟨b, off, none⟩) off N cap lo mo bi q L hr.1 fl hN (Or.inr rfl) hcap hcap2 w hg hb hc hr)
set_option maxRecDepth 100000 in
set_option maxHeartbeats 2000000 in
theorem validcut_impl (a : Option Addr) (N cap : Nat) (lo mo bi q : Int) (L : List Int) (fl : ∀ z ∈ L, 0 ≤ z ∧ z ≤ 255) (hN : N ≤ 1048576) (hcap : N ≤ cap) (hcap2 : cap ≤ maxLen) (w : World) (hr : Rd .u8 w a N L) :
    Calls Try.prog 43 #[.agg #[.int .i64 lo, .int .i64 mo, .int .i64 bi, .int .u32 q, .slice a N cap]] w fun e w' => e = .returned (.bool (fitP lo mo bi q L)) ∧ Below w.heap.size w w' := by
  have Hr := Lib.hid hr
  have Hk := Lib.hid (fun W => knife_impl lo mo bi W)
  have Hf := Lib.hid (fun g W h1 h2 => fits_impl g a N cap lo mo bi q L fl hN hcap hcap2 W h1 h2)
  have G1 := Lib.hid (heap_alloc_last w (.cells #[.int .i64 lo, .int .i64 mo, .int .i64 bi, .int .u32 q, .slice a N cap] 64))
  have HB := Lib.hid ((Below.refl w.heap.size w).alloc (Nat.le_refl _) (.cells #[.int .i64 lo, .int .i64 mo, .int .i64 bi, .int .u32 q, .slice a N cap] 64))
  clear hr fl
  generalize fitP lo mo bi q L = V at Hf
  generalize rollT = T at Hk Hf
  obtain ⟨W0, hW0⟩ : ∃ W0, w.alloc (.cells #[.int .i64 lo, .int .i64 mo, .int .i64 bi, .int .u32 q, .slice a N cap] 64) = W0 := ⟨_, rfl⟩
  have HSZ : Hid (W0.heap.size = w.heap.size + 1) := Lib.hid (by rw [← hW0]; simp)
  rw [hW0] at G1 HB
  go_enter Try.func43, Try.ntmps43
  go_wp2_with fail
  clear hW0
  refine wp_region_held_drew (S := Below W0.heap.size W0) (by kernel_rfl) ((Below.refl _ _).drew) (fun hS => ?_)
  refine take_on (i := 0) (v := .pointer (some ⟨w.heap.size, 0, none⟩)) rfl rfl (by kernel_rfl) (by kernel_rfl) (by kernel_rfl) (fun _ _ _ h => h) (Or.inl ⟨by rfl, fun W hW => by go_simp⟩) hS ?_
  refine take_on (i := 1) (v := .agg #[.int .i64 lo, .int .i64 mo, .int .i64 bi]) rfl rfl (by kernel_rfl) (by kernel_rfl) (by kernel_rfl) (fun _ _ _ h => h) (yieldsIf_load_mid (by rfl) 62 _ rfl w.heap.size 0 rfl [.int .i64 lo, .int .i64 mo, .int .i64 bi] _ (fun W hW => rangeAt_below (head3 G1.out) hW) Try.underlying62 rfl sizeRi) hS ?_
  refine take_on (i := 3) (v := .agg #[.int .i64 lo, .int .i64 mo, .int .i64 bi, .int .u32 q, .slice a N cap]) rfl rfl (by kernel_rfl) (by kernel_rfl) (by kernel_rfl) (fun _ _ _ h => h) (yields_box (by rfl) 64 _ rfl w.heap.size rfl _ 64 _ G1.out Try.underlying64 rfl sizeCi) hS ?_
  simp only [List.setIfInBounds_toArray, List.set_cons_zero, List.set_cons_succ]
  refine wpAnyH_ready (rs := [2]) (by kernel_rfl) (by simp) ?_
  refine AllReadyH.cons rfl (fun K hK => ?_) AllReadyH.nil
  rw [if_pos (by rfl)]
  go_simp
  refine (Hk.out _).mono ?_
  rintro e u1 ⟨g, rfl, hgk, hb⟩
  have HGK := Lib.hid hgk
  clear hgk
  refine hK.out _ _ (below_call hS hS.size hb) (fun hS => ?_)
  clear hb hK
  refine wpAnyH_ready (rs := [4]) (by kernel_rfl) (by simp) ?_
  refine AllReadyH.cons rfl (fun K hK => ?_) AllReadyH.nil
  rw [if_pos (by rfl)]
  go_simp
  refine (Hf.out _ _ HGK.out (Hr.out.below (HB.out.trans (hS.mono HB.out.size)))).mono ?_
  rintro e u2 ⟨rfl, hb⟩
  refine hK.out _ _ (below_call hS hS.size hb) (fun hS => ?_)
  clear hb hK
  refine take_on (i := 5) (v := .bool V) rfl rfl (by kernel_rfl) (by kernel_rfl) (by kernel_rfl) (fun _ _ _ h => h) (Or.inl ⟨by rfl, fun W hW => by go_simp⟩) hS ?_
  refine wpAnyH_done (by kernel_rfl) ?_ _
  simp only [List.setIfInBounds_toArray, List.set_cons_zero, List.set_cons_succ]
  have B9 := Lib.hid (HB.out.trans (hS.mono HB.out.size))
  clear hS
  go_wp2_with fail
  go_ret
  exact ⟨rfl, B9.out⟩
end Go.Proofs.Ytdamgodfgoackaa
