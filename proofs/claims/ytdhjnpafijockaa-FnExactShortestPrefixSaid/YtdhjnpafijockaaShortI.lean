/- Whether a list has a key, by the library. -/
import Derived.Test.YtdhjnpafijockaaShort
namespace Go.Proofs.Ytdhjnpafijockaa
open Go.ChangeShapes Go.WideShapes Go.ChangeAt Go.RowKit
set_option linter.unusedVariables false
set_option maxRecDepth 100000 in
set_option maxHeartbeats 1000000 in
theorem index_impl (a : Option Addr) (n cap : Nat) (fl key : List Int) (hn : n ≤ 256) (hk : key.length = 32) (w : World) (hr : RdK w a n fl) :
    Calls Try.prog 103 #[.slice a n cap, .agg (ints .u8 key)] w fun e w' => ∃ r : Int, e = .returned (.int .i64 r) ∧ decide (r ≥ 0) = hasB fl n key ∧ Below w.heap.size w w' := by
  obtain ⟨hl, hr⟩ := hr
  have Hl := Lib.hid hl
  have Hk := Lib.hid hk
  clear hl hk
  rcases hr with h0 | ⟨b, off, rfl, hb, hc⟩
  · have H0 := Lib.hid h0
    have Hv := Lib.hid (show hasB fl n key = false from hasB_no (fun j hj => by omega))
    clear h0
    go_enter Try.func103, Try.ntmps103
    go_wp2_with fail
    go_loopw [8] (fun i wr => ∃ k : Nat, k ≤ n ∧ i = .int .i64 k ∧ Below w.heap.size w wr) (fun i _ => n - (intOf i).toNat)
    case atStart => exact ⟨0, by omega, rfl, by go_grown⟩
    case round =>
      obtain ⟨k, hk, rfl, hb⟩ := hrel
      have HB := Lib.hid hb
      clear hb
      obtain rfl : k = n := by have := H0.out; omega
      go_wp2_with fail
      go_ret
      exact ⟨_, rfl, by rw [Hv.out]; rfl, HB.out⟩
  · have HC := Lib.hid hc
    have HL := Lib.hid hb
    clear hc hb
    go_enter Try.func103, Try.ntmps103
    go_wp2_with fail
    go_loopw [8] (fun i wr => ∃ k : Nat, k ≤ n ∧ i = .int .i64 k ∧ Hid (∀ j, j < k → keyAt fl j ≠ key) ∧ Below w.heap.size w wr ∧ wr.heap[w.heap.size]? = some (.cells (ints .u8 key) 60)) (fun i _ => n - (intOf i).toNat)
    case atStart => exact ⟨0, by omega, rfl, Lib.hid (fun j hj => by omega), by go_grown, heap_alloc_last _ _⟩
    case round =>
      obtain ⟨k, hk, rfl, hp, hb, hg⟩ := hrel
      have HB := Lib.hid hb
      have HG := Lib.hid hg
      clear hb hg
      by_cases hlt : k < n
      · have b0 : (0 : Int) ≤ (k : Int) := by omega
        have b1 : (k : Int) < (n : Int) := by omega
        go_wp2_with fail
        have Hrg := Lib.hid (keyAt_rangeAt (w := wr) (b := b) (off := off) Hl.out (fun j hj => by rw [HB.out.cell (p := ⟨b, off + j, none⟩) HL.out]; exact HC.out j hj) k hlt)
        have Hkl := Lib.hid (keyAt_len Hl.out hlt)
        generalize hkey : keyAt fl k = kk at Hrg Hkl
        have HK := Lib.hid hkey
        clear hkey
        have heq := fun W => eql_keys key kk Hk.out Hkl.out W
        refine wp_region_held_drew (S := Below (wr).heap.size (wr)) (by kernel_rfl) ((Below.refl _ _).drew) (fun hS => ?_)
        refine wpAnyH_take (i := 0) (v := .agg (ints .u8 key)) rfl (by kernel_rfl) (by kernel_rfl) (by kernel_rfl) (fun _ _ _ h => h) (yields_box (by rfl) 60 _ rfl w.heap.size rfl _ 60 _ HG.out Try.underlying60 rfl (by rw [ints_size, Hk.out]; exact sizeKey)) hS ?_
        simp only [Act.put]
        refine wpAnyH_take (i := 1) (v := .slice (some ⟨b, off, none⟩) n cap) rfl (by kernel_rfl) (by kernel_rfl) (by kernel_rfl) (fun _ _ _ h => h) (Or.inl ⟨by rfl, fun W hW => by go_simp⟩) hS ?_
        simp only [Act.put]
        refine wpAnyH_take (i := 2) (v := .int .i64 (k : Int)) rfl (by kernel_rfl) (by kernel_rfl) (by kernel_rfl) (fun _ _ _ h => h) (Or.inl ⟨by rfl, fun W hW => by go_simp⟩) hS ?_
        simp only [Act.put]
        refine wpAnyH_take (i := 3) (v := .pointer (some ⟨b, off + k * 32, none⟩)) rfl (by kernel_rfl) (by kernel_rfl) (by kernel_rfl) (fun _ _ _ h => h) (Or.inl ⟨by rfl, fun W hW => by go_simp⟩) hS ?_
        simp only [Act.put]
        refine wpAnyH_take (i := 4) (v := .agg (ints .u8 kk)) rfl (by kernel_rfl) (by kernel_rfl) (by kernel_rfl) (fun _ _ _ h => h) (yieldsIf_load_mid (by rfl) 60 _ rfl b (off + k * 32) rfl (kk.map (Value.int .u8)) _ (fun W hW => rangeAt_below Hrg.out hW) Try.underlying60 rfl (by rw [List.length_map, Hkl.out]; exact sizeKey)) hS ?_
        simp only [Act.put]
        refine wpAnyH_take (i := 5) (v := .bool (decide (key = kk))) rfl (by kernel_rfl) (by kernel_rfl) (by kernel_rfl) (fun _ _ _ h => h) (Or.inl ⟨by rfl, fun W hW => by go_simp⟩) hS ?_
        simp only [Act.put]
        refine wpAnyH_done (by kernel_rfl) ?_ _
        have HS := Lib.hid (HB.out.trans (hS.mono HB.out.size))
        have HX := Lib.hid hS
        clear hS heq
        by_cases hkk : key = kk
        · have Hv := Lib.hid (hasB_yes hlt (HK.out.trans hkk.symm))
          rw [decide_eq_true hkk]
          clear hkk
          go_wp2_with fail
          go_ret
          exact ⟨_, rfl, by rw [Hv.out]; simp, HS.out⟩
        · rw [decide_eq_false hkk]
          have Hp := Lib.hid (show ∀ j, j < k + 1 → keyAt fl j ≠ key from fun j hj => by
            by_cases h : j = k
            · subst h; rw [HK.out]; exact fun e => hkk e.symm
            · exact hp.out j (by omega))
          clear hkk
          have HG' := Lib.hid (keep_block HG.out HX.out)
          go_wp2_with fail
          go_roundw
          case rel => exact ⟨k + 1, by omega, by go_num, Hp, HS.out, HG'.out⟩
          case measure => simp [intOf]; omega
      · obtain rfl : k = n := by omega
        have Hv := Lib.hid (hasB_no hp.out)
        go_wp2_with fail
        go_ret
        exact ⟨_, rfl, by rw [Hv.out]; rfl, HB.out⟩
set_option maxRecDepth 100000 in
set_option maxHeartbeats 1000000 in
theorem contains_impl (a : Option Addr) (n cap : Nat) (fl key : List Int) (hn : n ≤ 256) (hk : key.length = 32) (w : World) (hr : RdK w a n fl) :
    Calls Try.prog 82 #[.slice a n cap, .agg (ints .u8 key)] w fun e w' => e = .returned (.bool (hasB fl n key)) ∧ Below w.heap.size w w' := by
  have Hi := Lib.hid (fun (W : World) h => index_impl a n cap fl key hn hk W h)
  have Hk := Lib.hid hk
  have Hr := Lib.hid hr
  clear hr hk
  generalize hasB fl n key = V at Hi
  go_enter Try.func82, Try.ntmps82
  go_wp2_with (refine wpList_load_row rfl 60 (.tmp 3) rfl w.heap.size rfl 60 (ints .u8 key) (0, 0) _ (heap_alloc_last _ _) Try.underlying60 rfl (by rw [ints_size, Hk.out]; exact sizeKey) ?_)
  refine (Hi.out _ (Hr.out.below ((Below.refl _ _).alloc (by simp) _))).mono ?_
  rintro e w1 ⟨r, rfl, hv, hb⟩
  have HS := Lib.hid (((Below.refl w.heap.size w).alloc (by simp) (.cells (ints .u8 key) 60)).trans (hb.mono (by simp)))
  have Hv := Lib.hid hv
  clear hb hv
  go_wp2_with fail
  go_ret
  exact ⟨ret_bl Hv.out.symm, HS.out⟩
end Go.Proofs.Ytdhjnpafijockaa
