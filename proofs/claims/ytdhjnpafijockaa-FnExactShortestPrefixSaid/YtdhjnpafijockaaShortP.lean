/- The shortest prefix of a key, as the program has it. -/
import Derived.Test.YtdhjnpafijockaaShortI
import Derived.Test.YtdhjnpafijockaaShortS
namespace Go.Proofs.Ytdhjnpafijockaa
open Go.ChangeShapes Go.WideShapes Go.ChangeAt Go.RowKit
set_option linter.unusedVariables false
set_option maxRecDepth 100000 in
set_option maxHeartbeats 1000000 in
theorem short_impl (a : Option Addr) (n cap : Nat) (fl key : List Int) (hn : n ≤ 1048576) (hk : key.length = 32) (w : World) (hr : RdK w a n fl) :
    Calls Try.prog 46 #[.slice a n cap, .agg (ints .u8 key)] w fun e w' => e = .returned (.tuple #[.int .i64 (shortV fl key n), .int .i64 (shortE fl key n)]) ∧ Below w.heap.size w w' := by
  have Hz := Lib.hid z32_ints
  have Hk := Lib.hid hk
  have Hr := Lib.hid hr
  by_cases hlim : n ≤ 256
  · have Hh := Lib.hid (fun (W : World) h => contains_impl a n cap fl key hlim hk W h)
    clear hk hr
    cases hh : hasB fl n key
    · have Hv := Lib.hid (show shortV fl key n = 0 by simp [shortV, hh])
      have He := Lib.hid (show shortE fl key n = 6 by rw [shortE, if_neg (by omega), hh]; rfl)
      rw [hh] at Hh
      clear hh
      generalize shortV fl key n = V at Hv
      generalize shortE fl key n = E at He
      go_enter Try.func46, Try.ntmps46
      go_wp2_with (refine wpList_load_row rfl 60 (.tmp 3) rfl w.heap.size rfl 60 (ints .u8 key) (0, 0) _ (heap_alloc_last _ _) Try.underlying60 rfl (by rw [ints_size, Hk.out]; exact sizeKey) ?_)
      refine (Hh.out _ (Hr.out.below ((Below.refl _ _).alloc (by simp) _))).mono ?_
      rintro e w1 ⟨rfl, hb⟩
      have HS := Lib.hid (((Below.refl w.heap.size w).alloc (by simp) (.cells (ints .u8 key) 60)).trans (hb.mono (by simp)))
      clear hb
      go_wp2_with fail
      go_ret2
      exact ⟨by rw [Hv.out, He.out]; rfl, HS.out⟩
    · have Hv := Lib.hid (show shortV fl key n = mostK fl key n by rw [shortV, if_neg (by omega), hh]; rfl)
      have He := Lib.hid (show shortE fl key n = 0 by rw [shortE, if_neg (by omega), hh]; rfl)
      rw [hh] at Hh
      clear hh
      generalize shortV fl key n = V at Hv
      generalize shortE fl key n = E at He
      go_enter Try.func46, Try.ntmps46
      go_wp2_with (refine wpList_load_row rfl 60 (.tmp 3) rfl w.heap.size rfl 60 (ints .u8 key) (0, 0) _ (heap_alloc_last _ _) Try.underlying60 rfl (by rw [ints_size, Hk.out]; exact sizeKey) ?_)
      refine (Hh.out _ (Hr.out.below ((Below.refl _ _).alloc (by simp) _))).mono ?_
      rintro e w1 ⟨rfl, hb⟩
      have HS := Lib.hid (((Below.refl w.heap.size w).alloc (by simp) (.cells (ints .u8 key) 60)).trans (hb.mono (by simp)))
      have HG := Lib.hid (keep_block (heap_alloc_last w (.cells (ints .u8 key) 60)) hb)
      clear hb
      go_wp2_with fail
      go_loopw [6, 18] (fun m i wr => ∃ k : Nat, k ≤ n ∧ i = .int .i64 k ∧ m = .int .i64 (mostK fl key k) ∧ Below w.heap.size w wr ∧ wr.heap[w.heap.size]? = some (.cells (ints .u8 key) 60)) (fun _ i _ => n - (intOf i).toNat)
      case atStart => exact ⟨0, by omega, rfl, rfl, HS.out, HG.out⟩
      case round =>
        obtain ⟨k, hk, rfl, rfl, hb, hg⟩ := hrel
        have HB := Lib.hid hb
        have HG' := Lib.hid hg
        clear hb hg
        by_cases hlt : k < n
        · obtain ⟨hl, hr⟩ := Hr.out
          have Hl := Lib.hid hl
          have Hmr := Lib.hid (mostK_range hl Hk.out k hk)
          clear hl
          obtain ⟨b, off, rfl, hb, hc⟩ : ∃ b off, a = some ⟨b, off, none⟩ ∧ b < w.heap.size ∧ ∀ j, j < 32 * n → w.cell? ⟨b, off + j, none⟩ = some (.int .u8 (fl[j]?.getD 0)) := by
            rcases hr with h0 | h
            · omega
            · exact h
          have HC := Lib.hid hc
          have HL := Lib.hid hb
          clear hc hb hr
          have b0 : (0 : Int) ≤ (k : Int) := by omega
          have b1 : (k : Int) < (n : Int) := by omega
          have Hms : Hid (mostK fl key (k + 1) = if keyAt fl k = key then mostK fl key k else max (mostK fl key k) (digN (keyAt fl k) key)) := Lib.hid rfl
          generalize mostK fl key k = M0 at Hms Hmr
          have Hrg := Lib.hid (keyAt_rangeAt (w := wr) (b := b) (off := off) Hl.out (fun j hj => by rw [HB.out.cell (p := ⟨b, off + j, none⟩) HL.out]; exact HC.out j hj) k hlt)
          have Hkl := Lib.hid (keyAt_len Hl.out hlt)
          generalize keyAt fl k = kk at Hrg Hkl Hms
          have HS2 := Lib.hid (HB.out.alloc HB.out.size (.cells (ints .u8 kk) 60))
          have HG2 := Lib.hid ((Below.heap_alloc wr (.cells (ints .u8 kk) 60) _ (Array.getElem?_eq_some_iff.1 HG'.out).1).trans HG'.out)
          have HK2 := Lib.hid (heap_alloc_last wr (.cells (ints .u8 kk) 60))
          have heq := fun W => neq_keys kk key Hkl.out Hk.out W
          by_cases hkk : kk = key
          · have He1 := Lib.hid (Hms.out.trans (if_pos hkk))
            rw [decide_eq_true hkk] at heq
            clear hkk
            go_wp2_with (first | (refine wpList_load_ints rfl 60 (.tmp 20) rfl b (off + k * 32) rfl .u8 kk _ Hrg.out Try.underlying60 rfl (by rw [Hkl.out]; exact sizeKey) ?_) | (refine wpList_store_row rfl 60 (.tmp 8) (.tmp 21) rfl wr.heap.size (ints .u8 kk) rfl rfl 60 (ints .u8 z32) (by rw [Hz.out]; exact heap_alloc_last _ _) (by rw [ints_size, Hkl.out]; exact sizeKey) (by rw [ints_size, ints_size, Hkl.out]; rfl) (ints_one _ _) ?_; rw [World.setRow_alloc_new]) | (refine wpList_load_row rfl 60 (.tmp 8) rfl wr.heap.size rfl 60 (ints .u8 kk) (0, 0) _ HK2.out Try.underlying60 rfl (by rw [ints_size, Hkl.out]; exact sizeKey) ?_) | (refine wpList_load_row rfl 60 (.tmp 3) rfl w.heap.size rfl 60 (ints .u8 key) (0, 0) _ HG2.out Try.underlying60 rfl (by rw [ints_size, Hk.out]; exact sizeKey) ?_))
            go_roundw
            case rel => exact ⟨k + 1, by omega, by go_num, by rw [He1.out], HS2.out, HG2.out⟩
            case measure => simp [intOf]; omega
          · have He1 := Lib.hid (Hms.out.trans (if_neg hkk))
            rw [decide_eq_false hkk] at heq
            clear hkk
            go_wp2_with (first | (refine wpList_load_ints rfl 60 (.tmp 20) rfl b (off + k * 32) rfl .u8 kk _ Hrg.out Try.underlying60 rfl (by rw [Hkl.out]; exact sizeKey) ?_) | (refine wpList_store_row rfl 60 (.tmp 8) (.tmp 21) rfl wr.heap.size (ints .u8 kk) rfl rfl 60 (ints .u8 z32) (by rw [Hz.out]; exact heap_alloc_last _ _) (by rw [ints_size, Hkl.out]; exact sizeKey) (by rw [ints_size, ints_size, Hkl.out]; rfl) (ints_one _ _) ?_; rw [World.setRow_alloc_new]) | (refine wpList_load_row rfl 60 (.tmp 8) rfl wr.heap.size rfl 60 (ints .u8 kk) (0, 0) _ HK2.out Try.underlying60 rfl (by rw [ints_size, Hkl.out]; exact sizeKey) ?_) | (refine wpList_load_row rfl 60 (.tmp 3) rfl w.heap.size rfl 60 (ints .u8 key) (0, 0) _ HG2.out Try.underlying60 rfl (by rw [ints_size, Hk.out]; exact sizeKey) ?_))
            refine (common_impl kk key Hkl.out Hk.out _).mono ?_
            rintro e w2 ⟨rfl, hb⟩
            have HS3 := Lib.hid (below_call HS2.out HS2.out.size hb)
            have HG3 := Lib.hid (keep_block HG2.out hb)
            have hd : digN kk key = cbI (xorL kk key) / 4 + 1 := rfl
            rw [hd] at He1
            obtain ⟨c0, c1⟩ := cbI_range (xorL kk key) (xorL_range kk key)
            rw [xorL_len Hkl.out Hk.out] at c1
            clear hd hb heq
            generalize cbI (xorL kk key) = c at He1 c0 c1 ⊢
            have e4 : IntKind.i64.wrap (c.tdiv 4) = c / 4 := by rw [Int.tdiv_eq_ediv_of_nonneg c0, IntKind.wrap_i64]; omega
            have e5 : IntKind.i64.wrap (c / 4 + 1) = c / 4 + 1 := by rw [IntKind.wrap_i64]; omega
            obtain ⟨m0, m1⟩ := Hmr.out
            go_wp2_with fail
            exact ⟨⟨k + 1, by omega, by go_num, by rw [He1.out], HS3.out, HG3.out⟩, by simp [intOf]; omega⟩
        · obtain rfl : k = n := by omega
          go_wp2_with fail
          go_ret2
          exact ⟨by rw [Hv.out, He.out]; rfl, HB.out⟩
  · clear hk hr
    have Hv := Lib.hid (show shortV fl key n = 0 by simp [shortV]; omega)
    have He := Lib.hid (show shortE fl key n = 3 by rw [shortE, if_pos (by omega)])
    generalize shortV fl key n = V at Hv
    generalize shortE fl key n = E at He
    go_enter Try.func46, Try.ntmps46
    go_wp2_with fail
    go_ret2
    exact ⟨by rw [Hv.out, He.out]; rfl, (Below.refl _ _).alloc (by simp) _⟩
end Go.Proofs.Ytdhjnpafijockaa
