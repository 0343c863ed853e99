/- Blocks mixed into a state, as the program does it. -/
import Derived.Test.YtdoelmjaongjfaaEnd
import Derived.Test.YtdoelmjaongjfaaMixI
import Derived.Test.YtdoelmjaongjfaaRdK
namespace Go.Proofs.Ytdoelmjaongjfaa
open Go.ChangeShapes Go.WideShapes Go.ChangeAt Go.RowKit
set_option linter.unusedVariables false
set_option maxRecDepth 100000 in
set_option maxHeartbeats 1000000 in
theorem mixbs_impl (a : Option Addr) (n cap : Nat) (st fl : List Int) (sr : W32 st) (fr : ∀ z ∈ fl, 0 ≤ z ∧ z ≤ 255) (hn : n ≤ 1048576) (w : World) (hr : RdK w a n fl) :
    Calls Try.prog 116 #[.agg (ints .u32 st), .slice a n cap] w fun e w' => e = .returned (.agg (ints .u32 (mixB st fl n))) ∧ Below w.heap.size w w' := by
  have Hok := Lib.hid (fun j => mixB_ok (L := fl) sr j)
  have Fr := Lib.hid fr
  have Hz := Lib.hid z32_ints
  have HR := Lib.hid hr
  have H0 : Hid (mixB st fl 0 = st) := Lib.hid rfl
  clear sr fr hr
  go_enter Try.func116, Try.ntmps116
  go_wp2_with fail
  go_loopw [9] (fun i wr => ∃ k : Nat, k ≤ n ∧ i = .int .i64 k ∧ Below w.heap.size w wr ∧ wr.heap[w.heap.size]? = some (.cells (ints .u32 (mixB st fl k)) 138) ∧ ∃ zr : List Int, zr.length = 8 ∧ wr.heap[w.heap.size + 1]? = some (.cells (ints .u32 zr) 138)) (fun i _ => n - (intOf i).toNat)
  case atStart => exact ⟨0, by omega, rfl, ((Below.refl w.heap.size w).alloc (by simp) _).alloc (by simp) _, by rw [H0.out]; exact heap_alloc2_old _ _ _, List.replicate 8 0, by simp, heap_alloc2_new _ _ _⟩
  case round =>
    obtain ⟨k, hk, rfl, hb, hg, zr, hzl, hgz⟩ := hrel
    have HB := Lib.hid hb
    have HG := Lib.hid hg
    have HZ := Lib.hid hgz
    have HZl := Lib.hid hzl
    clear hb hg hgz hzl
    by_cases hlt : k < n
    · obtain ⟨hl, hr⟩ := HR.out
      have Hl := Lib.hid hl
      clear hl
      obtain ⟨b, off, rfl, hb, hc⟩ : ∃ b off, a = some ⟨b, off, none⟩ ∧ b < w.heap.size ∧ ∀ j, j < 32 * n → w.cell? ⟨b, off + j, none⟩ = some (.int .u8 (fl[j]?.getD 0)) := by
        rcases hr with h0 | h
        · omega
        · exact h
      have HC := Lib.hid hc
      have HL := Lib.hid hb
      clear hc hb hr
      have b0 : (0 : Int) ≤ (k : Int) := by omega
      have b1 : (k : Int) < (n : Int) := by omega
      have Hrg := Lib.hid (keyAt_rangeAt (w := wr) (b := b) (off := off) Hl.out (fun j hj => by rw [HB.out.cell (p := ⟨b, off + j, none⟩) HL.out]; exact HC.out j hj) k hlt)
      have Hkl := Lib.hid (keyAt_len Hl.out hlt)
      have Hkr := Lib.hid (keyAt_range Fr.out k)
      have Hx := Lib.hid (Hok.out k)
      have Hx8 := Lib.hid (Hok.out (k + 1)).1
      have Hm := Lib.hid (fun W => mix_impl (mixB st fl k) (keyAt fl k) Hkl.out Hx.out Hkr.out W)
      have Hnx : Hid (mixF (mixB st fl k) (keyAt fl k) = mixB st fl (k + 1)) := Lib.hid rfl
      rw [Hnx.out] at Hm
      clear Hnx
      generalize hXe : mixB st fl (k + 1) = X at Hm Hx8
      have HXe := Lib.hid hXe
      clear hXe
      generalize mixB st fl k = S at HG Hx Hm
      generalize keyAt fl k = kk at Hrg Hkl Hkr Hm
      have HB2 := Lib.hid (HB.out.alloc HB.out.size (.cells (ints .u8 kk) 40))
      have HG2 := Lib.hid ((Below.heap_alloc wr (.cells (ints .u8 kk) 40) _ (Array.getElem?_eq_some_iff.1 HG.out).1).trans HG.out)
      have HZ2 := Lib.hid ((Below.heap_alloc wr (.cells (ints .u8 kk) 40) _ (Array.getElem?_eq_some_iff.1 HZ.out).1).trans HZ.out)
      have HK2 := Lib.hid (heap_alloc_last wr (.cells (ints .u8 kk) 40))
      go_wp2_with (first | (refine wpList_load_ints rfl 40 (.tmp 11) rfl b (off + k * 32) rfl .u8 kk _ Hrg.out Try.underlying40 rfl (by rw [Hkl.out]; exact sizeA32) ?_) | (refine wpList_store_row rfl 40 (.tmp 6) (.tmp 12) rfl wr.heap.size (ints .u8 kk) rfl rfl 40 (ints .u8 z32) (by rw [Hz.out]; exact heap_alloc_last _ _) (by rw [ints_size, Hkl.out]; exact sizeA32) (by rw [ints_size, ints_size, Hkl.out]; rfl) (ints_one _ _) ?_; rw [World.setRow_alloc_new]) | (refine wpList_load_row rfl 138 (.tmp 2) rfl w.heap.size rfl 138 (ints .u32 S) (0, 0) _ HG2.out Try.underlying138 rfl (by rw [ints_size, Hx.out.1]; exact sizeA8) ?_) | (refine wpList_load_row rfl 40 (.tmp 6) rfl wr.heap.size rfl 40 (ints .u8 kk) (0, 0) _ HK2.out Try.underlying40 rfl (by rw [ints_size, Hkl.out]; exact sizeA32) ?_))
      refine (Hm.out _).mono ?_
      rintro e w2 ⟨rfl, hb⟩
      have HB3 := Lib.hid (below_call HB2.out HB2.out.size hb)
      have HG3 := Lib.hid (keep_block HG2.out hb)
      have HZ3 := Lib.hid (keep_block HZ2.out hb)
      clear hb
      go_wp2_with (refine wpList_store_row rfl 138 (.tmp 2) (.tmp 15) rfl w.heap.size (ints .u32 X) rfl rfl 138 (ints .u32 S) HG3.out (by rw [ints_size, Hx8.out]; exact sizeA8) (by rw [ints_size, ints_size, Hx8.out, Hx.out.1]) (ints_one _ _) ?_)
      go_roundw
      case rel =>
        refine ⟨k + 1, by omega, by go_num, Below.setRow HB3.out (Nat.le_refl _) _, by rw [HXe.out]; exact setRow_heap _ _ _ _ _ _ HG3.out, zr, HZl.out, ?_⟩
        rw [setRow_other _ _ _ _ (by omega)]; exact HZ3.out
      case measure => simp [intOf]; omega
    · obtain rfl : k = n := by omega
      have Hx := Lib.hid (Hok.out k)
      clear Hok
      generalize hS : mixB st fl k = S at HG Hx
      have HS := Lib.hid hS
      clear hS
      go_wp2_with (first | (refine wpList_load_row rfl 138 (.tmp 2) rfl w.heap.size rfl 138 (ints .u32 S) (0, 0) _ HG.out Try.underlying138 rfl (by rw [ints_size, Hx.out.1]; exact sizeA8) ?_) | (refine wpList_store_row rfl 138 (.tmp 4) (.tmp 17) rfl (w.heap.size + 1) (ints .u32 S) rfl rfl 138 (ints .u32 zr) HZ.out (by rw [ints_size, Hx.out.1]; exact sizeA8) (by rw [ints_size, ints_size, Hx.out.1, HZl.out]) (ints_one _ _) ?_))
      refine bodyPost_ret (results_cell_row rfl _ _ (w.heap.size + 1) 138 (ints .u32 S) (0, 0) _ rfl (setRow_heap _ _ _ _ _ _ HZ.out) Try.underlying138 rfl (by rw [ints_size, Hx.out.1]; exact sizeA8)) rfl ⟨by rw [HS.out], ?_⟩
      exact Below.setRow HB.out (by omega) _
end Go.Proofs.Ytdoelmjaongjfaa
