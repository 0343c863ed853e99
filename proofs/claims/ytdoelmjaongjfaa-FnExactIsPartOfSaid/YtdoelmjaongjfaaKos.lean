/- The key of a state, as the program makes it. -/
import Derived.Test.YtdoelmjaongjfaaEnd
namespace Go.Proofs.Ytdoelmjaongjfaa
open Go.ChangeShapes Go.WideShapes Go.ChangeAt Go.RowKit
set_option linter.unusedVariables false
set_option maxRecDepth 100000 in
set_option maxHeartbeats 1000000 in
theorem keyS_impl (F : List Int) (ok : W32 F) (w : World) :
    Calls Try.prog 115 #[.agg (ints .u32 F)] w fun e w' => e = .returned (.agg (ints .u8 (keyS F))) ∧ Below w.heap.size w w' := by
  have Hok := Lib.hid ok
  have Hkl := Lib.hid (keyS_len F)
  have Hka := Lib.hid (keyS_at F)
  have Hz := Lib.hid z32_ints
  clear ok
  generalize keyS F = EK at Hkl Hka
  go_enter Try.func115, Try.ntmps115
  go_wp2_with fail
  go_loopw [5] (fun i wr => ∃ k : Nat, k ≤ 32 ∧ i = .int .i64 k ∧ Below w.heap.size w wr ∧ wr.heap[w.heap.size]? = some (.cells (ints .u32 F) 138) ∧ wr.heap[w.heap.size + 1]? = some (.cells (ints .u8 z32) 46) ∧ wr.heap[w.heap.size + 1 + 1]? = some (.cells (ints .u8 (upTo z32 EK k)) 46)) (fun i _ => 32 - (intOf i).toNat)
  case atStart => exact ⟨0, by omega, rfl, by go_grown, heap3_0 _ _ _ _, by rw [Hz.out]; exact heap3_1 _ _ _ _, by rw [upTo_zero, Hz.out]; exact heap3_2 _ _ _ _⟩
  case round =>
    obtain ⟨k, hk, rfl, hb, h0, h1, h2⟩ := hrel
    have HB := Lib.hid hb
    have H0 := Lib.hid h0
    have H1 := Lib.hid h1
    have H2 := Lib.hid h2
    clear hb h1
    by_cases hlt : k < 32
    · have c0 := cell_of_row wr w.heap.size (k / 4) _ _ _ h0
      rw [ints_get .u32 _ _ (by rw [Hok.out.1]; omega)] at c0
      have c1 := cell_of_row wr (w.heap.size + 1 + 1) k _ _ _ h2
      have f1 := frozen_of_row wr (w.heap.size + 1 + 1) k _ _ h2
      rw [upTo_get .u8 (by rw [Hkl.out]; rfl) (by rw [Hkl.out]; exact hlt)] at c1
      have Hu := Lib.hid (upTo_set .u8 (k := k) (old := z32) (new := EK) (by rw [Hkl.out]; rfl) (by rw [Hkl.out]; exact hlt) (Hka.out k hlt))
      obtain ⟨x0, x1⟩ := Hok.out.at (k / 4)
      clear h0 h2
      generalize F[k / 4]?.getD 0 = x at c0 Hu x0 x1
      generalize z32[k]?.getD 0 = z at c1
      have b0 : (0 : Int) ≤ (k : Int) := by omega
      have b1 : (k : Int) < 32 := by omega
      go_wp2_with fail
      go_roundw
      case rel =>
        refine ⟨k + 1, by omega, by go_num, HB.out.setCell (by simp; omega) _, ?_, ?_, ?_⟩
        · rw [heap_setCell_other _ _ _ _ (by simp; omega)]; exact H0.out
        · rw [heap_setCell_other _ _ _ _ (by simp)]; exact H1.out
        · rw [heap_setCell_same _ _ _ _ _ _ H2.out, Hu.out]
      case measure => simp [intOf]; omega
    · obtain rfl : k = 32 := by omega
      have e : upTo z32 EK 32 = EK := upTo_all rfl Hkl.out
      rw [e] at H2
      clear h0 h2 e
      go_wp2_with (first | (refine wpList_load_row rfl 46 _ rfl (w.heap.size + 1 + 1) rfl 46 (ints .u8 EK) (0, 0) _ H2.out Try.underlying46 rfl (by rw [ints_size, Hkl.out]; exact sizeKey) ?_) | (refine wpList_store_row rfl 46 _ _ rfl (w.heap.size + 1) (ints .u8 EK) rfl rfl 46 (ints .u8 z32) H1.out (by rw [ints_size, Hkl.out]; exact sizeKey) (by rw [ints_size, ints_size, Hkl.out]; rfl) (ints_one _ _) ?_))
      refine bodyPost_ret (results_cell_row rfl _ _ (w.heap.size + 1) 46 (ints .u8 EK) (0, 0) _ rfl (setRow_heap _ _ _ _ _ _ H1.out) Try.underlying46 rfl (by rw [ints_size, Hkl.out]; exact sizeKey)) rfl ⟨rfl, ?_⟩
      exact Below.setRow HB.out (by omega) _
end Go.Proofs.Ytdoelmjaongjfaa
