/- Copies and comparisons of rows of eight and of thirty-two numbers. Written by wip/gen/rows.py. -/
import Derived.Test.YtdoelmjaongjfaaBase
namespace Go.Proofs.Ytdoelmjaongjfaa
open Go.ChangeShapes Go.WideShapes Go.ChangeAt Go.RowKit
set_option linter.unusedVariables false
theorem sizeA8 : (Try.prog.info? 138).map (·.size) = some 8 := by kernel_rfl
theorem sizeA32 : (Try.prog.info? 40).map (·.size) = some 32 := by kernel_rfl
theorem sizeKey : (Try.prog.info? 46).map (·.size) = some 32 := by kernel_rfl
def z8 : List Int := List.replicate 8 0
theorem z8_len : z8.length = 8 := rfl
theorem z8_ints : ints .u32 z8 = #[.int .u32 0, .int .u32 0, .int .u32 0, .int .u32 0, .int .u32 0, .int .u32 0, .int .u32 0, .int .u32 0] := rfl
def z32 : List Int := List.replicate 32 0
theorem z32_len : z32.length = 32 := rfl
theorem z32_ints : ints .u8 z32 = #[.int .u8 0, .int .u8 0, .int .u8 0, .int .u8 0, .int .u8 0, .int .u8 0, .int .u8 0, .int .u8 0, .int .u8 0, .int .u8 0, .int .u8 0, .int .u8 0, .int .u8 0, .int .u8 0, .int .u8 0, .int .u8 0, .int .u8 0, .int .u8 0, .int .u8 0, .int .u8 0, .int .u8 0, .int .u8 0, .int .u8 0, .int .u8 0, .int .u8 0, .int .u8 0, .int .u8 0, .int .u8 0, .int .u8 0, .int .u8 0, .int .u8 0, .int .u8 0] := rfl
set_option maxHeartbeats 1000000 in
theorem toKey_ (l : List Int) (hl : l.length = 32) (w : World) :
    Calls Try.prog 28 #[.agg (ints .u8 l)] w fun e w' => e = .returned (.agg (ints .u8 l)) ∧ Below w.heap.size w w' := by
  have hl' : z32.length = l.length := by rw [hl]; rfl
  have Hz := Lib.hid z32_ints
  have Hl := Lib.hid hl
  clear hl
  go_enter Try.func28, Try.ntmps28
  go_wp2
  go_loopw [4] (fun i wr => ∃ k : Nat, k ≤ 32 ∧ i = .int .i64 k ∧ wr = ((w.alloc (.cells (ints .u8 l) 40)).alloc (.cells (ints .u8 z32) 46)).alloc (.cells (ints .u8 (upTo z32 l k)) 46)) (fun i _ => 32 - (intOf i).toNat)
  case atStart => exact ⟨0, by omega, rfl, by rw [upTo_zero, Hz.out]⟩
  case round =>
    obtain ⟨k, hk, rfl, rfl⟩ := hrel
    by_cases hlt : k < 32
    · have hg := ints_get .u8 l k (by rw [Hl.out]; exact hlt)
      have hs := upTo_get .u8 (k := k) hl' (by rw [Hl.out]; exact hlt)
      have ht := upTo_set .u8 (k := k) hl' (by rw [Hl.out]; exact hlt) rfl
      go_wp2
      go_roundw
      case rel => exact ⟨k + 1, by omega, by go_num, rfl⟩
      case measure => simp [intOf]; omega
    · obtain rfl : k = 32 := by omega
      have e8 := upTo_all z32_len Hl.out
      rw [e8]
      clear e8
      go_wp2_with (first | (refine wpList_load_row rfl 46 _ rfl (w.heap.size + 1 + 1) rfl 46 (ints .u8 l) (0, 0) _ (heap3_2 _ _ _ _) Try.underlying46 rfl (by rw [ints_size, Hl.out]; exact sizeKey) ?_) | (refine wpList_store_row rfl 46 _ _ rfl (w.heap.size + 1) (ints .u8 l) rfl rfl 46 (ints .u8 z32) (heap3_1 _ _ _ _) (by rw [ints_size, Hl.out]; exact sizeKey) (by rw [ints_size, ints_size, Hl.out]; rfl) (ints_one _ _) ?_))
      refine bodyPost_ret (results_cell_row rfl _ _ (w.heap.size + 1) 46 (ints .u8 l) (0, 0) _ rfl (setRow_heap _ _ _ _ _ _ (heap3_1 _ _ _ _)) Try.underlying46 rfl (by rw [ints_size, Hl.out]; exact sizeKey)) rfl ⟨rfl, ?_⟩
      exact Below.setRow ((((Below.refl _ _).alloc (by simp) _).alloc (by simp) _).alloc (by simp; omega) _) (by omega) _
set_option maxHeartbeats 1000000 in
theorem eqKey_ (l : List Int) (hl : l.length = 32) (w : World) :
    Calls Try.prog 37 #[.agg (ints .u8 l), .agg (ints .u8 l)] w fun e w' => e = .returned (.bool true) ∧ Below w.heap.size w w' := by
  have Hl := Lib.hid hl
  clear hl
  go_enter Try.func37, Try.ntmps37
  go_wp2
  go_loopw [5] (fun i wr => ∃ k : Nat, k ≤ 32 ∧ i = .int .i64 k ∧ Below w.heap.size w wr ∧ wr.heap[w.heap.size]? = some (.cells (ints .u8 l) 46) ∧ wr.heap[w.heap.size + 1]? = some (.cells (ints .u8 l) 46)) (fun i _ => 32 - (intOf i).toNat)
  case atStart => exact ⟨0, by omega, rfl, ((Below.refl _ _).alloc (by simp) _).alloc (by simp) _, heap_alloc2_old _ _ _, heap_alloc2_new _ _ _⟩
  case round =>
    obtain ⟨k, hk, rfl, hb, h1, h2⟩ := hrel
    have H1 := Lib.hid h1
    have H2 := Lib.hid h2
    have Hb := Lib.hid hb
    clear hb
    by_cases hlt : k < 32
    · have hg := ints_get .u8 l k (by rw [Hl.out]; exact hlt)
      have c1 := cell_of_row wr w.heap.size k _ _ _ h1
      have c2 := cell_of_row wr (w.heap.size + 1) k _ _ _ h2
      rw [hg] at c1 c2
      clear h1 h2 hg
      go_wp2
      go_quiet (fail)
      go_wp2
      go_roundw
      case rel => exact ⟨k + 1, by omega, by go_num, below_drewN Hb.out _, H1.out, H2.out⟩
      case measure => simp [intOf]; omega
    · obtain rfl : k = 32 := by omega
      clear h1 h2
      go_wp2
      go_ret
      exact ⟨rfl, Hb.out⟩
end Go.Proofs.Ytdoelmjaongjfaa
