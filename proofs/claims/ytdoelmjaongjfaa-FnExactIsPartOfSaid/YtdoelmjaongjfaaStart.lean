/- The state of a tag: both programs make it; the statement on StartState. -/
import Derived.Test.YtdoelmjaongjfaaRow
namespace Go.Proofs.Ytdoelmjaongjfaa
open Go.ChangeShapes Go.WideShapes Go.ChangeAt Go.RowKit
set_option linter.unusedVariables false
def startW (tag : Int) : List Int := (List.range 8).map fun (i : Nat) => 16777619 * ((i : Int) + 1) + tag
theorem startW_len (tag : Int) : (startW tag).length = 8 := by simp [startW]
theorem startW_at (tag : Int) (k : Nat) (h : k < 8) : (startW tag)[k]?.getD 0 = 16777619 * ((k : Int) + 1) + tag := by
  simp [startW, h]
set_option maxHeartbeats 1000000 in
theorem start_impl (tag : Int) (h0 : 0 ≤ tag) (h1 : tag ≤ 255) (w : World) :
    Calls Try.prog 117 #[.int .u8 tag] w fun e w' => e = .returned (.agg (ints .u32 (startW tag))) ∧ Below w.heap.size w w' := by
  have Hz := Lib.hid z8_ints
  go_enter Try.func117, Try.ntmps117
  go_wp2
  go_loopw [5] (fun i wr => ∃ k : Nat, k ≤ 8 ∧ i = .int .i64 k ∧ wr = ((w.alloc (.cells (ints .u32 z8) 138)).alloc (.cells (ints .u32 (upTo z8 (startW tag) k)) 138))) (fun i _ => 8 - (intOf i).toNat)
  case atStart => exact ⟨0, by omega, rfl, by rw [upTo_zero, Hz.out]⟩
  case round =>
    obtain ⟨k, hk, rfl, rfl⟩ := hrel
    by_cases hlt : k < 8
    · have hs := upTo_get .u32 (k := k) (old := z8) (new := startW tag) (by rw [startW_len]; rfl) (by rw [startW_len]; exact hlt)
      have ht := upTo_set .u32 (k := k) (old := z8) (new := startW tag) (by rw [startW_len]; rfl) (by rw [startW_len]; exact hlt) (startW_at tag k hlt)
      go_wp2
      go_roundw
      case rel => exact ⟨k + 1, by omega, by go_num, rfl⟩
      case measure => simp [intOf]; omega
    · obtain rfl : k = 8 := by omega
      rw [upTo_all z8_len (startW_len tag)]
      go_wp2_with (first | (refine wpList_load_row rfl 138 _ rfl (w.heap.size + 1) rfl 138 (ints .u32 (startW tag)) (0, 0) _ (heap_alloc2_new _ _ _) Try.underlying138 rfl (by rw [ints_size, startW_len]; exact sizeA8) ?_) | (refine wpList_store_row rfl 138 _ _ rfl w.heap.size (ints .u32 (startW tag)) rfl rfl 138 (ints .u32 z8) (heap_alloc2_old _ _ _) (by rw [ints_size, startW_len]; exact sizeA8) (by rw [ints_size, ints_size, startW_len]; rfl) (ints_one _ _) ?_))
      refine bodyPost_ret (results_cell_row rfl _ _ w.heap.size 138 (ints .u32 (startW tag)) (0, 0) _ rfl (setRow_heap _ _ _ _ _ _ (heap_alloc2_old _ _ _)) Try.underlying138 rfl (by rw [ints_size, startW_len]; exact sizeA8)) rfl ⟨rfl, ?_⟩
      exact Below.setRow (((Below.refl _ _).alloc (by simp) _).alloc (by simp) _) (by omega) _
set_option maxHeartbeats 1000000 in
theorem start_spec0 (tag : Int) (h0 : 0 ≤ tag) (h1 : tag ≤ 255) (w : World) :
    Calls Try.prog 113 #[.int .u8 tag] w fun e w' => e = .returned (.agg (ints .u32 (startW tag))) ∧ Below w.heap.size w w' := by
  have Hz := Lib.hid z8_ints
  go_enter Try.func113, Try.ntmps113
  go_wp2
  go_loopw [4] (fun i wr => ∃ k : Nat, k ≤ 8 ∧ i = .int .i64 k ∧ wr = ((w.alloc (.cells (ints .u32 z8) 138)).alloc (.cells (ints .u32 (upTo z8 (startW tag) k)) 138))) (fun i _ => 8 - (intOf i).toNat)
  case atStart => exact ⟨0, by omega, rfl, by rw [upTo_zero, Hz.out]⟩
  case round =>
    obtain ⟨k, hk, rfl, rfl⟩ := hrel
    by_cases hlt : k < 8
    · have hs := upTo_get .u32 (k := k) (old := z8) (new := startW tag) (by rw [startW_len]; rfl) (by rw [startW_len]; exact hlt)
      have ht := upTo_set .u32 (k := k) (old := z8) (new := startW tag) (by rw [startW_len]; rfl) (by rw [startW_len]; exact hlt) (startW_at tag k hlt)
      go_wp2
      go_roundw
      case rel => exact ⟨k + 1, by omega, by go_num, rfl⟩
      case measure => simp [intOf]; omega
    · obtain rfl : k = 8 := by omega
      rw [upTo_all z8_len (startW_len tag)]
      go_wp2_with (first | (refine wpList_load_row rfl 138 _ rfl (w.heap.size + 1) rfl 138 (ints .u32 (startW tag)) (0, 0) _ (heap_alloc2_new _ _ _) Try.underlying138 rfl (by rw [ints_size, startW_len]; exact sizeA8) ?_) | (refine wpList_store_row rfl 138 _ _ rfl w.heap.size (ints .u32 (startW tag)) rfl rfl 138 (ints .u32 z8) (heap_alloc2_old _ _ _) (by rw [ints_size, startW_len]; exact sizeA8) (by rw [ints_size, ints_size, startW_len]; rfl) (ints_one _ _) ?_))
      refine bodyPost_ret (results_cell_row rfl _ _ w.heap.size 138 (ints .u32 (startW tag)) (0, 0) _ rfl (setRow_heap _ _ _ _ _ _ (heap_alloc2_old _ _ _)) Try.underlying138 rfl (by rw [ints_size, startW_len]; exact sizeA8)) rfl ⟨rfl, ?_⟩
      exact Below.setRow (((Below.refl _ _).alloc (by simp) _).alloc (by simp) _) (by omega) _
end Go.Proofs.Ytdoelmjaongjfaa
