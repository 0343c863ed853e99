/- The state of a tag: both programs make it; the statement on StartState. -/
import Derived.Test.YthfokngbjkljdaaRow
namespace Go.Proofs.Ythfokngbjkljdaa
open Go.ChangeShapes Go.WideShapes Go.ChangeAt Go.RowKit
set_option linter.unusedVariables false
def startW (tag : Int) : List Int := (List.range 8).map fun (i : Nat) => 16777619 * ((i : Int) + 1) + tag
theorem startW_len (tag : Int) : (startW tag).length = 8 := by simp [startW]
theorem startW_at (tag : Int) (k : Nat) (h : k < 8) : (startW tag)[k]?.getD 0 = 16777619 * ((k : Int) + 1) + tag := by
  simp [startW, h]
set_option maxHeartbeats 1000000 in
theorem start_impl (tag : Int) (h0 : 0 ≤ tag) (h1 : tag ≤ 255) (w : World) :
    Calls Try.prog 23 #[.int .u8 tag] w fun e w' => e = .returned (.agg (ints .u32 (startW tag))) ∧ Below w.heap.size w w' := by
  have Hz := Lib.hid z8_ints
  go_enter Try.func23, Try.ntmps23
  go_wp2
  go_loopw [5] (fun i wr => ∃ k : Nat, k ≤ 8 ∧ i = .int .i64 k ∧ wr = ((w.alloc (.cells (ints .u32 z8) 25)).alloc (.cells (ints .u32 (upTo z8 (startW tag) k)) 25))) (fun i _ => 8 - (intOf i).toNat)
  case atStart => exact ⟨0, by omega, rfl, by rw [upTo_zero, Hz.out]⟩
  case round =>
    obtain ⟨k, hk, rfl, rfl⟩ := hrel
    by_cases hlt : k < 8
    · have hs := upTo_get .u32 (k := k) (old := z8) (new := startW tag) (by rw [startW_len]; rfl) (by rw [startW_len]; exact hlt)
      have ht := upTo_set .u32 (k := k) (old := z8) (new := startW tag) (by rw [startW_len]; rfl) (by rw [startW_len]; exact hlt) (startW_at tag k hlt)
      go_wp2
      go_roundw
      case rel => exact ⟨k + 1, by omega, by go_num, rfl⟩
      case measure => simp [intOf]; omega
    · obtain rfl : k = 8 := by omega
      rw [upTo_all z8_len (startW_len tag)]
      go_wp2_with (first | (refine wpList_load_row rfl 25 _ rfl (w.heap.size + 1) rfl 25 (ints .u32 (startW tag)) (0, 0) _ (heap_alloc2_new _ _ _) Try.underlying25 rfl (by rw [ints_size, startW_len]; exact sizeA8) ?_) | (refine wpList_store_row rfl 25 _ _ rfl w.heap.size (ints .u32 (startW tag)) rfl rfl 25 (ints .u32 z8) (heap_alloc2_old _ _ _) (by rw [ints_size, startW_len]; exact sizeA8) (by rw [ints_size, ints_size, startW_len]; rfl) (ints_one _ _) ?_))
      refine bodyPost_ret (results_cell_row rfl _ _ w.heap.size 25 (ints .u32 (startW tag)) (0, 0) _ rfl (setRow_heap _ _ _ _ _ _ (heap_alloc2_old _ _ _)) Try.underlying25 rfl (by rw [ints_size, startW_len]; exact sizeA8)) rfl ⟨rfl, ?_⟩
      exact Below.setRow (((Below.refl _ _).alloc (by simp) _).alloc (by simp) _) (by omega) _
set_option maxHeartbeats 1000000 in
theorem start_spec0 (tag : Int) (h0 : 0 ≤ tag) (h1 : tag ≤ 255) (w : World) :
    Calls Try.prog 59 #[.int .u8 tag] w fun e w' => e = .returned (.agg (ints .u32 (startW tag))) ∧ Below w.heap.size w w' := by
  have Hz := Lib.hid z8_ints
  go_enter Try.func59, Try.ntmps59
  go_wp2
  go_loopw [4] (fun i wr => ∃ k : Nat, k ≤ 8 ∧ i = .int .i64 k ∧ wr = ((w.alloc (.cells (ints .u32 z8) 25)).alloc (.cells (ints .u32 (upTo z8 (startW tag) k)) 25))) (fun i _ => 8 - (intOf i).toNat)
  case atStart => exact ⟨0, by omega, rfl, by rw [upTo_zero, Hz.out]⟩
  case round =>
    obtain ⟨k, hk, rfl, rfl⟩ := hrel
    by_cases hlt : k < 8
    · have hs := upTo_get .u32 (k := k) (old := z8) (new := startW tag) (by rw [startW_len]; rfl) (by rw [startW_len]; exact hlt)
      have ht := upTo_set .u32 (k := k) (old := z8) (new := startW tag) (by rw [startW_len]; rfl) (by rw [startW_len]; exact hlt) (startW_at tag k hlt)
      go_wp2
      go_roundw
      case rel => exact ⟨k + 1, by omega, by go_num, rfl⟩
      case measure => simp [intOf]; omega
    · obtain rfl : k = 8 := by omega
      rw [upTo_all z8_len (startW_len tag)]
      go_wp2_with (first | (refine wpList_load_row rfl 25 _ rfl (w.heap.size + 1) rfl 25 (ints .u32 (startW tag)) (0, 0) _ (heap_alloc2_new _ _ _) Try.underlying25 rfl (by rw [ints_size, startW_len]; exact sizeA8) ?_) | (refine wpList_store_row rfl 25 _ _ rfl w.heap.size (ints .u32 (startW tag)) rfl rfl 25 (ints .u32 z8) (heap_alloc2_old _ _ _) (by rw [ints_size, startW_len]; exact sizeA8) (by rw [ints_size, ints_size, startW_len]; rfl) (ints_one _ _) ?_))
      refine bodyPost_ret (results_cell_row rfl _ _ w.heap.size 25 (ints .u32 (startW tag)) (0, 0) _ rfl (setRow_heap _ _ _ _ _ _ (heap_alloc2_old _ _ _)) Try.underlying25 rfl (by rw [ints_size, startW_len]; exact sizeA8)) rfl ⟨rfl, ?_⟩
      exact Below.setRow (((Below.refl _ _).alloc (by simp) _).alloc (by simp) _) (by omega) _
set_option maxHeartbeats 1000000 in
theorem start_spec (tag : Int) (h0 : 0 ≤ tag) (h1 : tag ≤ 255) (w : World) :
    Calls Try.prog 22 #[.int .u8 tag] w fun e w' => e = .returned (.agg (ints .u32 (startW tag))) ∧ Below w.heap.size w w' := by
  have Hz := Lib.hid z8_ints
  go_enter Try.func22, Try.ntmps22
  go_wp2_with fail
  refine (start_spec0 tag h0 h1 _).mono ?_
  rintro e w1 ⟨rfl, hb⟩
  have hh : w1.heap[w.heap.size]? = some (.cells (ints .u32 z8) 25) := by rw [hb.block _ (by simp), heap_alloc_last, Hz.out]
  have Hh := Lib.hid hh
  have Hb := Lib.hid hb
  clear hh hb
  go_wp2_with (refine wpList_store_row rfl 25 _ _ rfl w.heap.size (ints .u32 (startW tag)) rfl rfl 25 (ints .u32 z8) Hh.out (by rw [ints_size, startW_len]; exact sizeA8) (by rw [ints_size, ints_size, startW_len]; rfl) (ints_one _ _) ?_)
  refine bodyPost_ret (results_cell_row rfl _ _ w.heap.size 25 (ints .u32 (startW tag)) (0, 0) _ rfl (setRow_heap _ _ _ _ _ _ Hh.out) Try.underlying25 rfl (by rw [ints_size, startW_len]; exact sizeA8)) rfl ⟨rfl, ?_⟩
  exact Below.setRow (((Below.refl _ _).alloc (by simp) _).trans (Hb.out.mono (by simp))) (by omega) _
set_option maxHeartbeats 1000000 in
theorem start_law (tag : Int) (h0 : 0 ≤ tag) (h1 : tag ≤ 255) (w : World) :
    Calls Try.prog 5 #[.int .u8 tag] w fun e w' => e = .returned (.bool true) ∧ Below w.heap.size w w' := by
  have Hz := Lib.hid z8_ints
  go_enter Try.func5, Try.ntmps5
  go_wp2_with fail
  refine (start_spec tag h0 h1 _).mono ?_
  rintro e w1 ⟨rfl, hb1⟩
  have Hb1 := Lib.hid hb1
  clear hb1
  go_wp2_with (refine wpList_store_row rfl 25 _ _ rfl w1.heap.size (ints .u32 (startW tag)) rfl rfl 25 (ints .u32 z8) (by rw [Hz.out]; exact heap_alloc_last _ _) (by rw [ints_size, startW_len]; exact sizeA8) (by rw [ints_size, ints_size, startW_len]; rfl) (ints_one _ _) ?_; rw [World.setRow_alloc_new])
  refine (start_impl tag h0 h1 _).mono ?_
  rintro e w2 ⟨rfl, hb2⟩
  have Hb2 := Lib.hid hb2
  clear hb2
  go_wp2_with (first | (refine wpList_store_row rfl 25 _ _ rfl w2.heap.size (ints .u32 (startW tag)) rfl rfl 25 (ints .u32 z8) (by rw [Hz.out]; exact heap_alloc_last _ _) (by rw [ints_size, startW_len]; exact sizeA8) (by rw [ints_size, ints_size, startW_len]; rfl) (ints_one _ _) ?_; rw [World.setRow_alloc_new]) | (refine wpList_load_row rfl 25 (.tmp 4) rfl w2.heap.size rfl 25 (ints .u32 (startW tag)) (0, 0) _ (heap_alloc_last _ _) Try.underlying25 rfl (by rw [ints_size, startW_len]; exact sizeA8) ?_) | (refine wpList_load_row rfl 25 (.tmp 3) rfl w1.heap.size rfl 25 (ints .u32 (startW tag)) (0, 0) _ ?hh Try.underlying25 rfl (by rw [ints_size, startW_len]; exact sizeA8) ?_))
  case hh => exact old_block _ Hb2.out
  refine (eqU32A8 (startW tag) (startW_len tag) _).mono ?_
  rintro e w3 ⟨rfl, hb3⟩
  have Hb3 := Lib.hid hb3
  clear hb3
  go_wp2
  go_ret
  exact ⟨rfl, below_step (below_step Hb1.out Hb1.out.size Hb2.out) (Nat.le_trans Hb1.out.size (Nat.le_trans (by simp) Hb2.out.size)) Hb3.out⟩
theorem start_law0 (a : Int) (w : World) (f : (Lit.int .u8 a).wf = true) :
    Calls Try.prog 5 #[.int .u8 a] w fun e w' => e = .returned (.bool true) ∧ Below w.heap.size w w' := by
  have := bounds_u8 f
  exact start_law a (by omega) (by omega) w
end Go.Proofs.Ythfokngbjkljdaa
