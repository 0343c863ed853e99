/- The difference of two keys. -/
import Derived.Test.YtdoelmjaongjfabRow
import Derived.Deep.RegionHeld3
import Derived.Deep.MidRow
namespace Go.Proofs.Ytdoelmjaongjfab
open Go.ChangeShapes Go.WideShapes Go.ChangeAt Go.RowKit
set_option linter.unusedVariables false
def xorL (a b : List Int) : List Int := List.zipWith (fun x y => bits .xor .u8 x y) a b
theorem xorL_len {a b : List Int} {n : Nat} (ha : a.length = n) (hb : b.length = n) : (xorL a b).length = n := by simp [xorL, ha, hb]
theorem xorL_at {a b : List Int} {n k : Nat} (ha : a.length = n) (hb : b.length = n) (h : k < n) : (xorL a b)[k]?.getD 0 = bits .xor .u8 (a[k]?.getD 0) (b[k]?.getD 0) := by
  simp [xorL, List.getElem?_zipWith, show k < a.length by omega, show k < b.length by omega]
set_option maxHeartbeats 1000000 in
theorem xor_impl (a b : List Int) (ha : a.length = 32) (hb : b.length = 32) (w : World) :
    Calls Try.prog 33 #[.agg (ints .u8 a), .agg (ints .u8 b)] w fun e w' => e = .returned (.agg (ints .u8 (xorL a b))) ∧ Below w.heap.size w w' := by
  have Hz := Lib.hid z32_ints
  have Ha := Lib.hid ha
  have Hb := Lib.hid hb
  have Hx := Lib.hid (xorL_len ha hb)
  clear ha hb
  go_enter Try.func33, Try.ntmps33
  go_wp2
  go_loopw [6] (fun i wr => ∃ k : Nat, k ≤ 32 ∧ i = .int .i64 k ∧ ∃ q : Nat, wr = (((w.alloc (.cells (ints .u8 (upTo a (xorL a b) k)) 32)).alloc (.cells (ints .u8 b) 32)).alloc (.cells (ints .u8 z32) 32)).drewN q) (fun i _ => 32 - (intOf i).toNat)
  case atStart => exact ⟨0, by omega, rfl, 0, by rw [upTo_zero, Hz.out]; rfl⟩
  case round =>
    obtain ⟨k, hk, rfl, q, rfl⟩ := hrel
    by_cases hlt : k < 32
    · have hs := upTo_get .u8 (k := k) (old := a) (new := xorL a b) (by rw [Hx.out, Ha.out]) (by rw [Hx.out]; exact hlt)
      have hg := ints_get .u8 b k (by rw [Hb.out]; exact hlt)
      have ht := upTo_set .u8 (k := k) (old := a) (new := xorL a b) (by rw [Hx.out, Ha.out]) (by rw [Hx.out]; exact hlt) (xorL_at Ha.out Hb.out hlt)
      go_wp2
      go_region
      go_wp2
      go_roundw
      case rel => exact ⟨k + 1, by omega, by go_num, q + 1, by rw [setCell3_0, ht]⟩
      case measure => simp [intOf]; omega
    · obtain rfl : k = 32 := by omega
      rw [upTo_all Ha.out Hx.out]
      go_wp2_with (first | (refine wpList_load_row rfl 32 _ rfl w.heap.size rfl 32 (ints .u8 (xorL a b)) (0, 0) _ (heap3_0 _ _ _ _) Try.underlying32 rfl (by rw [ints_size, Hx.out]; exact sizeKey) ?_) | (refine wpList_store_row rfl 32 _ _ rfl (w.heap.size + 1 + 1) (ints .u8 (xorL a b)) rfl rfl 32 (ints .u8 z32) (heap3_2 _ _ _ _) (by rw [ints_size, Hx.out]; exact sizeKey) (by rw [ints_size, ints_size, Hx.out]; rfl) (ints_one _ _) ?_))
      refine bodyPost_ret (results_cell_row rfl _ _ (w.heap.size + 1 + 1) 32 (ints .u8 (xorL a b)) (0, 0) _ rfl (setRow_heap _ _ _ _ _ _ (heap3_2 _ _ _ _)) Try.underlying32 rfl (by rw [ints_size, Hx.out]; exact sizeKey)) rfl ⟨rfl, ?_⟩
      exact Below.setRow (below_drewN ((((Below.refl _ _).alloc (by simp) _).alloc (by simp) _).alloc (by simp; omega) _) _) (by omega) _
set_option maxHeartbeats 1000000 in
theorem xor_spec0 (a b : List Int) (ha : a.length = 32) (hb : b.length = 32) (w : World) :
    Calls Try.prog 97 #[.agg (ints .u8 a), .agg (ints .u8 b)] w fun e w' => e = .returned (.agg (ints .u8 (xorL a b))) ∧ Below w.heap.size w w' := by
  have Hz := Lib.hid z32_ints
  have Ha := Lib.hid ha
  have Hb := Lib.hid hb
  have Hx := Lib.hid (xorL_len ha hb)
  clear ha hb
  go_enter Try.func97, Try.ntmps97
  go_wp2
  go_loopw [5] (fun i wr => ∃ k : Nat, k ≤ 32 ∧ i = .int .i64 k ∧ ∃ q : Nat, wr = (((w.alloc (.cells (ints .u8 (upTo a (xorL a b) k)) 32)).alloc (.cells (ints .u8 b) 32)).alloc (.cells (ints .u8 z32) 32)).drewN q) (fun i _ => 32 - (intOf i).toNat)
  case atStart => exact ⟨0, by omega, rfl, 0, by rw [upTo_zero, Hz.out]; rfl⟩
  case round =>
    obtain ⟨k, hk, rfl, q, rfl⟩ := hrel
    by_cases hlt : k < 32
    · have hs := upTo_get .u8 (k := k) (old := a) (new := xorL a b) (by rw [Hx.out, Ha.out]) (by rw [Hx.out]; exact hlt)
      have hg := ints_get .u8 b k (by rw [Hb.out]; exact hlt)
      have ht := upTo_set .u8 (k := k) (old := a) (new := xorL a b) (by rw [Hx.out, Ha.out]) (by rw [Hx.out]; exact hlt) (xorL_at Ha.out Hb.out hlt)
      go_wp2
      go_region
      go_wp2
      go_roundw
      case rel => exact ⟨k + 1, by omega, by go_num, q + 1, by rw [setCell3_0, ht]⟩
      case measure => simp [intOf]; omega
    · obtain rfl : k = 32 := by omega
      rw [upTo_all Ha.out Hx.out]
      go_wp2_with (first | (refine wpList_load_row rfl 32 _ rfl w.heap.size rfl 32 (ints .u8 (xorL a b)) (0, 0) _ (heap3_0 _ _ _ _) Try.underlying32 rfl (by rw [ints_size, Hx.out]; exact sizeKey) ?_) | (refine wpList_store_row rfl 32 _ _ rfl (w.heap.size + 1 + 1) (ints .u8 (xorL a b)) rfl rfl 32 (ints .u8 z32) (heap3_2 _ _ _ _) (by rw [ints_size, Hx.out]; exact sizeKey) (by rw [ints_size, ints_size, Hx.out]; rfl) (ints_one _ _) ?_))
      refine bodyPost_ret (results_cell_row rfl _ _ (w.heap.size + 1 + 1) 32 (ints .u8 (xorL a b)) (0, 0) _ rfl (setRow_heap _ _ _ _ _ _ (heap3_2 _ _ _ _)) Try.underlying32 rfl (by rw [ints_size, Hx.out]; exact sizeKey)) rfl ⟨rfl, ?_⟩
      exact Below.setRow (below_drewN ((((Below.refl _ _).alloc (by simp) _).alloc (by simp) _).alloc (by simp; omega) _) _) (by omega) _
end Go.Proofs.Ytdoelmjaongjfab
