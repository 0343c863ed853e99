/- FindKey: the specification. Written by hand. -/
import Derived.Test.YtdoelmjaongjfabFkI
namespace Go.Proofs.Ytdoelmjaongjfab
open Go.ChangeShapes Go.WideShapes Go.ChangeAt Go.RowKit
set_option linter.unusedVariables false
set_option linter.unusedSimpArgs false
open Go.Sort Go.Shelf
set_option maxRecDepth 100000 in
set_option maxHeartbeats 2000000 in
theorem find_spec_bad (b : Option Addr) (n cap : Nat) (s : ByteArray) (hn : n ≤ 256) (hs : s.size ≤ 64) (hd : ¬ ∀ j, j < s.size → isHx (charI s j) = true) (w : World) :
    Calls Try.prog 20 #[.slice b n cap, .string s] w fun e w' => e = .returned (.tuple #[.agg (ints .u8 z32), .int .i64 5]) ∧ Below w.heap.size w w' := by
  have Hz := Lib.hid z32_ints
  have XA := Lib.hid (heap_alloc_last w (.cells (ints .u8 z32) 32))
  have BA := Lib.hid (show Below w.heap.size w (w.alloc (.cells (ints .u8 z32) 32)) by go_grown)
  have HD := Lib.hid hd
  clear hd
  have z1 : ¬ (256 : Int) < (n : Int) := by omega
  have z2 : ¬ (64 : Int) < (s.size : Int) := by omega
  have z3 : (0 : Int) ≤ (s.size : Int) := by omega
  have z4 : (s.size : Int) ≤ 64 := by omega
  rw [Hz.out] at XA BA
  go_enter Try.func20, Try.ntmps20
  go_wp2_with fail
  rw [← Hz.out] at XA BA ⊢
  generalize w.alloc (.cells (ints .u8 z32) 32) = w1 at XA BA ⊢
  go_loopw [6] (fun i wr => ∃ k : Nat, k ≤ s.size ∧ i = .int .i64 (k : Int) ∧ wr = w1 ∧ ∀ j, j < k → isHx (charI s j) = true) (fun i _ => s.size - (intOf i).toNat)
  case atStart => exact ⟨0, by omega, rfl, rfl, fun j hj => by omega⟩
  case round =>
    obtain ⟨k, hk, rfl, rfl, hall⟩ := hrel
    have HA := Lib.hid hall
    clear hall
    by_cases hlt : k < s.size
    · have b0 : (0 : Int) ≤ (k : Int) := by omega
      have b1 : (k : Int) < (s.size : Int) := by omega
      have hch := fun W => run_char Try.prog 9 Try.underlying9 s k hlt W
      have hrg := charI_range s k
      by_cases hx : isHx (charI s k) = true
      · have HX := Lib.hid (fun W => hex_yes (charI s k) hx W)
        have HXX := Lib.hid hx
        clear hx
        go_wp2_with (go_at_call 62; refine (HX.out _).mono ?_; rintro e w3 ⟨rfl, rfl⟩)
        go_roundw
        case rel => exact ⟨k + 1, by omega, by go_num, by first | rfl | trivial, fun j hj => by
          by_cases e : j = k
          · subst e; exact HXX.out
          · exact HA.out j (by omega)⟩
        case measure => simp [intOf]; omega
      · rw [Bool.not_eq_true] at hx
        have HX := Lib.hid (fun W => hex_no (charI s k) hx W)
        clear hx
        go_wp2_with (first | (go_at_call 62; refine (HX.out _).mono ?_; rintro e w3 ⟨rfl, rfl⟩) | (refine wpList_store_row rfl 32 _ _ rfl w.heap.size (ints .u8 z32) rfl rfl 32 (ints .u8 z32) XA.out (by rw [ints_size]; exact sizeKey) rfl (ints_one _ _) ?_))
        refine bodyPost_ret (results_cell2_row rfl _ _ w.heap.size 32 (ints .u8 z32) (0, 0) _ rfl (setRow_heap _ _ (ints .u8 z32) _ _ _ XA.out) Try.underlying32 rfl (by rw [ints_size]; exact sizeKey)) rfl ⟨rfl, ?_⟩
        exact Below.setRow BA.out (by omega) _
    · obtain rfl : k = s.size := by omega
      exact absurd HA.out HD.out
set_option maxRecDepth 100000 in
set_option maxHeartbeats 2000000 in
theorem find_spec_many (b : Option Addr) (n cap : Nat) (s : ByteArray) (hm : n ≤ maxLen) (hn : ¬ n ≤ 256) (w : World) :
    Calls Try.prog 20 #[.slice b n cap, .string s] w fun e w' => e = .returned (.tuple #[.agg (ints .u8 z32), .int .i64 3]) ∧ Below w.heap.size w w' := by
  have Hz := Lib.hid z32_ints
  have XA := Lib.hid (heap_alloc_last w (.cells (ints .u8 z32) 32))
  have BA := Lib.hid (show Below w.heap.size w (w.alloc (.cells (ints .u8 z32) 32)) by go_grown)
  unfold maxLen at hm
  have z1 : (256 : Int) < (n : Int) := by omega
  rw [Hz.out] at XA BA
  go_enter Try.func20, Try.ntmps20
  go_wp2_with (first | (refine wpList_store_row rfl 32 _ _ rfl w.heap.size (ints .u8 z32) rfl rfl 32 (ints .u8 z32) XA.out (by rw [ints_size]; exact sizeKey) rfl (ints_one _ _) ?_))
  refine bodyPost_ret (results_cell2_row rfl _ _ w.heap.size 32 (ints .u8 z32) (0, 0) _ rfl (setRow_heap _ _ (ints .u8 z32) _ _ _ XA.out) Try.underlying32 rfl (by rw [ints_size]; exact sizeKey)) rfl ⟨rfl, ?_⟩
  exact Below.setRow BA.out (by omega) _
set_option maxRecDepth 100000 in
set_option maxHeartbeats 2000000 in
theorem find_spec_long (b : Option Addr) (n cap : Nat) (s : ByteArray) (hn : n ≤ 256) (hm : s.size ≤ maxLen) (hs : ¬ s.size ≤ 64) (w : World) :
    Calls Try.prog 20 #[.slice b n cap, .string s] w fun e w' => e = .returned (.tuple #[.agg (ints .u8 z32), .int .i64 5]) ∧ Below w.heap.size w w' := by
  have Hz := Lib.hid z32_ints
  have XA := Lib.hid (heap_alloc_last w (.cells (ints .u8 z32) 32))
  have BA := Lib.hid (show Below w.heap.size w (w.alloc (.cells (ints .u8 z32) 32)) by go_grown)
  unfold maxLen at hm
  have z1 : ¬ (256 : Int) < (n : Int) := by omega
  have z2 : (64 : Int) < (s.size : Int) := by omega
  rw [Hz.out] at XA BA
  go_enter Try.func20, Try.ntmps20
  go_wp2_with (first | (refine wpList_store_row rfl 32 _ _ rfl w.heap.size (ints .u8 z32) rfl rfl 32 (ints .u8 z32) XA.out (by rw [ints_size]; exact sizeKey) rfl (ints_one _ _) ?_))
  refine bodyPost_ret (results_cell2_row rfl _ _ w.heap.size 32 (ints .u8 z32) (0, 0) _ rfl (setRow_heap _ _ (ints .u8 z32) _ _ _ XA.out) Try.underlying32 rfl (by rw [ints_size]; exact sizeKey)) rfl ⟨rfl, ?_⟩
  exact Below.setRow BA.out (by omega) _
end Go.Proofs.Ytdoelmjaongjfab
