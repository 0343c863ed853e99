/- A key is read from its text: the program's own function. -/
import Derived.Test.YthfokngbjkljdabRead
namespace Go.Proofs.Ythfokngbjkljdab
open Go.ChangeShapes Go.WideShapes Go.ChangeAt Go.RowKit
set_option linter.unusedVariables false
set_option maxHeartbeats 2000000 in
theorem digits_no (s : ByteArray) (hm : s.size ≤ maxLen) (hv : ¬ ∀ j, j < s.size → isHx (charI s j) = true) (w : World) :
    Calls Try.prog 42 #[.string s] w fun e w' => e = .returned (.bool false) ∧ w' = w := by
  unfold maxLen at hm
  have Hv := Lib.hid hv
  clear hv
  go_enter Try.func42, Try.ntmps42
  go_wp2
  go_loop [6] (fun i => ∃ k : Nat, k ≤ s.size ∧ i = .int .i64 k ∧ Hid (∀ j, j < k → isHx (charI s j) = true)) (fun i => s.size - (intOf i).toNat)
  case atStart => exact ⟨0, by omega, rfl, Lib.hid (fun j hj => by omega)⟩
  case round =>
    obtain ⟨k, hk, rfl, hp⟩ := hrel
    by_cases hlt : k < s.size
    · have hc := fun W => run_char Try.prog 9 Try.underlying9 s k hlt W
      obtain ⟨c0, c1⟩ := charI_range s k
      have hi := Lib.hid (index_hex (charI s k) c0 c1)
      cases hx : isHx (charI s k)
      · rw [hx] at hi
        clear hx
        generalize charI s k = c at hc c0 c1 hi
        go_wp2_with fail
        refine (Try.strings_IndexByte _ c _).mono ?_
        rw [hi.out.trans (if_neg (by simp))]
        rintro e w' ⟨rfl, rfl⟩
        go_wp2
        go_ret
        exact ⟨rfl, rfl⟩
      · have Hx := Lib.hid hx
        obtain ⟨d0, d1⟩ := hxV_range hx
        rw [hx] at hi
        clear hx
        generalize hcc : charI s k = c at hc c0 c1 hi d0 d1
        clear hcc
        go_wp2_with fail
        refine (Try.strings_IndexByte _ c _).mono ?_
        rw [hi.out.trans (if_pos trivial)]
        rintro e w' ⟨rfl, rfl⟩
        go_wp2
        go_round
        case rel => exact ⟨k + 1, by omega, by go_num, Lib.hid (fun j hj => by
          by_cases h : j = k
          · subst h; exact Hx.out
          · exact hp.out j (by omega))⟩
        case measure => simp [intOf]; omega
    · obtain rfl : k = s.size := by omega
      exact absurd hp.out Hv.out
set_option maxRecDepth 100000 in
set_option maxHeartbeats 2000000 in
theorem read_impl_yes (s : ByteArray) (hs : s.size = 64) (hv : ∀ j, j < 64 → isHx (charI s j) = true) (w : World) :
    Calls Try.prog 16 #[.string s] w fun e w' => e = .returned (.tuple #[.agg (ints .u8 (stT s 64)), .int .i64 0]) ∧ Below w.heap.size w w' := by
  have Hz := Lib.hid z32_ints
  have Hs := Lib.hid hs
  have Hv := Lib.hid hv
  have Hm := Lib.hid (show s.size ≤ maxLen by unfold maxLen; omega)
  have hne : ((s.size : Int) != 64) = false := by simp; omega
  clear hv hs
  go_enter Try.func16, Try.ntmps16
  go_wp2_with fail
  refine (digits_yes s Hm.out (by rw [Hs.out]; exact Hv.out) _).mono ?_
  rintro e w' ⟨rfl, rfl⟩
  go_wp2
  go_loopw [17] (fun i wr => ∃ k : Nat, k ≤ 32 ∧ i = .int .i64 k ∧ wr = (w.alloc (.cells (ints .u8 z32) 24)).alloc (.cells (ints .u8 (upTo z32 (stT s 64) k)) 24)) (fun i _ => 32 - (intOf i).toNat)
  case atStart => exact ⟨0, by omega, rfl, by rw [upTo_zero, Hz.out]⟩
  case round =>
    obtain ⟨k, hk, rfl, rfl⟩ := hrel
    by_cases hlt : k < 32
    · have hc := fun W => run_char Try.prog 9 Try.underlying9 s (2 * k) (by rw [Hs.out]; omega) W
      have hc2 := fun W => run_char Try.prog 9 Try.underlying9 s (2 * k + 1) (by rw [Hs.out]; omega) W
      obtain ⟨a0, a1⟩ := charI_range s (2 * k)
      obtain ⟨b0, b1⟩ := charI_range s (2 * k + 1)
      have ia := Lib.hid ((index_hex (charI s (2 * k)) a0 a1).trans (if_pos (Hv.out (2 * k) (by omega))))
      have ib := Lib.hid ((index_hex (charI s (2 * k + 1)) b0 b1).trans (if_pos (Hv.out (2 * k + 1) (by omega))))
      obtain ⟨d0, d1⟩ := hxV_range (Hv.out (2 * k) (by omega))
      obtain ⟨e0, e1⟩ := hxV_range (Hv.out (2 * k + 1) (by omega))
      have hnew : (stT s 64)[k]?.getD 0 = 16 * hxV (charI s (2 * k)) + hxV (charI s (2 * k + 1)) := by rw [stT_at s 64 k hlt, if_pos (by omega)]
      have hg := upTo_get .u8 (k := k) (old := z32) (new := stT s 64) (by rw [stT_len]; rfl) (by rw [stT_len]; exact hlt)
      have ht := upTo_set .u8 (k := k) (old := z32) (new := stT s 64) (by rw [stT_len]; rfl) (by rw [stT_len]; exact hlt) hnew
      clear hnew
      generalize hxV (charI s (2 * k)) = x at ia d0 d1 ht
      generalize hxV (charI s (2 * k + 1)) = y at ib e0 e1 ht
      generalize charI s (2 * k) = c at hc a0 a1 ia
      generalize charI s (2 * k + 1) = d at hc2 b0 b1 ib
      have ec : ((2 * k + 1 : Nat) : Int) = 2 * (k : Int) + 1 := by omega
      have ec0 : ((2 * k : Nat) : Int) = 2 * (k : Int) := by omega
      rw [ec] at hc2
      rw [ec0] at hc
      clear ec ec0
      go_wp2_with fail
      refine (Try.strings_IndexByte _ c _).mono ?_
      rw [ia.out]
      rintro e w' ⟨rfl, rfl⟩
      go_wp2_with fail
      refine (Try.strings_IndexByte _ d _).mono ?_
      rw [ib.out]
      rintro e w' ⟨rfl, rfl⟩
      go_wp2
      go_roundw
      case rel => exact ⟨k + 1, by omega, by go_num, rfl⟩
      case measure => simp [intOf]; omega
    · obtain rfl : k = 32 := by omega
      rw [upTo_all z32_len (stT_len s 64)]
      go_wp2_with (first | (refine wpList_load_row rfl 24 _ rfl (w.heap.size + 1) rfl 24 (ints .u8 (stT s 64)) (0, 0) _ (heap_alloc2_new _ _ _) Try.underlying24 rfl (by rw [ints_size, stT_len]; exact sizeKey) ?_) | (refine wpList_store_row rfl 24 _ _ rfl w.heap.size (ints .u8 (stT s 64)) rfl rfl 24 (ints .u8 z32) (heap_alloc2_old _ _ _) (by rw [ints_size, stT_len]; exact sizeKey) (by rw [ints_size, ints_size, stT_len]; rfl) (ints_one _ _) ?_))
      refine bodyPost_ret (results_cell2_row rfl _ _ w.heap.size 24 (ints .u8 (stT s 64)) (0, 0) _ rfl (setRow_heap _ _ _ _ _ _ (heap_alloc2_old _ _ _)) Try.underlying24 rfl (by rw [ints_size, stT_len]; exact sizeKey)) rfl ⟨rfl, ?_⟩
      exact Below.setRow (((Below.refl _ _).alloc (by simp) _).alloc (by simp) _) (by omega) _
set_option maxRecDepth 100000 in
set_option maxHeartbeats 2000000 in
theorem read_impl_no (s : ByteArray) (hm : s.size ≤ maxLen) (hv : ¬ (s.size = 64 ∧ ∀ j, j < 64 → isHx (charI s j) = true)) (w : World) :
    Calls Try.prog 16 #[.string s] w fun e w' => e = .returned (.tuple #[.agg (ints .u8 z32), .int .i64 5]) ∧ Below w.heap.size w w' := by
  have Hz := Lib.hid z32_ints
  have Hm := Lib.hid hm
  have Hv := Lib.hid hv
  clear hv
  unfold maxLen at hm
  by_cases hs : s.size = 64
  · have Hd := Lib.hid (show ¬ ∀ j, j < s.size → isHx (charI s j) = true from fun h => Hv.out ⟨hs, by rw [hs] at h; exact h⟩)
    have hne : ((s.size : Int) != 64) = false := by simp; omega
    clear hs
    go_enter Try.func16, Try.ntmps16
    go_wp2_with fail
    refine (digits_no s Hm.out Hd.out _).mono ?_
    rintro e w' ⟨rfl, rfl⟩
    go_wp2_with (refine wpList_store_row rfl 24 (.tmp 2) (.tmp 16) rfl w.heap.size (ints .u8 z32) rfl rfl 24 (ints .u8 z32) (by rw [Hz.out]; exact heap_alloc2_old _ _ _) (by rw [ints_size]; exact sizeKey) rfl (ints_one _ _) ?_)
    refine bodyPost_ret (results_cell2_row rfl _ _ w.heap.size 24 (ints .u8 z32) (0, 0) _ rfl (setRow_heap _ _ (ints .u8 z32) _ _ _ (by rw [Hz.out]; exact heap_alloc2_old _ _ _)) Try.underlying24 rfl (by rw [ints_size]; exact sizeKey)) rfl ⟨rfl, ?_⟩
    exact Below.setRow (((Below.refl _ _).alloc (by simp) _).alloc (by simp) _) (by omega) _
  · have hne : ((s.size : Int) != 64) = true := by simp; omega
    go_enter Try.func16, Try.ntmps16
    go_wp2_with (refine wpList_store_row rfl 24 (.tmp 2) (.tmp 16) rfl w.heap.size (ints .u8 z32) rfl rfl 24 (ints .u8 z32) (by rw [Hz.out]; exact heap_alloc2_old _ _ _) (by rw [ints_size]; exact sizeKey) rfl (ints_one _ _) ?_)
    refine bodyPost_ret (results_cell2_row rfl _ _ w.heap.size 24 (ints .u8 z32) (0, 0) _ rfl (setRow_heap _ _ (ints .u8 z32) _ _ _ (by rw [Hz.out]; exact heap_alloc2_old _ _ _)) Try.underlying24 rfl (by rw [ints_size]; exact sizeKey)) rfl ⟨rfl, ?_⟩
    exact Below.setRow (((Below.refl _ _).alloc (by simp) _).alloc (by simp) _) (by omega) _
end Go.Proofs.Ythfokngbjkljdab
