/- A key is read from its text. -/
import Derived.Test.YthfokngbjkljdabRow
import Derived.Test.YthfokngbjkljdabShelf
namespace Go.Proofs.Ythfokngbjkljdab
open Go.ChangeShapes Go.WideShapes Go.ChangeAt Go.RowKit
set_option linter.unusedVariables false
def charI (s : ByteArray) (k : Nat) : Int := ((s.data.toList[k]?.getD 0).toNat : Int)
theorem charI_range (s : ByteArray) (k : Nat) : 0 ≤ charI s k ∧ charI s k ≤ 255 := by
  unfold charI
  have := UInt8.toNat_lt (s.data.toList[k]?.getD 0)
  omega
theorem run_char (P : Program) (t : TypeId) (ht : P.underlying t = some .string) (s : ByteArray) (k : Nat) (hk : k < s.size) (w : World) :
    (Instr.index t (.string s) (.int .i64 k)).run P w = .ok (.int .u8 (charI s k)) w := by
  rw [run_index_string (h := ht)]
  rw [dif_pos ⟨by omega, by omega⟩]
  unfold charI
  have hk' : k < s.data.size := hk
  have e : s.data[k]? = some s[k] := by rw [Array.getElem?_eq_getElem hk']; rfl
  simp [e]
/-- The value of a digit; a byte that is none has none. -/
def isHx (b : Int) : Bool := (decide (48 ≤ b) && decide (b ≤ 57)) || (decide (97 ≤ b) && decide (b ≤ 102))
def hxV (b : Int) : Int := if b ≤ 57 then b - 48 else b - 87
theorem hxV_range {b : Int} (h : isHx b = true) : 0 ≤ hxV b ∧ hxV b ≤ 15 := by
  unfold isHx at h
  unfold hxV
  simp at h
  split <;> omega
theorem index_tab : ∀ n : Nat, n < 256 → Lib.indexByte [48, 49, 50, 51, 52, 53, 54, 55, 56, 57, 97, 98, 99, 100, 101, 102] (UInt8.ofNat n) = if isHx n = true then hxV n else -1 := by decide +kernel
theorem index_hex (b : Int) (h0 : 0 ≤ b) (h1 : b ≤ 255) : Lib.indexByte ({ data := #[48, 49, 50, 51, 52, 53, 54, 55, 56, 57, 97, 98, 99, 100, 101, 102] } : ByteArray).data.toList b.toNat.toUInt8 = if isHx b = true then hxV b else -1 := by
  obtain ⟨n, rfl⟩ := Int.eq_ofNat_of_zero_le h0
  exact index_tab n (by omega)
theorem hex_yes (b : Int) (h : isHx b = true) (w : World) : Calls Try.prog 52 #[.int .u8 b] w fun e w' => e = .returned (.tuple #[.int .u8 (hxV b), .bool true]) ∧ w = w' := by
  unfold isHx at h
  simp at h
  have Hv := Lib.hid (show hxV b = if b ≤ 57 then b - 48 else b - 87 from rfl)
  rcases h with ⟨h1, h2⟩ | ⟨h1, h2⟩
  · have fin := Lib.hid (Hv.out.trans (if_pos h2))
    go_enter Try.func52, Try.ntmps52
    go_wp2
    go_ret2
    exact ⟨by rw [fin.out]; rfl, rfl⟩
  · have fin := Lib.hid (Hv.out.trans (if_neg (by omega)))
    have h3 : ¬ b ≤ 57 := by omega
    have h4 : decide (b ≤ 57) = false := by simpa using h3
    have h5 : 48 ≤ b := by omega
    go_enter Try.func52, Try.ntmps52
    go_wp2
    go_ret2
    exact ⟨by rw [fin.out, show b - 87 = b - 97 + 10 by omega]; rfl, rfl⟩
theorem hex_no (b : Int) (h : isHx b = false) (w : World) : Calls Try.prog 52 #[.int .u8 b] w fun e w' => e = .returned (.tuple #[.int .u8 0, .bool false]) ∧ w = w' := by
  unfold isHx at h
  simp at h
  obtain ⟨h1, h2⟩ := h
  by_cases a1 : 48 ≤ b
  · have a2 : 57 < b := by omega
    have a3 : decide (b ≤ 57) = false := by simp; omega
    by_cases a4 : 97 ≤ b
    · have a5 : decide (b ≤ 102) = false := by simp; omega
      go_enter Try.func52, Try.ntmps52
      go_wp2
      go_ret2
      exact ⟨rfl, rfl⟩
    · have a5 : decide (97 ≤ b) = false := by simp; omega
      go_enter Try.func52, Try.ntmps52
      go_wp2
      go_ret2
      exact ⟨rfl, rfl⟩
  · have a2 : decide (48 ≤ b) = false := by simp; omega
    have a3 : decide (97 ≤ b) = false := by simp; omega
    go_enter Try.func52, Try.ntmps52
    go_wp2
    go_ret2
    exact ⟨rfl, rfl⟩
/-- The key behind i digits. -/
def stT (s : ByteArray) (i : Nat) : List Int := (List.range 32).map fun j =>
  if 2 * j + 1 < i then 16 * hxV (charI s (2 * j)) + hxV (charI s (2 * j + 1)) else if 2 * j < i then hxV (charI s (2 * j)) else 0
theorem stT_len (s : ByteArray) (i : Nat) : (stT s i).length = 32 := by simp [stT]
theorem stT_at (s : ByteArray) (i j : Nat) (h : j < 32) : (stT s i)[j]?.getD 0 = if 2 * j + 1 < i then 16 * hxV (charI s (2 * j)) + hxV (charI s (2 * j + 1)) else if 2 * j < i then hxV (charI s (2 * j)) else 0 := by
  simp [stT, h]
theorem stT_zero (s : ByteArray) : stT s 0 = z32 := by
  have : (fun j : Nat => if 2 * j + 1 < 0 then 16 * hxV (charI s (2 * j)) + hxV (charI s (2 * j + 1)) else if 2 * j < 0 then hxV (charI s (2 * j)) else 0) = fun _ => 0 := by funext j; simp
  unfold stT
  rw [this]
  rfl
theorem stT_cur (s : ByteArray) (i : Nat) (hi : i < 64) (hv : ∀ j, j < i → isHx (charI s j) = true) : 0 ≤ (stT s i)[i / 2]?.getD 0 ∧ (stT s i)[i / 2]?.getD 0 ≤ 15 := by
  rw [stT_at s i (i / 2) (by omega), if_neg (by omega)]
  split
  · exact hxV_range (hv _ (by omega))
  · omega
theorem stT_step (s : ByteArray) (i : Nat) (hi : i < 64) : (stT s i).set (i / 2) ((stT s i)[i / 2]?.getD 0 * 16 + hxV (charI s i)) = stT s (i + 1) := by
  apply List.ext_getElem?
  intro j
  by_cases hj : j < 32
  · have e1 : ∀ l : List Int, l.length = 32 → l[j]? = some (l[j]?.getD 0) := fun l hl => by
      rw [List.getElem?_eq_getElem (by omega)]; rfl
    rw [List.getElem?_set]
    by_cases h : i / 2 = j
    · rw [if_pos h, if_pos (by rw [stT_len]; omega), e1 _ (stT_len s (i + 1)), stT_at s (i + 1) j hj, stT_at s i (i / 2) (by omega)]
      subst h
      by_cases h2 : i % 2 = 0
      · rw [if_neg (by omega), if_neg (by omega), if_neg (by omega), if_pos (by omega), show 2 * (i / 2) = i by omega]
        congr 1; omega
      · rw [if_neg (by omega), if_pos (by omega), if_pos (by omega), show 2 * (i / 2) + 1 = i by omega]
        congr 1; omega
    · rw [if_neg h, e1 _ (stT_len s i), e1 _ (stT_len s (i + 1)), stT_at s i j hj, stT_at s (i + 1) j hj]
      congr 1
      by_cases h3 : 2 * j + 1 < i
      · rw [if_pos h3, if_pos (by omega)]
      · rw [if_neg h3]
        by_cases h4 : 2 * j < i
        · omega
        · rw [if_neg h4, if_neg (by omega), if_neg (by omega)]
  · rw [List.getElem?_eq_none (by simp [stT_len]; omega), List.getElem?_eq_none (by rw [stT_len]; omega)]
set_option maxRecDepth 100000 in
set_option maxHeartbeats 2000000 in
theorem read_spec0_yes (s : ByteArray) (hs : s.size = 64) (hv : ∀ j, j < 64 → isHx (charI s j) = true) (w : World) :
    Calls Try.prog 41 #[.string s] w fun e w' => e = .returned (.tuple #[.agg (ints .u8 (stT s 64)), .bool true]) ∧ Below w.heap.size w w' := by
  have Hz := Lib.hid z32_ints
  have Hs := Lib.hid hs
  have Hv := Lib.hid hv
  have hne : ((s.size : Int) != 64) = false := by simp; omega
  clear hv hs
  go_enter Try.func41, Try.ntmps41
  go_wp2_with (refine wpList_store_row rfl 24 (.tmp 4) (.tmp 8) rfl (w.heap.size + 1) (ints .u8 z32) rfl rfl 24 (ints .u8 z32) (by rw [Hz.out]; exact heap_alloc2_new _ _ _) (by rw [ints_size]; exact sizeKey) rfl (ints_one _ _) ?_; rw [setRow2_1])
  go_loopw [5] (fun i wr => ∃ k : Nat, k ≤ 64 ∧ i = .int .i64 k ∧ wr = (w.alloc (.cells (ints .u8 z32) 24)).alloc (.cells (ints .u8 (stT s k)) 24)) (fun i _ => 64 - (intOf i).toNat)
  case atStart => exact ⟨0, by omega, rfl, by rw [stT_zero, Hz.out]⟩
  case round =>
    obtain ⟨k, hk, rfl, rfl⟩ := hrel
    by_cases hlt : k < 64
    · have hc := fun W => run_char Try.prog 9 Try.underlying9 s k (by rw [Hs.out]; exact hlt) W
      have hx := Hv.out k hlt
      have Hx := Lib.hid hx
      obtain ⟨d0, d1⟩ := hxV_range hx
      obtain ⟨x0, x1⟩ := stT_cur s k hlt (fun j hj => Hv.out j (by omega))
      have hg := ints_get .u8 (stT s k) (k / 2) (by rw [stT_len]; omega)
      have ht := ints_set .u8 (stT s k) (k / 2) ((stT s k)[k / 2]?.getD 0 * 16 + hxV (charI s k))
      rw [stT_step s k hlt] at ht
      clear hx
      generalize (stT s k)[k / 2]?.getD 0 = x at hg ht x0 x1
      generalize hd : hxV (charI s k) = d at ht d0 d1
      have Hd := Lib.hid hd
      clear hd
      go_wp2_with fail
      refine (hex_yes (charI s k) Hx.out _).mono ?_
      rw [Hd.out]
      rintro e w' ⟨rfl, rfl⟩
      go_wp2
      go_roundw
      case rel => exact ⟨k + 1, by omega, by go_num, rfl⟩
      case measure => simp [intOf]; omega
    · obtain rfl : k = 64 := by omega
      go_wp2_with (first | (refine wpList_load_row rfl 24 _ rfl (w.heap.size + 1) rfl 24 (ints .u8 (stT s 64)) (0, 0) _ (heap_alloc2_new _ _ _) Try.underlying24 rfl (by rw [ints_size, stT_len]; exact sizeKey) ?_) | (refine wpList_store_row rfl 24 _ _ rfl w.heap.size (ints .u8 (stT s 64)) rfl rfl 24 (ints .u8 z32) (heap_alloc2_old _ _ _) (by rw [ints_size, stT_len]; exact sizeKey) (by rw [ints_size, ints_size, stT_len]; rfl) (ints_one _ _) ?_))
      refine bodyPost_ret (results_cell2_row rfl _ _ w.heap.size 24 (ints .u8 (stT s 64)) (0, 0) _ rfl (setRow_heap _ _ _ _ _ _ (heap_alloc2_old _ _ _)) Try.underlying24 rfl (by rw [ints_size, stT_len]; exact sizeKey)) rfl ⟨rfl, ?_⟩
      exact Below.setRow (((Below.refl _ _).alloc (by simp) _).alloc (by simp) _) (by omega) _
set_option maxRecDepth 100000 in
set_option maxHeartbeats 2000000 in
theorem read_spec0_no (s : ByteArray) (hm : s.size ≤ maxLen) (hv : ¬ (s.size = 64 ∧ ∀ j, j < 64 → isHx (charI s j) = true)) (w : World) :
    Calls Try.prog 41 #[.string s] w fun e w' => e = .returned (.tuple #[.agg (ints .u8 z32), .bool false]) ∧ Below w.heap.size w w' := by
  have Hz := Lib.hid z32_ints
  have Hv := Lib.hid hv
  clear hv
  unfold maxLen at hm
  by_cases hs : s.size = 64
  · have Hs := Lib.hid hs
    have hne : ((s.size : Int) != 64) = false := by simp; omega
    clear hs
    go_enter Try.func41, Try.ntmps41
    go_wp2_with (refine wpList_store_row rfl 24 (.tmp 4) (.tmp 8) rfl (w.heap.size + 1) (ints .u8 z32) rfl rfl 24 (ints .u8 z32) (by rw [Hz.out]; exact heap_alloc2_new _ _ _) (by rw [ints_size]; exact sizeKey) rfl (ints_one _ _) ?_; rw [setRow2_1])
    go_loopw [5] (fun i wr => ∃ k : Nat, k ≤ 64 ∧ i = .int .i64 k ∧ Hid (∀ j, j < k → isHx (charI s j) = true) ∧ wr = (w.alloc (.cells (ints .u8 z32) 24)).alloc (.cells (ints .u8 (stT s k)) 24)) (fun i _ => 64 - (intOf i).toNat)
    case atStart => exact ⟨0, by omega, rfl, Lib.hid (fun j hj => by omega), by rw [stT_zero, Hz.out]⟩
    case round =>
      obtain ⟨k, hk, rfl, hp, rfl⟩ := hrel
      by_cases hlt : k < 64
      · have hc := fun W => run_char Try.prog 9 Try.underlying9 s k (by rw [Hs.out]; exact hlt) W
        cases hx : isHx (charI s k)
        · have Hx := Lib.hid hx
          clear hx
          go_wp2_with fail
          refine (hex_no (charI s k) Hx.out _).mono ?_
          rintro e w' ⟨rfl, rfl⟩
          go_wp2_with (refine wpList_store_row rfl 24 (.tmp 2) (.tmp 26) rfl w.heap.size (ints .u8 z32) rfl rfl 24 (ints .u8 z32) (heap_alloc2_old _ _ _) (by rw [ints_size]; exact sizeKey) rfl (ints_one _ _) ?_)
          refine bodyPost_ret (results_cell2_row rfl _ _ w.heap.size 24 (ints .u8 z32) (0, 0) _ rfl (setRow_heap _ _ _ _ _ _ (heap_alloc2_old _ _ _)) Try.underlying24 rfl (by rw [ints_size]; exact sizeKey)) rfl ⟨rfl, ?_⟩
          exact Below.setRow (((Below.refl _ _).alloc (by simp) _).alloc (by simp) _) (by omega) _
        · have Hx := Lib.hid hx
          obtain ⟨d0, d1⟩ := hxV_range hx
          obtain ⟨x0, x1⟩ := stT_cur s k hlt (fun j hj => hp.out j (by omega))
          have hg := ints_get .u8 (stT s k) (k / 2) (by rw [stT_len]; omega)
          have ht := ints_set .u8 (stT s k) (k / 2) ((stT s k)[k / 2]?.getD 0 * 16 + hxV (charI s k))
          rw [stT_step s k hlt] at ht
          clear hx
          generalize (stT s k)[k / 2]?.getD 0 = x at hg ht x0 x1
          generalize hd : hxV (charI s k) = d at ht d0 d1
          have Hd := Lib.hid hd
          clear hd
          go_wp2_with fail
          refine (hex_yes (charI s k) Hx.out _).mono ?_
          rw [Hd.out]
          rintro e w' ⟨rfl, rfl⟩
          go_wp2
          go_roundw
          case rel => exact ⟨k + 1, by omega, by go_num, Lib.hid (fun j hj => by
            by_cases h : j = k
            · subst h; exact Hx.out
            · exact hp.out j (by omega)), rfl⟩
          case measure => simp [intOf]; omega
      · obtain rfl : k = 64 := by omega
        exact absurd ⟨Hs.out, hp.out⟩ Hv.out
  · have hne : ((s.size : Int) != 64) = true := by simp; omega
    go_enter Try.func41, Try.ntmps41
    go_wp2_with (first | (refine wpList_store_row rfl 24 (.tmp 4) (.tmp 8) rfl (w.heap.size + 1) (ints .u8 z32) rfl rfl 24 (ints .u8 z32) (by rw [Hz.out]; exact heap_alloc2_new _ _ _) (by rw [ints_size]; exact sizeKey) rfl (ints_one _ _) ?_; rw [setRow2_1]) | (refine wpList_load_row rfl 24 (.tmp 4) rfl (w.heap.size + 1) rfl 24 (ints .u8 z32) (0, 0) _ (heap_alloc2_new _ _ _) Try.underlying24 rfl (by rw [ints_size]; exact sizeKey) ?_) | (refine wpList_store_row rfl 24 (.tmp 2) (.tmp 12) rfl w.heap.size (ints .u8 z32) rfl rfl 24 (ints .u8 z32) (by rw [Hz.out]; exact heap_alloc2_old _ _ _) (by rw [ints_size]; exact sizeKey) rfl (ints_one _ _) ?_))
    refine bodyPost_ret (results_cell2_row rfl _ _ w.heap.size 24 (ints .u8 z32) (0, 0) _ rfl (setRow_heap _ _ _ _ _ _ (heap_alloc2_old _ _ _)) Try.underlying24 rfl (by rw [ints_size]; exact sizeKey)) rfl ⟨rfl, ?_⟩
    exact Below.setRow (((Below.refl _ _).alloc (by simp) _).alloc (by simp) _) (by omega) _
set_option maxRecDepth 100000 in
set_option maxHeartbeats 2000000 in
theorem read_spec_yes (s : ByteArray) (hs : s.size = 64) (hv : ∀ j, j < 64 → isHx (charI s j) = true) (w : World) :
    Calls Try.prog 15 #[.string s] w fun e w' => e = .returned (.tuple #[.agg (ints .u8 (stT s 64)), .int .i64 0]) ∧ Below w.heap.size w w' := by
  have Hz := Lib.hid z32_ints
  have hc := Lib.hid (read_spec0_yes s hs hv)
  clear hs hv
  go_enter Try.func15, Try.ntmps15
  go_wp2_with fail
  refine (hc.out _).mono ?_
  rintro e w1 ⟨rfl, hb1⟩
  have Hw1 := Lib.hid (((Below.refl w.heap.size w).alloc (by simp) _).trans (hb1.mono (by simp)))
  have hg : w1.heap[w.heap.size]? = some (.cells (ints .u8 z32) 24) := by rw [hb1.block _ (by simp), heap_alloc_last, Hz.out]
  have Hg := Lib.hid ((Below.heap_alloc w1 (.cells (ints .u8 (stT s 64)) 24) w.heap.size (by have := hb1.size; simp at this; omega)).trans hg)
  clear hb1 hg
  go_wp2_with (first | (refine wpList_store_row rfl 24 (.tmp 4) (.tmp 9) rfl w1.heap.size (ints .u8 (stT s 64)) rfl rfl 24 (ints .u8 z32) (by rw [Hz.out]; exact heap_alloc_last _ _) (by rw [ints_size]; exact sizeKey) rfl (ints_one _ _) ?_; rw [World.setRow_alloc_new]) | (refine wpList_load_row rfl 24 (.tmp 4) rfl w1.heap.size rfl 24 (ints .u8 (stT s 64)) (0, 0) _ (heap_alloc_last _ _) Try.underlying24 rfl (by rw [ints_size]; exact sizeKey) ?_) | (refine wpList_store_row rfl 24 (.tmp 2) (.tmp 14) rfl w.heap.size (ints .u8 (stT s 64)) rfl rfl 24 (ints .u8 z32) Hg.out (by rw [ints_size]; exact sizeKey) rfl (ints_one _ _) ?_))
  refine bodyPost_ret (results_cell2_row rfl _ _ w.heap.size 24 (ints .u8 (stT s 64)) (0, 0) _ rfl (setRow_heap _ _ _ _ _ _ Hg.out) Try.underlying24 rfl (by rw [ints_size]; exact sizeKey)) rfl ⟨rfl, ?_⟩
  exact Below.setRow (Hw1.out.alloc Hw1.out.size _) (by omega) _
set_option maxRecDepth 100000 in
set_option maxHeartbeats 2000000 in
theorem read_spec_no (s : ByteArray) (hm : s.size ≤ maxLen) (hv : ¬ (s.size = 64 ∧ ∀ j, j < 64 → isHx (charI s j) = true)) (w : World) :
    Calls Try.prog 15 #[.string s] w fun e w' => e = .returned (.tuple #[.agg (ints .u8 z32), .int .i64 5]) ∧ Below w.heap.size w w' := by
  have Hz := Lib.hid z32_ints
  have hc := Lib.hid (read_spec0_no s hm hv)
  clear hm hv
  go_enter Try.func15, Try.ntmps15
  go_wp2_with fail
  refine (hc.out _).mono ?_
  rintro e w1 ⟨rfl, hb1⟩
  have Hw1 := Lib.hid (((Below.refl w.heap.size w).alloc (by simp) _).trans (hb1.mono (by simp)))
  have hg : w1.heap[w.heap.size]? = some (.cells (ints .u8 z32) 24) := by rw [hb1.block _ (by simp), heap_alloc_last, Hz.out]
  have Hg := Lib.hid ((Below.heap_alloc w1 (.cells (ints .u8 z32) 24) w.heap.size (by have := hb1.size; simp at this; omega)).trans hg)
  clear hb1 hg
  go_wp2_with (first | (refine wpList_store_row rfl 24 (.tmp 4) (.tmp 9) rfl w1.heap.size (ints .u8 z32) rfl rfl 24 (ints .u8 z32) (by rw [Hz.out]; exact heap_alloc_last _ _) (by rw [ints_size]; exact sizeKey) rfl (ints_one _ _) ?_; rw [World.setRow_alloc_new]) | (refine wpList_store_row rfl 24 (.tmp 2) (.tmp 13) rfl w.heap.size (ints .u8 z32) rfl rfl 24 (ints .u8 z32) Hg.out (by rw [ints_size]; exact sizeKey) rfl (ints_one _ _) ?_))
  refine bodyPost_ret (results_cell2_row rfl _ _ w.heap.size 24 (ints .u8 z32) (0, 0) _ rfl (setRow_heap _ _ _ _ _ _ Hg.out) Try.underlying24 rfl (by rw [ints_size]; exact sizeKey)) rfl ⟨rfl, ?_⟩
  exact Below.setRow (Hw1.out.alloc Hw1.out.size _) (by omega) _
set_option maxHeartbeats 2000000 in
theorem digits_yes (s : ByteArray) (hm : s.size ≤ maxLen) (hv : ∀ j, j < s.size → isHx (charI s j) = true) (w : World) :
    Calls Try.prog 42 #[.string s] w fun e w' => e = .returned (.bool true) ∧ w' = w := by
  unfold maxLen at hm
  have Hv := Lib.hid hv
  clear hv
  go_enter Try.func42, Try.ntmps42
  go_wp2
  go_loop [6] (fun i => ∃ k : Nat, k ≤ s.size ∧ i = .int .i64 k) (fun i => s.size - (intOf i).toNat)
  case atStart => exact ⟨0, by omega, rfl⟩
  case round =>
    obtain ⟨k, hk, rfl⟩ := hrel
    by_cases hlt : k < s.size
    · have hc := fun W => run_char Try.prog 9 Try.underlying9 s k hlt W
      obtain ⟨c0, c1⟩ := charI_range s k
      have hi := Lib.hid ((index_hex (charI s k) c0 c1).trans (if_pos (Hv.out k hlt)))
      obtain ⟨d0, d1⟩ := hxV_range (Hv.out k hlt)
      generalize charI s k = c at hc c0 c1 hi d0 d1
      go_wp2_with fail
      refine (Try.strings_IndexByte _ c _).mono ?_
      rw [hi.out]
      rintro e w' ⟨rfl, rfl⟩
      go_wp2
      go_round
      case rel => exact ⟨k + 1, by omega, by go_num⟩
      case measure => simp [intOf]; omega
    · obtain rfl : k = s.size := by omega
      go_wp2
      go_ret
      exact ⟨rfl, rfl⟩
end Go.Proofs.Ythfokngbjkljdab
