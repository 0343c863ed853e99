/- A key is read from its text. -/
import Derived.Test.YtdoelmjaongjfabRow
import Derived.Test.YtdoelmjaongjfabShf
namespace Go.Proofs.Ytdoelmjaongjfab
open Go.ChangeShapes Go.WideShapes Go.ChangeAt Go.RowKit
set_option linter.unusedVariables false
def charI (s : ByteArray) (k : Nat) : Int := ((s.data.toList[k]?.getD 0).toNat : Int)
theorem charI_range (s : ByteArray) (k : Nat) : 0 ≤ charI s k ∧ charI s k ≤ 255 := by
  unfold charI
  have := UInt8.toNat_lt (s.data.toList[k]?.getD 0)
  omega
theorem run_char (P : Program) (t : TypeId) (ht : P.underlying t = some .string) (s : ByteArray) (k : Nat) (hk : k < s.size) (w : World) :
    (Instr.index t (.string s) (.int .i64 k)).run P w = .ok (.int .u8 (charI s k)) w := by
  rw [run_index_string (h := ht)]
  rw [dif_pos ⟨by omega, by omega⟩]
  unfold charI
  have hk' : k < s.data.size := hk
  have e : s.data[k]? = some s[k] := by rw [Array.getElem?_eq_getElem hk']; rfl
  simp [e]
/-- The value of a digit; a byte that is none has none. -/
def isHx (b : Int) : Bool := (decide (48 ≤ b) && decide (b ≤ 57)) || (decide (97 ≤ b) && decide (b ≤ 102))
def hxV (b : Int) : Int := if b ≤ 57 then b - 48 else b - 87
theorem hxV_range {b : Int} (h : isHx b = true) : 0 ≤ hxV b ∧ hxV b ≤ 15 := by
  unfold isHx at h
  unfold hxV
  simp at h
  split <;> omega
theorem index_tab : ∀ n : Nat, n < 256 → Lib.indexByte [48, 49, 50, 51, 52, 53, 54, 55, 56, 57, 97, 98, 99, 100, 101, 102] (UInt8.ofNat n) = if isHx n = true then hxV n else -1 := by decide +kernel
theorem index_hex (b : Int) (h0 : 0 ≤ b) (h1 : b ≤ 255) : Lib.indexByte ({ data := #[48, 49, 50, 51, 52, 53, 54, 55, 56, 57, 97, 98, 99, 100, 101, 102] } : ByteArray).data.toList b.toNat.toUInt8 = if isHx b = true then hxV b else -1 := by
  obtain ⟨n, rfl⟩ := Int.eq_ofNat_of_zero_le h0
  exact index_tab n (by omega)
theorem hex_yes (b : Int) (h : isHx b = true) (w : World) : Calls Try.prog 62 #[.int .u8 b] w fun e w' => e = .returned (.tuple #[.int .u8 (hxV b), .bool true]) ∧ w = w' := by
  unfold isHx at h
  simp at h
  have Hv := Lib.hid (show hxV b = if b ≤ 57 then b - 48 else b - 87 from rfl)
  rcases h with ⟨h1, h2⟩ | ⟨h1, h2⟩
  · have fin := Lib.hid (Hv.out.trans (if_pos h2))
    go_enter Try.func62, Try.ntmps62
    go_wp2
    go_ret2
    exact ⟨by rw [fin.out]; rfl, rfl⟩
  · have fin := Lib.hid (Hv.out.trans (if_neg (by omega)))
    have h3 : ¬ b ≤ 57 := by omega
    have h4 : decide (b ≤ 57) = false := by simpa using h3
    have h5 : 48 ≤ b := by omega
    go_enter Try.func62, Try.ntmps62
    go_wp2
    go_ret2
    exact ⟨by rw [fin.out, show b - 87 = b - 97 + 10 by omega]; rfl, rfl⟩
theorem hex_no (b : Int) (h : isHx b = false) (w : World) : Calls Try.prog 62 #[.int .u8 b] w fun e w' => e = .returned (.tuple #[.int .u8 0, .bool false]) ∧ w = w' := by
  unfold isHx at h
  simp at h
  obtain ⟨h1, h2⟩ := h
  by_cases a1 : 48 ≤ b
  · have a2 : 57 < b := by omega
    have a3 : decide (b ≤ 57) = false := by simp; omega
    by_cases a4 : 97 ≤ b
    · have a5 : decide (b ≤ 102) = false := by simp; omega
      go_enter Try.func62, Try.ntmps62
      go_wp2
      go_ret2
      exact ⟨rfl, rfl⟩
    · have a5 : decide (97 ≤ b) = false := by simp; omega
      go_enter Try.func62, Try.ntmps62
      go_wp2
      go_ret2
      exact ⟨rfl, rfl⟩
  · have a2 : decide (48 ≤ b) = false := by simp; omega
    have a3 : decide (97 ≤ b) = false := by simp; omega
    go_enter Try.func62, Try.ntmps62
    go_wp2
    go_ret2
    exact ⟨rfl, rfl⟩
/-- The key behind i digits. -/
def stT (s : ByteArray) (i : Nat) : List Int := (List.range 32).map fun j =>
  if 2 * j + 1 < i then 16 * hxV (charI s (2 * j)) + hxV (charI s (2 * j + 1)) else if 2 * j < i then hxV (charI s (2 * j)) else 0
theorem stT_len (s : ByteArray) (i : Nat) : (stT s i).length = 32 := by simp [stT]
theorem stT_at (s : ByteArray) (i j : Nat) (h : j < 32) : (stT s i)[j]?.getD 0 = if 2 * j + 1 < i then 16 * hxV (charI s (2 * j)) + hxV (charI s (2 * j + 1)) else if 2 * j < i then hxV (charI s (2 * j)) else 0 := by
  simp [stT, h]
theorem stT_zero (s : ByteArray) : stT s 0 = z32 := by
  have : (fun j : Nat => if 2 * j + 1 < 0 then 16 * hxV (charI s (2 * j)) + hxV (charI s (2 * j + 1)) else if 2 * j < 0 then hxV (charI s (2 * j)) else 0) = fun _ => 0 := by funext j; simp
  unfold stT
  rw [this]
  rfl
theorem stT_cur (s : ByteArray) (i : Nat) (hi : i < 64) (hv : ∀ j, j < i → isHx (charI s j) = true) : 0 ≤ (stT s i)[i / 2]?.getD 0 ∧ (stT s i)[i / 2]?.getD 0 ≤ 15 := by
  rw [stT_at s i (i / 2) (by omega), if_neg (by omega)]
  split
  · exact hxV_range (hv _ (by omega))
  · omega
theorem stT_step (s : ByteArray) (i : Nat) (hi : i < 64) : (stT s i).set (i / 2) ((stT s i)[i / 2]?.getD 0 * 16 + hxV (charI s i)) = stT s (i + 1) := by
  apply List.ext_getElem?
  intro j
  by_cases hj : j < 32
  · have e1 : ∀ l : List Int, l.length = 32 → l[j]? = some (l[j]?.getD 0) := fun l hl => by
      rw [List.getElem?_eq_getElem (by omega)]; rfl
    rw [List.getElem?_set]
    by_cases h : i / 2 = j
    · rw [if_pos h, if_pos (by rw [stT_len]; omega), e1 _ (stT_len s (i + 1)), stT_at s (i + 1) j hj, stT_at s i (i / 2) (by omega)]
      subst h
      by_cases h2 : i % 2 = 0
      · rw [if_neg (by omega), if_neg (by omega), if_neg (by omega), if_pos (by omega), show 2 * (i / 2) = i by omega]
        congr 1; omega
      · rw [if_neg (by omega), if_pos (by omega), if_pos (by omega), show 2 * (i / 2) + 1 = i by omega]
        congr 1; omega
    · rw [if_neg h, e1 _ (stT_len s i), e1 _ (stT_len s (i + 1)), stT_at s i j hj, stT_at s (i + 1) j hj]
      congr 1
      by_cases h3 : 2 * j + 1 < i
      · rw [if_pos h3, if_pos (by omega)]
      · rw [if_neg h3]
        by_cases h4 : 2 * j < i
        · omega
        · rw [if_neg h4, if_neg (by omega), if_neg (by omega)]
  · rw [List.getElem?_eq_none (by simp [stT_len]; omega), List.getElem?_eq_none (by rw [stT_len]; omega)]
set_option maxHeartbeats 2000000 in
theorem digits_yes (s : ByteArray) (hm : s.size ≤ maxLen) (hv : ∀ j, j < s.size → isHx (charI s j) = true) (w : World) :
    Calls Try.prog 64 #[.string s] w fun e w' => e = .returned (.bool true) ∧ w' = w := by
  unfold maxLen at hm
  have Hv := Lib.hid hv
  clear hv
  go_enter Try.func64, Try.ntmps64
  go_wp2
  go_loop [6] (fun i => ∃ k : Nat, k ≤ s.size ∧ i = .int .i64 k) (fun i => s.size - (intOf i).toNat)
  case atStart => exact ⟨0, by omega, rfl⟩
  case round =>
    obtain ⟨k, hk, rfl⟩ := hrel
    by_cases hlt : k < s.size
    · have hc := fun W => run_char Try.prog 9 Try.underlying9 s k hlt W
      obtain ⟨c0, c1⟩ := charI_range s k
      have hi := Lib.hid ((index_hex (charI s k) c0 c1).trans (if_pos (Hv.out k hlt)))
      obtain ⟨d0, d1⟩ := hxV_range (Hv.out k hlt)
      generalize charI s k = c at hc c0 c1 hi d0 d1
      go_wp2_with fail
      refine (Try.strings_IndexByte _ c _).mono ?_
      rw [hi.out]
      rintro e w' ⟨rfl, rfl⟩
      go_wp2
      go_round
      case rel => exact ⟨k + 1, by omega, by go_num⟩
      case measure => simp [intOf]; omega
    · obtain rfl : k = s.size := by omega
      go_wp2
      go_ret
      exact ⟨rfl, rfl⟩
end Go.Proofs.Ytdoelmjaongjfab
