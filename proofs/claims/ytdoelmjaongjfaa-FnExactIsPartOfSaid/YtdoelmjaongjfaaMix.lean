/- The words of a block; the mixing of a block into a state. -/
import Derived.Test.YtdoelmjaongjfaaRow
import Derived.Laws.BitsAllLaws
namespace Go.Proofs.Ytdoelmjaongjfaa
open Go.ChangeShapes Go.WideShapes Go.ChangeAt Go.RowKit
set_option linter.unusedVariables false
def rot7 (x : Int) : Int := bits .or .u32 (x * 128 % 4294967296) (x / 33554432)
def rot13 (x : Int) : Int := bits .or .u32 (x * 8192 % 4294967296) (x / 524288)
theorem ret_num {k : IntKind} {a b : Int} (h : b = a) : Ending.returned (.int k a) = .returned (.int k b) := by rw [h]
theorem rot7_impl (x : Int) (h0 : 0 ≤ x) (h1 : x ≤ 4294967295) (w : World) : Calls Try.prog 141 #[.int .u32 x, .int .i64 7] w fun e w' => e = .returned (.int .u32 (rot7 x)) ∧ w' = w := by
  have e : bits .and .u64 7 31 = 7 := by kernel_rfl
  go_enter Try.func141, Try.ntmps141
  go_wp2
  go_ret
  exact ⟨ret_num rfl, rfl⟩
theorem rot7_spec (x : Int) (h0 : 0 ≤ x) (h1 : x ≤ 4294967295) (w : World) : Calls Try.prog 137 #[.int .u32 x, .int .u64 7] w fun e w' => e = .returned (.int .u32 (rot7 x)) ∧ w' = w := by
  go_enter Try.func137, Try.ntmps137
  go_wp2
  go_ret
  exact ⟨ret_num rfl, rfl⟩
theorem rot13_impl (x : Int) (h0 : 0 ≤ x) (h1 : x ≤ 4294967295) (w : World) : Calls Try.prog 141 #[.int .u32 x, .int .i64 13] w fun e w' => e = .returned (.int .u32 (rot13 x)) ∧ w' = w := by
  have e : bits .and .u64 13 31 = 13 := by kernel_rfl
  go_enter Try.func141, Try.ntmps141
  go_wp2
  go_ret
  exact ⟨ret_num rfl, rfl⟩
theorem rot13_spec (x : Int) (h0 : 0 ≤ x) (h1 : x ≤ 4294967295) (w : World) : Calls Try.prog 137 #[.int .u32 x, .int .u64 13] w fun e w' => e = .returned (.int .u32 (rot13 x)) ∧ w' = w := by
  go_enter Try.func137, Try.ntmps137
  go_wp2
  go_ret
  exact ⟨ret_num rfl, rfl⟩

theorem sizeByte : (Try.prog.info? 5).map (·.size) = some 1 := by kernel_rfl
/-- The sum of n bytes from a place on, the lowest first. -/
def leN (b : List Int) (p : Nat) : Nat → Int
  | 0 => 0
  | n + 1 => leN b p n + b[p + n]?.getD 0 * 2 ^ (8 * n)
/-- The words behind k bytes. -/
def wT (b : List Int) (k : Nat) : List Int := (List.range 8).map fun (j : Nat) => leN b (4 * j) (min 4 (k - 4 * j))
theorem wT_len (b : List Int) (k : Nat) : (wT b k).length = 8 := by simp [wT]
theorem wT_at (b : List Int) (k j : Nat) (h : j < 8) : (wT b k)[j]?.getD 0 = leN b (4 * j) (min 4 (k - 4 * j)) := by simp [wT, h]
theorem wT_zero (b : List Int) : wT b 0 = z8 := by
  have : (fun j : Nat => leN b (4 * j) (min 4 (0 - 4 * j))) = fun _ => 0 := by funext j; simp [leN]
  unfold wT
  rw [this]
  rfl
theorem byte_range {b : List Int} (hr : ∀ x ∈ b, 0 ≤ x ∧ x ≤ 255) (i : Nat) : 0 ≤ b[i]?.getD 0 ∧ b[i]?.getD 0 ≤ 255 := by
  by_cases h : i < b.length
  · rw [List.getElem?_eq_getElem h]; exact hr _ (List.getElem_mem _)
  · rw [List.getElem?_eq_none (by omega)]; simp
theorem leN_range {b : List Int} (hr : ∀ x ∈ b, 0 ≤ x ∧ x ≤ 255) (p n : Nat) (hn : n ≤ 4) : 0 ≤ leN b p n ∧ leN b p n < 2 ^ (8 * n) := by
  have h0 := byte_range hr (p + 0)
  have h1 := byte_range hr (p + 1)
  have h2 := byte_range hr (p + 2)
  have h3 := byte_range hr (p + 3)
  rcases (show n = 0 ∨ n = 1 ∨ n = 2 ∨ n = 3 ∨ n = 4 by omega) with rfl | rfl | rfl | rfl | rfl <;> simp only [leN] <;> omega
theorem or_add (x y : Nat) (i : Nat) (hx : x < 2 ^ i) : x ||| (y * 2 ^ i) = x + y * 2 ^ i := by
  have := Nat.two_pow_add_eq_or_of_lt hx y
  rw [Nat.mul_comm y, Nat.or_comm, ← this]
  omega
theorem or_step (x y : Int) (r : Nat) (hr : r < 4) (x0 : 0 ≤ x) (x1 : x < 2 ^ (8 * r)) (y0 : 0 ≤ y) (y1 : y ≤ 255) : bits .or .u32 x (y * 2 ^ (8 * r) % 4294967296) = x + y * 2 ^ (8 * r) := by
  obtain ⟨a, rfl⟩ := Int.eq_ofNat_of_zero_le x0
  obtain ⟨c, rfl⟩ := Int.eq_ofNat_of_zero_le y0
  have hm : (c : Int) * 2 ^ (8 * r) % 4294967296 = ((c * 2 ^ (8 * r) : Nat) : Int) := by
    rcases (show r = 0 ∨ r = 1 ∨ r = 2 ∨ r = 3 by omega) with rfl | rfl | rfl | rfl <;> simp only [Nat.reduceMul, Nat.reducePow, Int.reducePow] <;> omega
  have hb : c * 2 ^ (8 * r) < 4294967296 ∧ a < 4294967296 ∧ a < 2 ^ (8 * r) := by
    rcases (show r = 0 ∨ r = 1 ∨ r = 2 ∨ r = 3 by omega) with rfl | rfl | rfl | rfl <;> simp only [Nat.reduceMul, Nat.reducePow, Int.reducePow] at x1 ⊢ <;> omega
  rw [hm, u32_or_nat _ _ hb.2.1 hb.1, or_add a c (8 * r) hb.2.2]
  push_cast
  rfl
theorem wT_step {b : List Int} (k : Nat) (hk : k < 32) : (wT b k).set (k / 4) ((wT b k)[k / 4]?.getD 0 + b[k]?.getD 0 * 2 ^ (8 * (k % 4))) = wT b (k + 1) := by
  apply List.ext_getElem?
  intro j
  by_cases hj : j < 8
  · have e1 : ∀ l : List Int, l.length = 8 → l[j]? = some (l[j]?.getD 0) := fun l hl => by
      rw [List.getElem?_eq_getElem (by omega)]; rfl
    rw [List.getElem?_set]
    by_cases h : k / 4 = j
    · rw [if_pos h, if_pos (by rw [wT_len]; omega), e1 _ (wT_len b (k + 1)), wT_at b (k + 1) j hj, wT_at b k (k / 4) (by omega)]
      subst h
      rw [show min 4 (k - 4 * (k / 4)) = k % 4 by omega, show min 4 (k + 1 - 4 * (k / 4)) = k % 4 + 1 by omega]
      simp only [leN]
      rw [show 4 * (k / 4) + k % 4 = k by omega]
    · rw [if_neg h, e1 _ (wT_len b k), e1 _ (wT_len b (k + 1)), wT_at b k j hj, wT_at b (k + 1) j hj]
      rw [show min 4 (k - 4 * j) = min 4 (k + 1 - 4 * j) by omega]
  · rw [List.getElem?_eq_none (by simp [wT_len]; omega), List.getElem?_eq_none (by rw [wT_len]; omega)]
set_option maxHeartbeats 2000000 in
theorem words_impl (b : List Int) (hb : b.length = 32) (hr : ∀ x ∈ b, 0 ≤ x ∧ x ≤ 255) (w : World) :
    Calls Try.prog 140 #[.agg (ints .u8 b)] w fun e w' => e = .returned (.agg (ints .u32 (wT b 32))) ∧ Below w.heap.size w w' := by
  have Hz := Lib.hid z8_ints
  have Hb := Lib.hid hb
  have Hr := Lib.hid hr
  clear hb hr
  go_enter Try.func140, Try.ntmps140
  go_wp2_with (refine wpList_load_row rfl 40 (.tmp 1) rfl w.heap.size rfl 40 (ints .u8 b) (0, 0) _ (heap3_0 _ _ _ _) Try.underlying40 rfl (by rw [ints_size, Hb.out]; exact sizeA32) ?_)
  go_loopw [7] (fun i wr => ∃ k : Nat, k ≤ 32 ∧ i = .int .i64 k ∧ Below w.heap.size w wr ∧ wr.heap[w.heap.size + 1]? = some (.cells (ints .u32 z8) 138) ∧ wr.heap[w.heap.size + 1 + 1]? = some (.cells (ints .u32 (wT b k)) 138)) (fun i _ => 32 - (intOf i).toNat)
  case atStart => exact ⟨0, by omega, rfl, (((Below.refl _ _).alloc (by simp) _).alloc (by simp) _).alloc (by simp; omega) _, by rw [Hz.out]; exact heap3_1 _ _ _ _, by rw [wT_zero, Hz.out]; exact heap3_2 _ _ _ _⟩
  case round =>
    obtain ⟨k, hk, rfl, hbl, h1, h2⟩ := hrel
    have Hbl := Lib.hid hbl
    have H1 := Lib.hid h1
    have H2 := Lib.hid h2
    by_cases hlt : k < 32
    · have c1 := cell_of_row wr (w.heap.size + 1 + 1) (k / 4) _ _ _ h2
      have f1 := frozen_of_row wr (w.heap.size + 1 + 1) (k / 4) _ _ h2
      rw [ints_get .u32 (wT b k) (k / 4) (by rw [wT_len]; omega)] at c1
      have hg := fun W => run_index_ints Try.underlying40 Try.underlying5 sizeByte b Hb.out k hlt W
      obtain ⟨y0, y1⟩ := byte_range Hr.out k
      have xr := leN_range Hr.out (4 * (k / 4)) (k % 4) (by omega)
      have ex : (wT b k)[k / 4]?.getD 0 = leN b (4 * (k / 4)) (k % 4) := by rw [wT_at b k (k / 4) (by omega), show min 4 (k - 4 * (k / 4)) = k % 4 by omega]
      have ho := or_step _ (b[k]?.getD 0) (k % 4) (by omega) xr.1 xr.2 y0 y1
      rw [← ex] at ho xr
      have hst := wT_step (b := b) k hlt
      rw [← ho] at hst
      have Hst := Lib.hid hst
      have x0 := xr.1
      have x1 : (wT b k)[k / 4]?.getD 0 ≤ 4294967295 := by
        have h4 : (2 : Int) ^ (8 * (k % 4)) ≤ 16777216 := by
          rcases (show k % 4 = 0 ∨ k % 4 = 1 ∨ k % 4 = 2 ∨ k % 4 = 3 by omega) with h | h | h | h <;> rw [h] <;> decide
        have := xr.2
        omega
      clear ho xr ex hst h1 h2 hbl
      generalize hX : (wT b k)[k / 4]?.getD 0 = x at c1 x0 x1
      generalize hY : b[k]?.getD 0 = y at hg y0 y1
      have HX := Lib.hid hX
      have HY := Lib.hid hY
      clear hX hY
      go_wp2
      go_region
      go_wp2
      go_roundw
      case rel =>
        have h2 := H2.out
        refine ⟨k + 1, by omega, by go_num, (Hbl.out.setCell (by simp; omega) _).drew, ?_, ?_⟩
        · show (wr.setCell _ _).heap[_]? = _
          rw [heap_setCell_other _ _ _ _ (by simp)]; exact H1.out
        · show (wr.setCell _ _).heap[_]? = _
          rw [heap_setCell_same _ _ _ _ _ _ h2, ints_set, ← HX.out, ← HY.out, Hst.out]
      case measure => simp [intOf]; omega
    · obtain rfl : k = 32 := by omega
      clear h1 h2 hbl
      go_wp2_with (first | (refine wpList_load_row rfl 138 _ rfl (w.heap.size + 1 + 1) rfl 138 (ints .u32 (wT b 32)) (0, 0) _ H2.out Try.underlying138 rfl (by rw [ints_size, wT_len]; exact sizeA8) ?_) | (refine wpList_store_row rfl 138 _ _ rfl (w.heap.size + 1) (ints .u32 (wT b 32)) rfl rfl 138 (ints .u32 z8) H1.out (by rw [ints_size, wT_len]; exact sizeA8) (by rw [ints_size, ints_size, wT_len]; rfl) (ints_one _ _) ?_))
      refine bodyPost_ret (results_cell_row rfl _ _ (w.heap.size + 1) 138 (ints .u32 (wT b 32)) (0, 0) _ rfl (setRow_heap _ _ _ _ _ _ H1.out) Try.underlying138 rfl (by rw [ints_size, wT_len]; exact sizeA8)) rfl ⟨rfl, ?_⟩
      exact Below.setRow Hbl.out (by omega) _
theorem rot7_range (x : Int) : 0 ≤ rot7 x ∧ rot7 x ≤ 4294967295 := bounds_u32 (wf_bits _ _ _ _)
theorem rot13_range (x : Int) : 0 ≤ rot13 x ∧ rot13 x ≤ 4294967295 := bounds_u32 (wf_bits _ _ _ _)
theorem xor_range (x y : Int) : 0 ≤ bits .xor .u32 x y ∧ bits .xor .u32 x y ≤ 4294967295 := bounds_u32 (wf_bits _ _ _ _)
/-- The number that a step of the mixing puts in place of word k of round r. -/
def mixV (m s : List Int) (r k : Nat) : Int :=
  (bits .xor .u32 (rot7 (((s[k]?.getD 0 + m[(k + 3 * r) % 8]?.getD 0) % 4294967296 + 2654435769 * (8 * (r : Int) + (k : Int) + 1) % 4294967296) % 4294967296)) (s[(k + 1) % 8]?.getD 0) + rot13 (s[(k + 5) % 8]?.getD 0)) % 4294967296
/-- The state behind k steps of round r, and behind r rounds. -/
def mixK (m s : List Int) (r : Nat) : Nat → List Int
  | 0 => s
  | k + 1 => (mixK m s r k).set k (mixV m (mixK m s r k) r k)
def mixR (m s : List Int) : Nat → List Int
  | 0 => s
  | r + 1 => mixK m (mixR m s r) r 8
def W32 (l : List Int) : Prop := l.length = 8 ∧ ∀ x ∈ l, 0 ≤ x ∧ x ≤ 4294967295
theorem W32.at {l : List Int} (h : W32 l) (i : Nat) : 0 ≤ l[i]?.getD 0 ∧ l[i]?.getD 0 ≤ 4294967295 := by
  by_cases hi : i < l.length
  · rw [List.getElem?_eq_getElem hi]; exact h.2 _ (List.getElem_mem _)
  · rw [List.getElem?_eq_none (by omega)]; simp
theorem W32.set {l : List Int} (h : W32 l) (k : Nat) (v : Int) (h0 : 0 ≤ v) (h1 : v ≤ 4294967295) : W32 (l.set k v) :=
  ⟨by rw [List.length_set]; exact h.1, fun x hx => by
    rcases List.mem_or_eq_of_mem_set hx with hx | rfl
    · exact h.2 x hx
    · exact ⟨h0, h1⟩⟩
theorem W32_K {m s : List Int} (h : W32 s) (r : Nat) : ∀ k, W32 (mixK m s r k)
  | 0 => h
  | k + 1 => (W32_K h r k).set k _ (by unfold mixV; omega) (by unfold mixV; omega)
theorem W32_R {m s : List Int} (h : W32 s) : ∀ r, W32 (mixR m s r)
  | 0 => h
  | r + 1 => W32_K (W32_R h r) r 8
theorem wT_W32 {b : List Int} (hr : ∀ x ∈ b, 0 ≤ x ∧ x ≤ 255) : W32 (wT b 32) := by
  refine ⟨wT_len b 32, fun x hx => ?_⟩
  unfold wT at hx
  obtain ⟨j, _, rfl⟩ := List.mem_map.1 hx
  have := leN_range hr (4 * j) (min 4 (32 - 4 * j)) (by omega)
  have h4 : (2 : Int) ^ (8 * min 4 (32 - 4 * j)) ≤ 4294967296 := by
    rcases (show min 4 (32 - 4 * j) = 0 ∨ min 4 (32 - 4 * j) = 1 ∨ min 4 (32 - 4 * j) = 2 ∨ min 4 (32 - 4 * j) = 3 ∨ min 4 (32 - 4 * j) = 4 by omega) with h | h | h | h | h <;> rw [h] <;> decide
  omega
/-- The whole of the mixing. -/
def xor8 (a b : List Int) : List Int := List.zipWith (fun x y => bits .xor .u32 x y) a b
theorem xor8_len {a b : List Int} (ha : a.length = 8) (hb : b.length = 8) : (xor8 a b).length = 8 := by simp [xor8, ha, hb]
theorem xor8_at {a b : List Int} {k : Nat} (ha : a.length = 8) (hb : b.length = 8) (h : k < 8) : (xor8 a b)[k]?.getD 0 = bits .xor .u32 (a[k]?.getD 0) (b[k]?.getD 0) := by
  simp [xor8, List.getElem?_zipWith, show k < a.length by omega, show k < b.length by omega]
def mixF (st b : List Int) : List Int := xor8 (mixR (wT b 32) st 12) st
end Go.Proofs.Ytdoelmjaongjfaa
