/- How many bits two keys have in common. -/
import Derived.Test.YtdhjnpafijockaaXor
import Derived.Test.YtdhjnpafijockaaShelf
import Derived.Laws.BitsAllLaws
namespace Go.Proofs.Ytdhjnpafijockaa
open Go.ChangeShapes Go.WideShapes Go.ChangeAt Go.RowKit
set_option linter.unusedVariables false
theorem sizeU8 : (Try.prog.info? 5).map (·.size) = some 1 := by kernel_rfl
theorem ret_i64 {k : IntKind} {a b : Int} (h : b = a) : Ending.returned (.int k a) = .returned (.int k b) := by rw [h]
/-- The number of bits 0 at the beginning of some bytes. -/
def cbI : List Int → Int
  | [] => 0
  | x :: xs => if x = 0 then 8 + cbI xs else 8 - (Lib.bitLen x.toNat : Int)
theorem cb_at : ∀ (l : List Int) (k : Nat), k < l.length → (∀ i, i < k → l[i]?.getD 0 = 0) → l[k]?.getD 0 ≠ 0 → cbI l = 8 * (k : Int) + (8 - (Lib.bitLen (l[k]?.getD 0).toNat : Int))
  | [], _, h, _, _ => by simp at h
  | x :: l, 0, _, _, hne => by
    simp at hne
    simp [cbI, hne]
  | x :: l, k + 1, hk, hz, hne => by
    have h0 := hz 0 (by omega)
    simp at h0
    subst h0
    have ih := cb_at l k (by simpa using hk) (fun i hi => by simpa using hz (i + 1) (by omega)) (by simpa using hne)
    simp only [cbI, if_true, ih, List.getElem?_cons_succ]
    push_cast
    omega
theorem cb_all : ∀ (l : List Int), (∀ i, i < l.length → l[i]?.getD 0 = 0) → cbI l = 8 * (l.length : Int)
  | [], _ => by simp [cbI]
  | x :: l, hz => by
    have h0 := hz 0 (by simp)
    simp at h0
    subst h0
    have ih := cb_all l (fun i hi => by simpa using hz (i + 1) (by simpa using hi))
    simp only [cbI, if_true, ih, List.length_cons]
    push_cast
    omega
def bitAt (x : Int) (r : Nat) : Bool := bits .and .u8 (x / 2 ^ (7 - r)) 1 == 1
theorem bitAt_nat (n r : Nat) (hn : n < 256) : bitAt n r = decide (n / 2 ^ (7 - r) % 2 = 1) := by
  unfold bitAt
  have e : ((n : Int) / 2 ^ (7 - r)) = ((n / 2 ^ (7 - r) : Nat) : Int) := by push_cast; rfl
  have hlt : n / 2 ^ (7 - r) < 256 := Nat.lt_of_le_of_lt (Nat.div_le_self _ _) hn
  have := u8_and_nat (n / 2 ^ (7 - r)) 1 hlt (by omega)
  rw [e, show (1 : Int) = ((1 : Nat) : Int) from rfl, this, Nat.and_one_is_mod]
  rw [Bool.eq_iff_iff]
  simp only [beq_iff_eq, decide_eq_true_eq]
  omega
theorem len_tab : ∀ n : Nat, n < 256 → ∀ r : Nat, r < 8 → (∀ j : Nat, j < r → n / 2 ^ (7 - j) % 2 ≠ 1) → n / 2 ^ (7 - r) % 2 = 1 → Lib.bitLen n + r = 8 := by decide +kernel
theorem zero_tab : ∀ n : Nat, n < 256 → (∀ j : Nat, j < 8 → n / 2 ^ (7 - j) % 2 ≠ 1) → n = 0 := by decide +kernel
theorem len_le : ∀ n : Nat, n < 256 → Lib.bitLen n ≤ 8 := by decide +kernel
theorem zero_of_bits {x : Int} (h0 : 0 ≤ x) (h1 : x ≤ 255) (h : ∀ j, j < 8 → bitAt x j = false) : x = 0 := by
  obtain ⟨n, rfl⟩ := Int.eq_ofNat_of_zero_le h0
  have := zero_tab n (by omega) (fun j hj => by simpa [bitAt_nat n j (by omega)] using h j hj)
  omega
theorem len_of_bits {x : Int} (h0 : 0 ≤ x) (h1 : x ≤ 255) (r : Nat) (hr : r < 8) (h : ∀ j, j < r → bitAt x j = false) (ht : bitAt x r = true) : x ≠ 0 ∧ 8 - (Lib.bitLen x.toNat : Int) = r := by
  obtain ⟨n, rfl⟩ := Int.eq_ofNat_of_zero_le h0
  have := len_tab n (by omega) r hr (fun j hj => by simpa [bitAt_nat n j (by omega)] using h j hj) (by simpa [bitAt_nat n r (by omega)] using ht)
  refine ⟨fun e => ?_, by simp; omega⟩
  have e0 : n = 0 := by omega
  subst e0
  rw [bitAt_nat 0 r (by omega)] at ht
  simp at ht
/-- The bytes in front of the first bit 1 are 0. -/
theorem cb_bits (l : List Int) (hr : ∀ x ∈ l, 0 ≤ x ∧ x ≤ 255) (k : Nat) (hk : k < 8 * l.length) (hz : ∀ j, j < k → bitAt (l[j / 8]?.getD 0) (j % 8) = false) (ht : bitAt (l[k / 8]?.getD 0) (k % 8) = true) : cbI l = k := by
  have rng : ∀ i, i < l.length → 0 ≤ l[i]?.getD 0 ∧ l[i]?.getD 0 ≤ 255 := fun i hi => by
    rw [List.getElem?_eq_getElem hi]; exact hr _ (List.getElem_mem hi)
  have h0 : ∀ i, i < k / 8 → l[i]?.getD 0 = 0 := fun i hi => by
    obtain ⟨a, b⟩ := rng i (by omega)
    refine zero_of_bits a b (fun j hj => ?_)
    have := hz (8 * i + j) (by omega)
    rwa [show (8 * i + j) / 8 = i by omega, show (8 * i + j) % 8 = j by omega] at this
  obtain ⟨a, b⟩ := rng (k / 8) (by omega)
  obtain ⟨c, d⟩ := len_of_bits a b (k % 8) (by omega) (fun j hj => by
    have := hz (8 * (k / 8) + j) (by omega)
    rwa [show (8 * (k / 8) + j) / 8 = k / 8 by omega, show (8 * (k / 8) + j) % 8 = j by omega] at this) ht
  rw [cb_at l (k / 8) (by omega) h0 c, d]
  omega
theorem cb_none (l : List Int) (hr : ∀ x ∈ l, 0 ≤ x ∧ x ≤ 255) (hz : ∀ j, j < 8 * l.length → bitAt (l[j / 8]?.getD 0) (j % 8) = false) : cbI l = 8 * (l.length : Int) := by
  refine cb_all l (fun i hi => ?_)
  have hx : 0 ≤ l[i]?.getD 0 ∧ l[i]?.getD 0 ≤ 255 := by rw [List.getElem?_eq_getElem hi]; exact hr _ (List.getElem_mem hi)
  refine zero_of_bits hx.1 hx.2 (fun j hj => ?_)
  have := hz (8 * i + j) (by omega)
  rwa [show (8 * i + j) / 8 = i by omega, show (8 * i + j) % 8 = j by omega] at this
theorem xorL_range (a b : List Int) : ∀ x ∈ xorL a b, 0 ≤ x ∧ x ≤ 255 := by
  intro x hx
  unfold xorL at hx
  rw [List.mem_iff_getElem] at hx
  obtain ⟨i, hi, rfl⟩ := hx
  rw [List.getElem_zipWith]
  exact bounds_u8 (wf_bits _ _ _ _)
set_option maxRecDepth 100000 in
set_option maxHeartbeats 2000000 in
theorem common_spec (a b : List Int) (ha : a.length = 32) (hb : b.length = 32) (w : World) :
    Calls Try.prog 81 #[.agg (ints .u8 a), .agg (ints .u8 b)] w fun e w' => e = .returned (.int .i64 (cbI (xorL a b))) ∧ Below w.heap.size w w' := by
  have Hz := Lib.hid z32_ints
  have Ha := Lib.hid ha
  have Hb := Lib.hid hb
  have Hx := Lib.hid (xorL_len ha hb)
  have Hr := Lib.hid (xorL_range a b)
  clear ha hb
  go_enter Try.func81, Try.ntmps81
  go_wp2_with (first | (refine wpList_load_row rfl 60 (.tmp 2) rfl w.heap.size rfl 60 (ints .u8 a) (0, 0) _ (heap_alloc2_old _ _ _) Try.underlying60 rfl (by rw [ints_size, Ha.out]; exact sizeKey) ?_) | (refine wpList_load_row rfl 60 (.tmp 3) rfl (w.heap.size + 1) rfl 60 (ints .u8 b) (0, 0) _ (heap_alloc2_new _ _ _) Try.underlying60 rfl (by rw [ints_size, Hb.out]; exact sizeKey) ?_))
  refine (xor_spec0 a b Ha.out Hb.out _).mono ?_
  rintro e w1 ⟨rfl, hb1⟩
  have Hb1 := Lib.hid hb1
  clear hb1
  go_wp2_with (refine wpList_store_row rfl 60 _ _ rfl w1.heap.size (ints .u8 (xorL a b)) rfl rfl 60 (ints .u8 z32) (by rw [Hz.out]; exact heap_alloc_last _ _) (by rw [ints_size, Hx.out]; exact sizeKey) (by rw [ints_size, ints_size, Hx.out]; rfl) (ints_one _ _) ?_; rw [World.setRow_alloc_new])
  have Hb2 := Lib.hid ((((Below.refl w.heap.size w).alloc (by simp) (.cells (ints .u8 a) 60)).alloc (by simp) (.cells (ints .u8 b) 60)).trans (Hb1.out.mono (by simp; omega)))
  go_loop [6] (fun i => ∃ k : Nat, k ≤ 256 ∧ i = .int .i64 k ∧ Hid (∀ j, j < k → bitAt ((xorL a b)[j / 8]?.getD 0) (j % 8) = false)) (fun i => 256 - (intOf i).toNat)
  case atStart => exact ⟨0, by omega, rfl, Lib.hid (fun j hj => by omega)⟩
  case round =>
    obtain ⟨k, hk, rfl, hp⟩ := hrel
    by_cases hlt : k < 256
    · have hg := ints_get .u8 (xorL a b) (k / 8) (by rw [Hx.out]; omega)
      cases hbit : bitAt ((xorL a b)[k / 8]?.getD 0) (k % 8)
      · have Hbit := Lib.hid hbit
        generalize hX : (xorL a b)[k / 8]?.getD 0 = x at hg
        have ht : (bits BinOp.and IntKind.u8 (x / 2 ^ (7 - k % 8)) 1 == 1) = false := by rw [← hX]; exact hbit
        clear hbit hX
        go_wp2
        go_round
        case rel => exact ⟨k + 1, by omega, by go_num, Lib.hid (fun j hj => by
          by_cases h : j = k
          · subst h; exact Hbit.out
          · exact hp.out j (by omega))⟩
        case measure => simp [intOf]; omega
      · have fin := Lib.hid (cb_bits (xorL a b) Hr.out k (by rw [Hx.out]; omega) hp.out hbit)
        generalize hX : (xorL a b)[k / 8]?.getD 0 = x at hg
        have ht : (bits BinOp.and IntKind.u8 (x / 2 ^ (7 - k % 8)) 1 == 1) = true := by rw [← hX]; exact hbit
        clear hbit hX
        go_wp2
        go_ret
        exact ⟨ret_i64 fin.out, Hb2.out.alloc Hb2.out.size _⟩
    · obtain rfl : k = 256 := by omega
      have fin := Lib.hid (cb_none (xorL a b) Hr.out (by rw [Hx.out]; exact hp.out))
      go_wp2
      go_ret
      exact ⟨ret_i64 (by rw [fin.out, Hx.out]; rfl), Hb2.out.alloc Hb2.out.size _⟩
set_option maxRecDepth 100000 in
set_option maxHeartbeats 2000000 in
theorem common_impl (a b : List Int) (ha : a.length = 32) (hb : b.length = 32) (w : World) :
    Calls Try.prog 83 #[.agg (ints .u8 a), .agg (ints .u8 b)] w fun e w' => e = .returned (.int .i64 (cbI (xorL a b))) ∧ Below w.heap.size w w' := by
  have Ha := Lib.hid ha
  have Hb := Lib.hid hb
  have Hx := Lib.hid (xorL_len ha hb)
  have Hr := Lib.hid (xorL_range a b)
  clear ha hb
  go_enter Try.func83, Try.ntmps83
  go_wp2_with (first | (refine wpList_load_row rfl 60 (.tmp 2) rfl w.heap.size rfl 60 (ints .u8 a) (0, 0) _ (heap_alloc2_old _ _ _) Try.underlying60 rfl (by rw [ints_size, Ha.out]; exact sizeKey) ?_) | (refine wpList_load_row rfl 60 (.tmp 3) rfl (w.heap.size + 1) rfl 60 (ints .u8 b) (0, 0) _ (heap_alloc2_new _ _ _) Try.underlying60 rfl (by rw [ints_size, Hb.out]; exact sizeKey) ?_))
  refine (xor_impl a b Ha.out Hb.out _).mono ?_
  rintro e w1 ⟨rfl, hb1⟩
  have Hb2 := Lib.hid ((((Below.refl w.heap.size w).alloc (by simp) (.cells (ints .u8 a) 60)).alloc (by simp) (.cells (ints .u8 b) 60)).trans (hb1.mono (by simp; omega)))
  clear hb1
  go_wp2_with fail
  go_loop [10] (fun i => ∃ k : Nat, k ≤ 32 ∧ i = .int .i64 k ∧ Hid (∀ j, j < k → (xorL a b)[j]?.getD 0 = 0)) (fun i => 32 - (intOf i).toNat)
  case atStart => exact ⟨0, by omega, rfl, Lib.hid (fun j hj => by omega)⟩
  case round =>
    obtain ⟨k, hk, rfl, hp⟩ := hrel
    by_cases hlt : k < 32
    · have hg := fun W => run_index_ints Try.underlying60 Try.underlying5 sizeU8 (xorL a b) Hx.out k hlt W
      have rng : 0 ≤ (xorL a b)[k]?.getD 0 ∧ (xorL a b)[k]?.getD 0 ≤ 255 := by
        rw [List.getElem?_eq_getElem (by rw [Hx.out]; exact hlt)]; exact Hr.out _ (List.getElem_mem _)
      obtain ⟨r0, r1⟩ := rng
      have R1 := Lib.hid r1
      clear r1
      by_cases h0 : (xorL a b)[k]?.getD 0 = 0
      · have Hbit := Lib.hid h0
        rw [h0] at hg
        clear h0 r0
        go_wp2
        go_round
        case rel => exact ⟨k + 1, by omega, by go_num, Lib.hid (fun j hj => by
          by_cases h : j = k
          · subst h; exact Hbit.out
          · exact hp.out j (by omega))⟩
        case measure => simp [intOf]; omega
      · have fin := Lib.hid (cb_at (xorL a b) k (by rw [Hx.out]; exact hlt) hp.out h0)
        have h1 := R1.out
        generalize hX : (xorL a b)[k]?.getD 0 = x at hg r0 h0 h1
        have HX := Lib.hid hX
        clear hX
        have hne : (x != 0) = true := by simpa using h0
        clear h0
        have hbl := len_le x.toNat (by omega)
        go_wp2_with (go_at_call 104; refine (Try.bits_LeadingZeros8 x _ (by omega) (by omega)).mono ?_; rintro e w' ⟨rfl, rfl⟩)
        go_ret
        exact ⟨ret_i64 (by rw [fin.out, HX.out]), Hb2.out⟩
    · obtain rfl : k = 32 := by omega
      have fin := Lib.hid (cb_all (xorL a b) (by rw [Hx.out]; exact hp.out))
      go_wp2
      go_ret
      exact ⟨ret_i64 (by rw [fin.out, Hx.out]; rfl), Hb2.out⟩
end Go.Proofs.Ytdhjnpafijockaa
