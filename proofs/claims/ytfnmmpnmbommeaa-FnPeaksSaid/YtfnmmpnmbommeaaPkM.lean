/- Peaks of a list that grows leaf by leaf: what is reckoned, as lists of keys. -/
import Derived.Test.YtfnmmpnmbommeaaAddS
import Derived.Test.YtfnmmpnmbommeaaPeaksI
namespace Go.Proofs.Ytfnmmpnmbommeaa
open Go.ChangeShapes Go.WideShapes Go.ChangeAt Go.RowKit
set_option linter.unusedVariables false
set_option linter.unusedSimpArgs false
/-- The peaks, one by one. -/
def PK (kf : Nat → List Int) (q r : Nat) : List (List Int) :=
  if h : r = 0 then [] else tkey kf q (half (r + 1)) :: PK kf (q + half (r + 1)) (r - half (r + 1))
termination_by r
decreasing_by have := half_pos (r + 1); omega
theorem PK_zero (kf : Nat → List Int) (q : Nat) : PK kf q 0 = [] := by rw [PK, dif_pos rfl]
theorem PK_pos (kf : Nat → List Int) (q r : Nat) (h : 0 < r) : PK kf q r = tkey kf q (half (r + 1)) :: PK kf (q + half (r + 1)) (r - half (r + 1)) := by rw [PK, dif_neg (by omega)]
theorem pks_flat (kf : Nat → List Int) : ∀ r q, pks kf q r = (PK kf q r).flatten := by
  intro r
  induction r using Nat.strongRecOn with
  | _ r ih =>
    intro q
    by_cases h : r = 0
    · subst h; rw [pks_zero, PK_zero]; rfl
    · have h1 := half_pos (r + 1)
      rw [pks_pos kf q r (by omega), PK_pos kf q r (by omega), List.flatten_cons, ih _ (by omega)]
theorem PK_len (kf : Nat → List Int) : ∀ r q, (PK kf q r).length = pksN r := by
  intro r
  induction r using Nat.strongRecOn with
  | _ r ih =>
    intro q
    by_cases h : r = 0
    · subst h; rw [pksN_zero, PK_zero]; rfl
    · have h1 := half_pos (r + 1)
      rw [pksN_pos r (by omega), PK_pos kf q r (by omega), List.length_cons, ih _ (by omega)]
theorem PK_each {kf : Nat → List Int} : ∀ r q, (∀ i, i < r → (kf (q + i)).length = 32) → ∀ x ∈ PK kf q r, x.length = 32 := by
  intro r
  induction r using Nat.strongRecOn with
  | _ r ih =>
    intro q hk x hx
    by_cases h : r = 0
    · subst h; rw [PK_zero] at hx; exact absurd hx (by simp)
    · have h1 := half_pos (r + 1)
      have h2 := half_lt (n := r + 1) (by omega)
      rw [PK_pos kf q r (by omega)] at hx
      rcases List.mem_cons.1 hx with rfl | hx
      · exact tkey_len (by omega) (fun i hi => hk i (by omega))
      · exact ih _ (by omega) _ (fun i hi => by rw [Nat.add_assoc]; exact hk _ (by omega)) x hx
theorem top_pow {r : Nat} (h : 0 < r) : ∃ k, half (r + 1) = 2 ^ k ∧ 2 ^ k ≤ r ∧ r < 2 * 2 ^ k := by
  have h2 := half_lt (n := r + 1) (by omega)
  have h3 := half_ge (n := r + 1) (by omega)
  have e : half (r + 1) = 2 ^ Nat.log2 r := by unfold half; rw [Nat.add_sub_cancel]
  rw [e] at h2 h3
  exact ⟨Nat.log2 r, e, by omega, by omega⟩
theorem pow_small {k b : Nat} (h : 2 ^ k < 2 ^ b) : k < b := (Nat.pow_lt_pow_iff_right (by omega)).1 h
theorem tz_in : ∀ k, k < 8 → ∀ r, r < 256 → 2 ^ k ≤ r → r + 1 < 2 * 2 ^ k → tz 10 r = tz 10 (r - 2 ^ k) := by decide +kernel
theorem tz_all : ∀ k, k < 8 → tz 10 (2 * 2 ^ k - 1) = tz 10 (2 ^ k - 1) + 1 := by decide +kernel
theorem ones_in : ∀ k, k < 9 → ∀ r, r < 257 → 2 ^ k ≤ r → r < 2 * 2 ^ k → onesF 10 r = onesF 10 (r - 2 ^ k) + 1 := by decide +kernel
theorem pksN_ones : ∀ r, r ≤ 256 → pksN r = ones r := by
  intro r
  induction r using Nat.strongRecOn with
  | _ r ih =>
    intro hr
    by_cases h : r = 0
    · subst h; rw [pksN_zero]; rfl
    · obtain ⟨k, e, h1, h2⟩ := top_pow (r := r) (by omega)
      have hk : k < 9 := pow_small (b := 9) (by omega)
      have := Nat.two_pow_pos k
      rw [pksN_pos r (by omega), e, ih _ (by omega) (by omega)]
      exact (ones_in k hk r (by omega) h1 h2).symm
/-- What becomes of the last peaks and a leaf. -/
def cK (L : List (List Int)) (leaf : List Int) : Nat → List Int
  | 0 => leaf
  | d + 1 => nodeK (L[L.length - 1 - d]?.getD []) (cK L leaf d)
theorem cK_cons (x : List Int) (L : List (List Int)) (leaf : List Int) : ∀ d, d ≤ L.length → cK (x :: L) leaf d = cK L leaf d
  | 0, _ => rfl
  | d + 1, h => by
    rw [cK, cK, cK_cons x L leaf d (by omega), show (x :: L).length - 1 - d = (L.length - 1 - d) + 1 by simp; omega, List.getElem?_cons_succ]
theorem PK_grow (kf : Nat → List Int) : ∀ r, r < 256 → ∀ q, tz 10 r ≤ (PK kf q r).length ∧ PK kf q (r + 1) = (PK kf q r).take ((PK kf q r).length - tz 10 r) ++ [cK (PK kf q r) (kf (q + r)) (tz 10 r)] := by
  intro r
  induction r using Nat.strongRecOn with
  | _ r ih =>
    intro hr q
    by_cases h : r = 0
    · subst h
      have e : half 2 = 1 := by decide +kernel
      refine ⟨by rw [PK_zero]; decide, ?_⟩
      rw [PK_pos kf q 1 (by omega), e, PK_zero, PK_zero, tkey_one]
      rfl
    · obtain ⟨k, e, h1, h2⟩ := top_pow (r := r) (by omega)
      have hk : k < 8 := pow_small (b := 8) (by omega)
      have hp := Nat.two_pow_pos k
      have eR := PK_pos kf q r (by omega)
      rw [e] at eR
      by_cases h3 : r + 1 < 2 * 2 ^ k
      · have e2 : half (r + 1 + 1) = 2 ^ k := half_eq (by omega) (by omega)
        have eR1 := PK_pos kf q (r + 1) (by omega)
        rw [e2, show r + 1 - 2 ^ k = r - 2 ^ k + 1 by omega] at eR1
        obtain ⟨g1, g2⟩ := ih (r - 2 ^ k) (by omega) (by omega) (q + 2 ^ k)
        rw [show q + 2 ^ k + (r - 2 ^ k) = q + r by omega, ← tz_in k hk r hr h1 h3] at g2
        rw [← tz_in k hk r hr h1 h3] at g1
        rw [eR1, eR, g2, cK_cons _ _ _ _ g1]
        refine ⟨by rw [List.length_cons]; omega, ?_⟩
        rw [List.length_cons, show (PK kf (q + 2 ^ k) (r - 2 ^ k)).length + 1 - tz 10 r = ((PK kf (q + 2 ^ k) (r - 2 ^ k)).length - tz 10 r) + 1 by omega, List.take_succ_cons, List.cons_append]
      · have h4 : r = 2 * 2 ^ k - 1 := by omega
        have e3 : 2 ^ (k + 1) = 2 * 2 ^ k := by rw [Nat.pow_succ, Nat.mul_comm]
        have e2 : half (r + 1 + 1) = 2 ^ (k + 1) := half_eq (by omega) (by omega)
        have eh : half (2 * 2 ^ k) = 2 ^ k := half_eq (by omega) (by omega)
        have eR1 := PK_pos kf q (r + 1) (by omega)
        rw [e2, e3, show r + 1 - 2 * 2 ^ k = 0 by omega, PK_zero, tkey_two kf q (2 * 2 ^ k) (by omega), eh, show 2 * 2 ^ k - 2 ^ k = 2 ^ k by omega] at eR1
        obtain ⟨g1, g2⟩ := ih (2 ^ k - 1) (by omega) (by omega) (q + 2 ^ k)
        have ez : tz 10 r = tz 10 (2 ^ k - 1) + 1 := by rw [h4]; exact tz_all k hk
        have es : PK kf (q + 2 ^ k) (2 ^ k - 1 + 1) = [tkey kf (q + 2 ^ k) (2 ^ k)] := by
          rw [PK_pos kf _ _ (by omega), show half (2 ^ k - 1 + 1 + 1) = 2 ^ k from half_eq (by omega) (by omega), show 2 ^ k - 1 + 1 - 2 ^ k = 0 by omega, PK_zero]
        rw [es, show q + 2 ^ k + (2 ^ k - 1) = q + r by omega] at g2
        rw [show r - 2 ^ k = 2 ^ k - 1 by omega] at eR
        have gl := congrArg List.length g2
        rw [List.length_append, List.length_take, List.length_singleton, List.length_singleton] at gl
        have glen : (PK kf (q + 2 ^ k) (2 ^ k - 1)).length = tz 10 (2 ^ k - 1) := by omega
        rw [glen, Nat.sub_self, List.take_zero, List.nil_append] at g2
        have gc : tkey kf (q + 2 ^ k) (2 ^ k) = cK (PK kf (q + 2 ^ k) (2 ^ k - 1)) (kf (q + r)) (tz 10 (2 ^ k - 1)) := (List.cons.inj g2).1
        rw [eR1, eR, ez]
        refine ⟨by rw [List.length_cons, glen]; omega, ?_⟩
        rw [List.length_cons, glen, Nat.sub_self, List.take_zero, List.nil_append, cK, cK_cons _ _ _ _ (by omega), ← gc, List.length_cons, glen, show tz 10 (2 ^ k - 1) + 1 - 1 - tz 10 (2 ^ k - 1) = 0 by omega]
        rfl
/-- The key to which peaks lead. -/
def oR (L : List (List Int)) : Nat → List Int
  | 0 => L[L.length - 1]?.getD []
  | d + 1 => nodeK (L[L.length - 2 - d]?.getD []) (oR L d)
theorem oR_cons (x : List Int) (L : List (List Int)) : ∀ d, d + 1 ≤ L.length → oR (x :: L) d = oR L d
  | 0, h => by rw [oR, oR, show (x :: L).length - 1 = (L.length - 1) + 1 by simp; omega, List.getElem?_cons_succ]
  | d + 1, h => by rw [oR, oR, oR_cons x L d (by omega), show (x :: L).length - 2 - d = (L.length - 2 - d) + 1 by simp; omega, List.getElem?_cons_succ]
theorem PK_key (kf : Nat → List Int) : ∀ r, 0 < r → ∀ q, oR (PK kf q r) ((PK kf q r).length - 1) = tkey kf q r := by
  intro r
  induction r using Nat.strongRecOn with
  | _ r ih =>
    intro h q
    obtain ⟨k, e, h1, h2⟩ := top_pow h
    have hp := Nat.two_pow_pos k
    rw [PK_pos kf q r h, e]
    by_cases h3 : r = 2 ^ k
    · rw [h3, Nat.sub_self, PK_zero]
      rfl
    · have hi := ih (r - 2 ^ k) (by omega) (by omega) (q + 2 ^ k)
      have hl : 0 < (PK kf (q + 2 ^ k) (r - 2 ^ k)).length := by
        rw [PK_pos kf _ _ (by omega)]
        simp
      have eh : half r = 2 ^ k := half_eq (by omega) (by omega)
      rw [tkey_two kf q r (by omega), eh, ← hi]
      generalize PK kf (q + 2 ^ k) (r - 2 ^ k) = L at hl
      obtain ⟨m, hm⟩ : ∃ m, L.length = m + 1 := ⟨L.length - 1, by omega⟩
      rw [List.length_cons, Nat.add_sub_cancel, hm, oR, Nat.add_sub_cancel, oR_cons _ _ _ (by omega), List.length_cons, hm, show m + 1 + 1 - 2 - m = 0 by omega]
      rfl
theorem keyAt_flat : ∀ (L : List (List Int)), (∀ x ∈ L, x.length = 32) → ∀ i, i < L.length → keyAt L.flatten i = L[i]?.getD []
  | [], _, i, h => absurd h (by simp)
  | x :: L, hx, 0, _ => by
    have h1 := hx x (by simp)
    unfold keyAt
    rw [Nat.mul_zero, List.drop_zero, List.flatten_cons, List.take_append_of_le_length (by omega), List.take_of_length_le (by omega)]
    rfl
  | x :: L, hx, i + 1, h => by
    have h1 := hx x (by simp)
    have hi := keyAt_flat L (fun y hy => hx y (by simp [hy])) i (by simpa using h)
    unfold keyAt at hi ⊢
    rw [List.flatten_cons, List.drop_append, List.drop_eq_nil_of_le (by omega), List.nil_append, h1, show 32 * (i + 1) - 32 = 32 * i by omega, hi, List.getElem?_cons_succ]
theorem take_flat : ∀ (L : List (List Int)), (∀ x ∈ L, x.length = 32) → ∀ m, m ≤ L.length → L.flatten.take (32 * m) = (L.take m).flatten
  | [], _, m, _ => by simp
  | x :: L, _, 0, _ => by simp
  | x :: L, hx, m + 1, h => by
    have h1 := hx x (by simp)
    have hi := take_flat L (fun y hy => hx y (by simp [hy])) m (by simpa using h)
    rw [List.flatten_cons, List.take_append, List.take_of_length_le (by omega), h1, show 32 * (m + 1) - 32 = 32 * m by omega, hi, List.take_succ_cons, List.flatten_cons]
theorem addK_flat (L : List (List Int)) (hx : ∀ x ∈ L, x.length = 32) (leaf : List Int) : ∀ d, d ≤ L.length → addK L.flatten leaf L.length d = cK L leaf d
  | 0, _ => rfl
  | d + 1, h => by rw [addK, cK, addK_flat L hx leaf d (by omega), keyAt_flat L hx _ (by omega)]
theorem ofR_flat (L : List (List Int)) (hx : ∀ x ∈ L, x.length = 32) : ∀ d, d + 1 ≤ L.length → ofR L.flatten L.length d = oR L d
  | 0, h => by rw [ofR, oR, keyAt_flat L hx _ (by omega)]
  | d + 1, h => by rw [ofR, oR, ofR_flat L hx d (by omega), keyAt_flat L hx _ (by omega)]
/-- A leaf more. -/
theorem add_grow {kf : Nat → List Int} {r : Nat} (hr : r < 256) (hk : ∀ i, i < r → (kf i).length = 32) : gcode (pksN r) (r : Int) 255 = 0 ∧ adN (pksN r) (r : Int) = pksN (r + 1) ∧ adV (pks kf 0 r) (pksN r) (r : Int) (kf r) = pks kf 0 (r + 1) := by
  have hg : gcode (pksN r) (r : Int) 255 = 0 := by
    have e := pksN_ones r (by omega)
    have := pksN_le r
    unfold gcode
    rw [if_neg (by omega), if_neg (by omega), Int.toNat_natCast, if_neg (by rw [e]; simp)]
  have hx := PK_each (kf := kf) r 0 (fun i hi => by rw [Nat.zero_add]; exact hk i hi)
  obtain ⟨g1, g2⟩ := PK_grow kf r hr 0
  have hl := PK_len kf r 0
  rw [Nat.zero_add] at g2
  refine ⟨hg, ?_, ?_⟩
  · unfold adN
    rw [if_pos hg, Int.toNat_natCast, ← PK_len kf (r + 1) 0, g2, List.length_append, List.length_take, List.length_singleton, ← hl]
    omega
  · unfold adV
    rw [if_pos hg, Int.toNat_natCast, pks_flat kf (r + 1) 0, pks_flat kf r 0, g2, ← hl, take_flat _ hx _ (by omega), addK_flat _ hx _ _ g1, List.flatten_append]
    simp
/-- The key of the list. -/
theorem kop_grow {kf : Nat → List Int} {r : Nat} (hr : r ≤ 256) (hk : ∀ i, i < r → (kf i).length = 32) : gcode (pksN r) (r : Int) 256 = 0 ∧ kopV (pks kf 0 r) (pksN r) (r : Int) = (if r = 0 then hashK 3 [] else tkey kf 0 r) := by
  have hg : gcode (pksN r) (r : Int) 256 = 0 := by
    have e := pksN_ones r (by omega)
    have := pksN_le r
    unfold gcode
    rw [if_neg (by omega), if_neg (by omega), Int.toNat_natCast, if_neg (by rw [e]; simp)]
  refine ⟨hg, ?_⟩
  unfold kopV
  rw [if_neg (by rw [hg]; simp)]
  by_cases h : r = 0
  · rw [if_pos (by omega), if_pos h]
  · rw [if_neg (by omega), if_neg h]
    have hx := PK_each (kf := kf) r 0 (fun i hi => by rw [Nat.zero_add]; exact hk i hi)
    have hl := PK_len kf r 0
    have hl0 : 0 < pksN r := by rw [pksN_pos r (by omega)]; omega
    rw [pks_flat, ← hl, ofR_flat _ hx _ (by omega)]
    exact PK_key kf r (by omega) 0
end Go.Proofs.Ytfnmmpnmbommeaa
