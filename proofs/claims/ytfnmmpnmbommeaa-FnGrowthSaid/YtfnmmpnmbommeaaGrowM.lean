/- A growth proof: its peaks, and the keys behind them. -/
import Derived.Test.YtfnmmpnmbommeaaTellG
namespace Go.Proofs.Ytfnmmpnmbommeaa
open Go.ChangeShapes Go.WideShapes Go.ChangeAt Go.RowKit
set_option linter.unusedVariables false
set_option linter.unusedSimpArgs false
/-- How many parts of a kind, and of those only the ones for which f is 1. -/
def needW (kd f : Nat → Nat → Nat) (n b : Nat) : Nat :=
  if kd b n = 0 then f b n else if h : n ≤ 1 then 0 else needW kd f (half n) b + needW kd f (n - half n) (b + half n)
termination_by n
decreasing_by
  · exact half_lt (by omega)
  · have := half_pos n; have := half_lt (n := n) (by omega); omega
theorem needW_read {kd f : Nat → Nat → Nat} {n b : Nat} (h : kd b n = 0) : needW kd f n b = f b n := by rw [needW, if_pos h]
theorem needW_two {kd f : Nat → Nat → Nat} {n b : Nat} (h : ¬ kd b n = 0) (h2 : 1 < n) : needW kd f n b = needW kd f (half n) b + needW kd f (n - half n) (b + half n) := by rw [needW, if_neg h, dif_neg (by omega)]
/-- Peaks, and others. -/
def isP (m b n : Nat) : Nat := if m ≤ b then 0 else 1
def isO (m b n : Nat) : Nat := if m ≤ b then 1 else 0
def needP (m n b : Nat) : Nat := needW (kdG m) (isP m) n b
def needO (m n b : Nat) : Nat := needW (kdG m) (isO m) n b
theorem kdG_two {m b n : Nat} (h : ¬ kdG m b n = 0) : ¬ kdG m b n = 1 := by unfold kdG at h ⊢; split <;> simp_all
theorem kdG_more {m b n : Nat} (h : ¬ kdG m b n = 0) (h1 : 1 ≤ n) : 1 < n := by
  rcases Nat.lt_or_ge 1 n with h2 | h2
  · exact h2
  · obtain rfl : n = 1 := by omega
    have := kdG_one m b
    have := kdG_two h
    omega
theorem need_PO (m : Nat) : ∀ n b, 1 ≤ n → need (kdG m) n b = needP m n b + needO m n b := by
  intro n
  induction n using Nat.strongRecOn with
  | _ n ih =>
    intro b h1
    unfold needP needO at *
    by_cases h : kdG m b n = 0
    · rw [need_read h, needW_read h, needW_read h]
      unfold isP isO
      split <;> rfl
    · have h2 := kdG_more h h1
      have a1 := half_pos n
      have a2 := half_lt (n := n) (by omega)
      rw [need_two h (by have := kdG_two h; omega), needW_two h h2, needW_two h h2, ih _ a2 b a1, ih _ (by omega) (b + half n) (by omega)]
      omega
theorem needP_over {m n b : Nat} (h : m ≤ b) : needP m n b = 0 := by
  have e : kdG m b n = 0 := by unfold kdG; rw [if_pos (Or.inr h)]
  unfold needP
  rw [needW_read e]
  unfold isP
  rw [if_pos h]
theorem needO_over {m n b : Nat} (h : m ≤ b) : needO m n b = 1 := by
  have e : kdG m b n = 0 := by unfold kdG; rw [if_pos (Or.inr h)]
  unfold needO
  rw [needW_read e]
  unfold isO
  rw [if_pos h]
theorem needO_in {m : Nat} : ∀ n b, 1 ≤ n → b + n ≤ m → needO m n b = 0 := by
  intro n
  induction n using Nat.strongRecOn with
  | _ n ih =>
    intro b h1 h2
    unfold needO at *
    by_cases h : kdG m b n = 0
    · rw [needW_read h]
      unfold isO
      rw [if_neg (by omega)]
    · have h3 := kdG_more h h1
      have a1 := half_pos n
      have a2 := half_lt (n := n) (by omega)
      rw [needW_two h h3, ih _ a2 b a1 (by omega), ih _ (by omega) (b + half n) (by omega) (by omega)]
theorem ones_pow : ∀ k, k < 9 → ones (2 ^ k) = 1 := by decide +kernel
theorem ones_top : ∀ k, k < 9 → ∀ x, x < 257 → 2 ^ k < x → x < 2 * 2 ^ k → ones x = 1 + ones (x - 2 ^ k) := by decide +kernel
theorem half_pow {n : Nat} (h : 2 ≤ n) (hn : n ≤ 256) : ∃ k, k < 8 ∧ half n = 2 ^ k := by
  refine ⟨Nat.log2 (n - 1), ?_, rfl⟩
  exact (Nat.log2_lt (by omega)).2 (by omega)
/-- There are as many peaks as bits that are 1. -/
theorem needP_ones {m : Nat} : ∀ n b, 1 ≤ n → n ≤ 256 → needP m n b = ones (min (m - b) n) := by
  intro n
  induction n using Nat.strongRecOn with
  | _ n ih =>
    intro b h1 hn
    by_cases hb : m ≤ b
    · rw [needP_over hb, show min (m - b) n = 0 by omega]
      rfl
    · unfold needP at *
      by_cases h : kdG m b n = 0
      · rw [needW_read h]
        have h3 : b + n ≤ m ∧ ones n = 1 := by
          unfold kdG at h
          split at h
          · rename_i h4
            rcases h4 with h4 | h4
            · exact h4
            · omega
          · omega
        unfold isP
        rw [if_neg hb, show min (m - b) n = n by omega, h3.2]
      · have h3 := kdG_more h h1
        have a1 := half_pos n
        have a2 := half_lt (n := n) (by omega)
        have a3 := half_ge (n := n) (by omega)
        have hnot : ¬ (b + n ≤ m ∧ ones n = 1) := fun hh => h (by unfold kdG; rw [if_pos (Or.inl hh)])
        rw [needW_two h h3, ih _ a2 b a1 (by omega), ih _ (by omega) (b + half n) (by omega) (by omega)]
        obtain ⟨k, hk, hp⟩ := half_pow (n := n) (by omega) hn
        have o1 := ones_pow k (by omega)
        have o2 := ones_pow (k + 1) (by omega)
        have o3 := ones_top k (by omega)
        have e2 : 2 ^ (k + 1) = 2 * 2 ^ k := by rw [Nat.pow_succ, Nat.mul_comm]
        rw [hp] at a1 a2 a3 ⊢
        by_cases h4 : m - b ≤ 2 ^ k
        · rw [show min (m - b) (2 ^ k) = m - b by omega, show min (m - (b + 2 ^ k)) (n - 2 ^ k) = 0 by omega, show min (m - b) n = m - b by omega]
          rfl
        · rw [show min (m - b) (2 ^ k) = 2 ^ k by omega, o1]
          by_cases h5 : b + n ≤ m
          · have h6 : n ≠ 2 * 2 ^ k := fun e => hnot ⟨h5, by rw [e, ← e2]; exact o2⟩
            rw [show min (m - (b + 2 ^ k)) (n - 2 ^ k) = n - 2 ^ k by omega, show min (m - b) n = n by omega, o3 n (by omega) (by omega) (by omega)]
          · rw [show min (m - (b + 2 ^ k)) (n - 2 ^ k) = m - b - 2 ^ k by omega, show min (m - b) n = m - b by omega, o3 (m - b) (by omega) (by omega) (by omega)]
/-- The key, peaks being read from pp on, and others from po on behind the K peaks. -/
def kg2 (m K : Nat) (kf : Nat → List Int) (n b pp po : Nat) : List Int :=
  if kdG m b n = 0 then (if m ≤ b then kf (K + po) else kf pp) else if h : n ≤ 1 then z32 else nodeK (kg2 m K kf (half n) b pp po) (kg2 m K kf (n - half n) (b + half n) (pp + needP m (half n) b) (po + needO m (half n) b))
termination_by n
decreasing_by
  · exact half_lt (by omega)
  · have := half_pos n; have := half_lt (n := n) (by omega); omega
theorem kg2_over {m K : Nat} {kf : Nat → List Int} {n b pp po : Nat} (h : m ≤ b) : kg2 m K kf n b pp po = kf (K + po) := by
  have e : kdG m b n = 0 := by unfold kdG; rw [if_pos (Or.inr h)]
  rw [kg2, if_pos e, if_pos h]
theorem kg2_peak {m K : Nat} {kf : Nat → List Int} {n b pp po : Nat} (h : kdG m b n = 0) (h2 : ¬ m ≤ b) : kg2 m K kf n b pp po = kf pp := by rw [kg2, if_pos h, if_neg h2]
theorem kg2_two {m K : Nat} {kf : Nat → List Int} {n b pp po : Nat} (h : ¬ kdG m b n = 0) (h2 : 1 < n) : kg2 m K kf n b pp po = nodeK (kg2 m K kf (half n) b pp po) (kg2 m K kf (n - half n) (b + half n) (pp + needP m (half n) b) (po + needO m (half n) b)) := by rw [kg2, if_neg h, dif_neg (by omega)]
theorem kg2_kgen {m K : Nat} {kf : Nat → List Int} : ∀ n b pp po p, 1 ≤ n → (m ≤ b → p = K + po) → (¬ m ≤ b → p = pp ∧ po = 0) → (¬ m ≤ b → ¬ b + n ≤ m → pp + needP m n b = K) → kg2 m K kf n b pp po = kgen (kdG m) lfG kf n b p := by
  intro n
  induction n using Nat.strongRecOn with
  | _ n ih =>
    intro b pp po p h1 hO hP hS
    by_cases h : kdG m b n = 0
    · rw [kgen_read h]
      by_cases hb : m ≤ b
      · rw [kg2_over hb, hO hb]
      · rw [kg2_peak h hb, (hP hb).1]
    · have h3 := kdG_more h h1
      have a1 := half_pos n
      have a2 := half_lt (n := n) (by omega)
      have hb : ¬ m ≤ b := fun hh => h (by unfold kdG; rw [if_pos (Or.inr hh)])
      obtain ⟨rfl, rfl⟩ := hP hb
      have e := need_PO m (half n) b a1
      have en : needP m n b = needP m (half n) b + needP m (n - half n) (b + half n) := by unfold needP; exact needW_two h h3
      rw [kg2_two h h3, kgen_two h (by have := kdG_two h; omega), e]
      have hl := ih (half n) a2 b p 0 p a1 (fun hh => absurd hh hb) (fun _ => ⟨rfl, rfl⟩) (fun _ h5 => by
        have h6 := hS hb (by omega)
        rw [en, needP_over (show m ≤ b + half n by omega)] at h6
        exact h6)
      have hr := ih (n - half n) (by omega) (b + half n) (p + needP m (half n) b) (0 + needO m (half n) b) (p + (needP m (half n) b + needO m (half n) b)) (by omega) (fun h5 => by
          by_cases h7 : b + n ≤ m
          · omega
          · have h6 := hS hb h7
            rw [en, needP_over h5] at h6
            omega) (fun h5 => by
          have := needO_in (m := m) (half n) b a1 (by omega)
          omega) (fun h5 h6 => by
          have h7 := hS hb (by omega)
          rw [en] at h7
          omega)
      rw [hl, hr]
end Go.Proofs.Ytfnmmpnmbommeaa
