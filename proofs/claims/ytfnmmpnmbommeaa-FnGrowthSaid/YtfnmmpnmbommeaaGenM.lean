/- What a walk through a tree finds that reads keys from the end: the key, and how many it has read. -/
import Derived.Test.YtfnmmpnmbommeaaReadr
namespace Go.Proofs.Ytfnmmpnmbommeaa
open Go.ChangeShapes Go.WideShapes Go.ChangeAt Go.RowKit
set_option linter.unusedVariables false
set_option linter.unusedSimpArgs false
/-- What a reader answers, and what is left then. -/
def nxK (fl : List Int) (s : Nat × Bool) : List Int := if s.1 = 0 then z32 else keyAt fl (s.1 - 1)
def nxS (s : Nat × Bool) : Nat × Bool := (s.1 - 1, s.2 || decide (s.1 = 0))
/-- A part of kind 0 has the next key, one of kind 1 is a leaf, others are gone down. -/
def tlG (kd : Nat → Nat → Nat) (lf : Nat → List Int) (fl : List Int) (b n : Nat) (s : Nat × Bool) : List Int × Bool × (Nat × Bool) :=
  if kd b n = 0 then (nxK fl s, true, nxS s) else if kd b n = 1 then (lf b, true, s) else (z32, false, s)
def need (kd : Nat → Nat → Nat) (n b : Nat) : Nat :=
  if kd b n = 0 then 1 else if h : kd b n = 1 ∨ n ≤ 1 then 0 else need kd (half n) b + need kd (n - half n) (b + half n)
termination_by n
decreasing_by
  · exact half_lt (by omega)
  · have := half_pos n; have := half_lt (n := n) (by omega); omega
def kgen (kd : Nat → Nat → Nat) (lf : Nat → List Int) (kf : Nat → List Int) (n b p : Nat) : List Int :=
  if kd b n = 0 then kf p else if h : kd b n = 1 ∨ n ≤ 1 then lf b else nodeK (kgen kd lf kf (half n) b p) (kgen kd lf kf (n - half n) (b + half n) (p + need kd (half n) b))
termination_by n
decreasing_by
  · exact half_lt (by omega)
  · have := half_pos n; have := half_lt (n := n) (by omega); omega
theorem need_read {kd : Nat → Nat → Nat} {n b : Nat} (h : kd b n = 0) : need kd n b = 1 := by rw [need, if_pos h]
theorem need_leaf {kd : Nat → Nat → Nat} {n b : Nat} (h : ¬ kd b n = 0) (h2 : kd b n = 1 ∨ n ≤ 1) : need kd n b = 0 := by rw [need, if_neg h, dif_pos h2]
theorem need_two {kd : Nat → Nat → Nat} {n b : Nat} (h : ¬ kd b n = 0) (h2 : ¬ (kd b n = 1 ∨ n ≤ 1)) : need kd n b = need kd (half n) b + need kd (n - half n) (b + half n) := by rw [need, if_neg h, dif_neg h2]
theorem kgen_read {kd : Nat → Nat → Nat} {lf kf : Nat → List Int} {n b p : Nat} (h : kd b n = 0) : kgen kd lf kf n b p = kf p := by rw [kgen, if_pos h]
theorem kgen_leaf {kd : Nat → Nat → Nat} {lf kf : Nat → List Int} {n b p : Nat} (h : ¬ kd b n = 0) (h2 : kd b n = 1 ∨ n ≤ 1) : kgen kd lf kf n b p = lf b := by rw [kgen, if_neg h, dif_pos h2]
theorem kgen_two {kd : Nat → Nat → Nat} {lf kf : Nat → List Int} {n b p : Nat} (h : ¬ kd b n = 0) (h2 : ¬ (kd b n = 1 ∨ n ≤ 1)) : kgen kd lf kf n b p = nodeK (kgen kd lf kf (half n) b p) (kgen kd lf kf (n - half n) (b + half n) (p + need kd (half n) b)) := by rw [kgen, if_neg h, dif_neg h2]
theorem need_le {kd : Nat → Nat → Nat} : ∀ n b, 1 ≤ n → need kd n b ≤ n := by
  intro n
  induction n using Nat.strongRecOn with
  | _ n ih =>
    intro b h1
    by_cases h : kd b n = 0
    · rw [need_read h]; exact h1
    · by_cases h2 : kd b n = 1 ∨ n ≤ 1
      · rw [need_leaf h h2]; exact Nat.zero_le _
      · have a1 := half_pos n
        have a2 := half_lt (n := n) (by omega)
        have := ih (half n) a2 b a1
        have := ih (n - half n) (by omega) (b + half n) (by omega)
        rw [need_two h h2]
        omega
theorem walkT_gen {kd : Nat → Nat → Nat} {lf : Nat → List Int} {fl : List Int} (hk : ∀ b, kd b 1 ≤ 1) : ∀ (n b r : Nat) (sh : Bool), 1 ≤ n →
    (need kd n b ≤ r → walkT (tlG kd lf fl) n b (r, sh) = (kgen kd lf (keyAt fl) n b (r - need kd n b), (r - need kd n b, sh))) ∧ (r < need kd n b → (walkT (tlG kd lf fl) n b (r, sh)).2 = (0, true)) := by
  intro n
  induction n using Nat.strongRecOn with
  | _ n ih =>
    intro b r sh h1
    by_cases h : kd b n = 0
    · have e : (tlG kd lf fl b n (r, sh)).2.1 = true := by simp [tlG, h]
      rw [walkT_yes e, need_read h, kgen_read h]
      refine ⟨fun hr => ?_, fun hr => ?_⟩
      · have h0 : ¬ r = 0 := by omega
        simp [tlG, h, nxK, nxS, h0]
      · have h0 : r = 0 := by omega
        simp [tlG, h, nxS, h0]
    · by_cases h2 : kd b n = 1
      · have e : (tlG kd lf fl b n (r, sh)).2.1 = true := by simp [tlG, h2]
        rw [walkT_yes e, need_leaf h (Or.inl h2), kgen_leaf h (Or.inl h2)]
        exact ⟨fun _ => by simp [tlG, h2], fun hr => absurd hr (by omega)⟩
      · have hn : 1 < n := by
          rcases Nat.lt_or_ge 1 n with h3 | h3
          · exact h3
          · obtain rfl : n = 1 := by omega
            have := hk b
            omega
        have a1 := half_pos n
        have a2 := half_lt (n := n) (by omega)
        have e : (tlG kd lf fl b n (r, sh)).2.1 = false := by simp [tlG, h, h2]
        have e2 : (tlG kd lf fl b n (r, sh)).2.2 = (r, sh) := by simp [tlG, h, h2]
        rw [walkT_no e hn, e2, need_two h (by omega), kgen_two h (by omega)]
        have R := ih (n - half n) (by omega) (b + half n) r sh (by omega)
        refine ⟨fun hr => ?_, fun hr => ?_⟩
        · have L := ih (half n) a2 b (r - need kd (n - half n) (b + half n)) sh a1
          rw [R.1 (by omega)]
          dsimp only
          rw [L.1 (by omega)]
          rw [show r - need kd (n - half n) (b + half n) - need kd (half n) b = r - (need kd (half n) b + need kd (n - half n) (b + half n)) by omega, show r - (need kd (half n) b + need kd (n - half n) (b + half n)) + need kd (half n) b = r - need kd (n - half n) (b + half n) by omega]
        · by_cases h3 : need kd (n - half n) (b + half n) ≤ r
          · have L := ih (half n) a2 b (r - need kd (n - half n) (b + half n)) sh a1
            rw [R.1 h3]
            exact L.2 (by omega)
          · have L := ih (half n) a2 b 0 true a1
            rw [R.2 (by omega)]
            by_cases h4 : need kd (half n) b = 0
            · rw [L.1 (by omega)]
              simp
            · exact L.2 (by omega)
set_option maxRecDepth 100000 in
theorem next_impl (g r : Nat) (s : Nat × Bool) (fl : List Int) (hn : s.1 ≤ 1048576) (w : World) (hr : Rdr g r s fl w) :
    Calls Try.prog 69 #[.pointer (some ⟨r, 0, none⟩)] w fun x w' => x = .returned (.agg (ints .u8 (nxK fl s))) ∧ Rdr g r (nxS s) fl w' ∧ Keep w.heap.size (fun k => k = g ∨ k = r) w w' := by
  obtain ⟨n, b⟩ := s
  by_cases h : n = 0
  · subst h
    have e : nxS (0, b) = (0, true) := by simp [nxS]
    rw [e]
    exact next_none g r b fl w hr
  · have e : nxS (n, b) = (n - 1, b) := by simp [nxS, h]
    have e2 : nxK fl (n, b) = keyAt fl (n - 1) := by simp [nxK, h]
    rw [e, e2]
    exact next_some g r n b fl (by omega) hn w hr
theorem Rdr.nx {g r : Nat} {s : Nat × Bool} {fl : List Int} {w : World} (h : Rdr g r s fl w) (fb : ∀ z ∈ fl, 0 ≤ z ∧ z ≤ 255) : L32 (nxK fl s) := by
  obtain ⟨_, ⟨a, cap, _, h2, _⟩, _⟩ := h
  unfold nxK
  split
  · exact ⟨rfl, by decide⟩
  · rename_i h0
    have := keyAt_len h2.1 (show s.1 - 1 < s.1 by omega)
    rw [keyAt_take (fl := fl) (show s.1 - 1 < s.1 by omega)] at this
    exact ⟨this, keyAt_range fb _⟩
end Go.Proofs.Ytfnmmpnmbommeaa
