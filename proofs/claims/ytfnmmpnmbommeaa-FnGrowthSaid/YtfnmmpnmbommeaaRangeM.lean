/- The proof of a range of leaves: what it holds. -/
import Derived.Test.YtfnmmpnmbommeaaPopO
namespace Go.Proofs.Ytfnmmpnmbommeaa
open Go.ChangeShapes Go.WideShapes Go.ChangeAt Go.RowKit
set_option linter.unusedVariables false
set_option linter.unusedSimpArgs false
/-- The keys of the greatest parts of the n leaves from b on that have none of those from i to j, counted from b. -/
def rg (kf : Nat → List Int) (b n : Nat) (i j : Int) : List Int :=
  if j ≤ 0 ∨ (n : Int) ≤ i then tkey kf b n
  else if h : n ≤ 1 ∨ (i ≤ 0 ∧ (n : Int) ≤ j) then []
  else rg kf b (half n) i j ++ rg kf (b + half n) (n - half n) (i - (half n : Nat)) (j - (half n : Nat))
termination_by n
decreasing_by
  · exact half_lt (by omega)
  · have := half_pos n; have := half_lt (n := n) (by omega); omega
/-- How many there are. -/
def rgN (n : Nat) (i j : Int) : Nat :=
  if j ≤ 0 ∨ (n : Int) ≤ i then 1
  else if h : n ≤ 1 ∨ (i ≤ 0 ∧ (n : Int) ≤ j) then 0
  else rgN (half n) i j + rgN (n - half n) (i - (half n : Nat)) (j - (half n : Nat))
termination_by n
decreasing_by
  · exact half_lt (by omega)
  · have := half_pos n; have := half_lt (n := n) (by omega); omega
theorem rg_miss {kf : Nat → List Int} {b n : Nat} {i j : Int} (h : j ≤ 0 ∨ (n : Int) ≤ i) : rg kf b n i j = tkey kf b n := by rw [rg, if_pos h]
theorem rg_in {kf : Nat → List Int} {b n : Nat} {i j : Int} (h : ¬ (j ≤ 0 ∨ (n : Int) ≤ i)) (h2 : n ≤ 1 ∨ (i ≤ 0 ∧ (n : Int) ≤ j)) : rg kf b n i j = [] := by rw [rg, if_neg h, dif_pos h2]
theorem rg_two {kf : Nat → List Int} {b n : Nat} {i j : Int} (h : ¬ (j ≤ 0 ∨ (n : Int) ≤ i)) (h2 : ¬ (n ≤ 1 ∨ (i ≤ 0 ∧ (n : Int) ≤ j))) : rg kf b n i j = rg kf b (half n) i j ++ rg kf (b + half n) (n - half n) (i - (half n : Nat)) (j - (half n : Nat)) := by rw [rg, if_neg h, dif_neg h2]
theorem rgN_miss {n : Nat} {i j : Int} (h : j ≤ 0 ∨ (n : Int) ≤ i) : rgN n i j = 1 := by rw [rgN, if_pos h]
theorem rgN_in {n : Nat} {i j : Int} (h : ¬ (j ≤ 0 ∨ (n : Int) ≤ i)) (h2 : n ≤ 1 ∨ (i ≤ 0 ∧ (n : Int) ≤ j)) : rgN n i j = 0 := by rw [rgN, if_neg h, dif_pos h2]
theorem rgN_two {n : Nat} {i j : Int} (h : ¬ (j ≤ 0 ∨ (n : Int) ≤ i)) (h2 : ¬ (n ≤ 1 ∨ (i ≤ 0 ∧ (n : Int) ≤ j))) : rgN n i j = rgN (half n) i j + rgN (n - half n) (i - (half n : Nat)) (j - (half n : Nat)) := by rw [rgN, if_neg h, dif_neg h2]
theorem rgN_le : ∀ (n : Nat) (i j : Int), 1 ≤ n → rgN n i j ≤ n := by
  intro n
  induction n using Nat.strongRecOn with
  | _ n ih =>
    intro i j h1
    by_cases h : j ≤ 0 ∨ (n : Int) ≤ i
    · rw [rgN_miss h]; exact h1
    · by_cases h2 : n ≤ 1 ∨ (i ≤ 0 ∧ (n : Int) ≤ j)
      · rw [rgN_in h h2]; exact Nat.zero_le _
      · have a1 := half_pos n
        have a2 := half_lt (n := n) (by omega)
        have := ih (half n) a2 i j a1
        have := ih (n - half n) (by omega) (i - (half n : Nat)) (j - (half n : Nat)) (by omega)
        rw [rgN_two h h2]
        omega
theorem rg_congr {kf kg : Nat → List Int} : ∀ (n b c : Nat) (i j : Int), 1 ≤ n → (∀ k, k < n → kf (b + k) = kg (c + k)) → rg kf b n i j = rg kg c n i j := by
  intro n
  induction n using Nat.strongRecOn with
  | _ n ih =>
    intro b c i j h1 hk
    by_cases h : j ≤ 0 ∨ (n : Int) ≤ i
    · rw [rg_miss h, rg_miss h]; exact tkey_congr n b c h1 hk
    · by_cases h2 : n ≤ 1 ∨ (i ≤ 0 ∧ (n : Int) ≤ j)
      · rw [rg_in h h2, rg_in h h2]
      · have a1 := half_pos n
        have a2 := half_lt (n := n) (by omega)
        rw [rg_two h h2, rg_two h h2, ih _ a2 b c i j a1 (fun k hk2 => hk k (by omega)), ih _ (by omega) (b + half n) (c + half n) _ _ (by omega) (fun k hk2 => by rw [Nat.add_assoc, Nat.add_assoc]; exact hk _ (by omega))]
theorem rg_len {kf : Nat → List Int} : ∀ (n b : Nat) (i j : Int), 1 ≤ n → (∀ k, k < n → (kf (b + k)).length = 32) → (rg kf b n i j).length = 32 * rgN n i j := by
  intro n
  induction n using Nat.strongRecOn with
  | _ n ih =>
    intro b i j h1 hk
    by_cases h : j ≤ 0 ∨ (n : Int) ≤ i
    · rw [rg_miss h, rgN_miss h]; exact tkey_len h1 hk
    · by_cases h2 : n ≤ 1 ∨ (i ≤ 0 ∧ (n : Int) ≤ j)
      · rw [rg_in h h2, rgN_in h h2]; rfl
      · have a1 := half_pos n
        have a2 := half_lt (n := n) (by omega)
        rw [rg_two h h2, rgN_two h h2, List.length_append, ih _ a2 b i j a1 (fun k hk2 => hk k (by omega)), ih _ (by omega) (b + half n) _ _ (by omega) (fun k hk2 => by rw [Nat.add_assoc]; exact hk _ (by omega))]
        omega
/-- As the program goes: down to single leaves, and in places of the whole. -/
theorem rg_inner {kf : Nat → List Int} : ∀ (n b : Nat) (i j : Int), 1 ≤ n → i ≤ 0 → (n : Int) ≤ j → rg kf b n i j = [] := by
  intro n b i j h1 h2 h3
  exact rg_in (by omega) (Or.inr ⟨h2, h3⟩)
theorem rg_down {kf : Nat → List Int} {b n : Nat} {i j : Int} (h : ¬ (j ≤ 0 ∨ (n : Int) ≤ i)) (h2 : 1 < n) : rg kf b n i j = rg kf b (half n) i j ++ rg kf (b + half n) (n - half n) (i - (half n : Nat)) (j - (half n : Nat)) := by
  have a1 := half_pos n
  have a2 := half_lt (n := n) (by omega)
  by_cases h3 : i ≤ 0 ∧ (n : Int) ≤ j
  · rw [rg_in h (Or.inr h3), rg_inner (half n) b i j a1 h3.1 (by omega), rg_inner (n - half n) _ _ _ (by omega) (by omega) (by omega)]
    rfl
  · exact rg_two h (by omega)
theorem rgN_down {n : Nat} {i j : Int} (h : ¬ (j ≤ 0 ∨ (n : Int) ≤ i)) (h2 : 1 < n) : rgN n i j = rgN (half n) i j + rgN (n - half n) (i - (half n : Nat)) (j - (half n : Nat)) := by
  have a1 := half_pos n
  have a2 := half_lt (n := n) (by omega)
  by_cases h3 : i ≤ 0 ∧ (n : Int) ≤ j
  · rw [rgN_in h (Or.inr h3), rgN_in (n := half n) (i := i) (j := j) (by omega) (Or.inr (by omega)), rgN_in (n := n - half n) (by omega) (Or.inr (by omega))]
  · exact rgN_two h (by omega)
theorem owns_one {w : World} {t : TypeId} {size : Nat} (c : Array Value) (hc : c.size = size) : (w.alloc (.cells c t)).ownsRow w.heap.size t size (.slice (some ⟨w.heap.size, 0, none⟩) 1 1) 1 c.toList :=
  ⟨by simp [hc], Or.inr ⟨w.heap.size, 1, c, rfl, Nat.le_refl _, heap_alloc_last _ _, Nat.le_refl _, by unfold maxLen; omega, by omega, by rw [List.take_of_length_le (by simp [hc])]⟩⟩
/-- One row of one's own put behind another one. -/
theorem run_append_rows {P : Program} {w : World} {base base2 : Nat} (t ty e : TypeId) (i : TypeInfo) (z : Value) (size bytes : Nat) (ht : P.underlying t = some (.slice e)) (hi : P.info? e = some i) (hz : i.zero = some z)
    (hsize : i.size = size) (hby : i.bytes = bytes) (hzs : z.cells.size = size) (hsz : 0 < size) (v : Value) (n : Nat) (xs : List Value) (hown : w.ownsRow base e size v n xs)
    (u : Value) (m : Nat) (ys : List Value) (hown2 : w.ownsRow base2 e size u m ys) (h1 : ∀ y ∈ ys, y.oneCell' = true) (h63 : n + m ≤ maxLen) (hbytes : (n + m) * bytes ≤ 140737488355328) (hbase : base ≤ w.heap.size) :
    ∃ v' w', (Builtin.append_ #[t, t] ty #[v, u]).run P w = .ok v' w' ∧ w'.ownsRow base e size v' (n + m) (xs ++ ys) ∧ w.grownBy w' v.ownBlock := by
  rcases hown2.2 with ⟨rfl, hm⟩ | ⟨g, cap, cur, rfl, hb, hh, hnc, hcm, hcs, htake⟩
  · subst hm
    have hy : ys = [] := List.eq_nil_of_length_eq_zero (by simpa using hown2.1)
    subst hy
    exact ⟨v, w, run_append_zero t ty e i size ht hi v n xs hown none 0, by simpa using hown, ⟨rfl, rfl, rfl, Nat.le_refl _, fun _ _ _ => rfl⟩⟩
  · obtain ⟨v', w', hr, h2, h3, _⟩ := run_append_own (P := P) w base t ty e i z size bytes ht hi hz hsize hby hzs hsz v n xs hown ⟨g, 0, none⟩ m cap ys hown2.1 (hown2.cells (g := g) rfl) h1 h63 hbytes hbase
    exact ⟨v', w', hr, h2, h3⟩
theorem wp_append_rows {P : Program} {w : World} {o : Oper} {a : Act} {K : Act → World → Prop} {Q : Exit → Act → World → Prop} {base base2 : Nat} (s x : Operand) (t : TypeId)
    (ho : o.op = .call { callee := .builtin .append, args := #[s, x], argTypes := #[t, t] }) (e : TypeId) (i : TypeInfo) (z : Value) (size bytes : Nat) (ht : P.underlying t = some (.slice e)) (hi : P.info? e = some i) (hz : i.zero = some z)
    (hsize : i.size = size) (hby : i.bytes = bytes) (hzs : z.cells.size = size) (hsz : 0 < size) (v : Value) (n : Nat) (xs : List Value) (hs : a.eval s = v) (hown : w.ownsRow base e size v n xs)
    (u : Value) (m : Nat) (ys : List Value) (hx : a.eval x = u) (hown2 : w.ownsRow base2 e size u m ys) (h1 : ∀ y ∈ ys, y.oneCell' = true) (h63 : n + m ≤ maxLen) (hbytes : (n + m) * bytes ≤ 140737488355328) (hbase : base ≤ w.heap.size)
    (h : ∀ v' w', w'.ownsRow base e size v' (n + m) (xs ++ ys) → w.grownBy w' v.ownBlock → K (a.put o.dst v') w') : o.wp P a w K Q := by
  obtain ⟨v', w', hr, h2, h3⟩ := run_append_rows (P := P) t o.type e i z size bytes ht hi hz hsize hby hzs hsz v n xs hown u m ys hown2 h1 h63 hbytes hbase
  unfold Oper.wp execOp
  simp only [ho, resolve, invoke, builtin, Sem.run_bind, Sem.run_pure, Result.andThen_ok, List.map_toArray, List.map_cons, List.map_nil, hs, hx, hr]
  exact h v' w' h2 h3
end Go.Proofs.Ytfnmmpnmbommeaa
