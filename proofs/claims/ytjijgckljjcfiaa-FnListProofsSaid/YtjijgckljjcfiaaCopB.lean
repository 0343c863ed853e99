/- Proofs of leaves that are honest, and what a wrong leaf shows: what is reckoned. -/
import Derived.Test.YtjijgckljjcfiaaShA
import Derived.Test.YtjijgckljjcfiaaProofJ
namespace Go.Proofs.Ytjijgckljjcfiaa
open Go.ChangeShapes Go.WideShapes Go.ChangeAt Go.RowKit
set_option linter.unusedVariables false
set_option linter.unusedSimpArgs false
theorem shw_up {po ps : Nat → List Int} {lo ls c : List Int} : ∀ (m : Nat) (L : List (Bool × Nat × Nat)), shw po ps lo ls (L.drop m) = some c → shw po ps lo ls L = some c
  | 0, L, h => by simpa using h
  | m + 1, [], h => by simpa using h
  | m + 1, t :: l, h => shw_found (shw_up m l (by simpa using h))
/-- Pair k of the pairs on the way. -/
theorem prs_at {pk : Nat → List Int} {leaf : List Int} (hl : Is32 leaf) : ∀ (L : List (Bool × Nat × Nat)) (k : Nat), (∀ j, j < L.length → (pk j).length = 32) → k < L.length → ∀ t S, L.drop (L.length - (k + 1)) = t :: S →
    S.length = k ∧ ((prs pk leaf L).drop (64 * k)).take 64 = prW t.1 (lds pk leaf S) (pk k)
  | [], k, _, hk => by simp at hk
  | u :: l, k, h, hk => by
    intro t S hd
    have hp := prs_len hl l (fun j hj => h j (by simp; omega))
    by_cases he : k = l.length
    · subst he
      rw [List.length_cons, Nat.sub_self, List.drop_zero] at hd
      obtain ⟨rfl, rfl⟩ := List.cons.inj hd
      refine ⟨rfl, ?_⟩
      show ((prs pk leaf l ++ prW u.1 (lds pk leaf l) (pk l.length)).drop (64 * l.length)).take 64 = _
      rw [List.drop_left' hp, List.take_of_length_le (by rw [prW_len (lds32 hl l).1 (h l.length (by simp))]; omega)]
    · have hk' : k < l.length := by rw [List.length_cons] at hk; omega
      have e : (u :: l).length - (k + 1) = (l.length - (k + 1)) + 1 := by rw [List.length_cons]; omega
      rw [e, List.drop_succ_cons] at hd
      obtain ⟨h1, h2⟩ := prs_at hl l k (fun j hj => h j (by simp; omega)) hk' t S hd
      refine ⟨h1, ?_⟩
      rw [← h2]
      show ((prs pk leaf l ++ prW u.1 (lds pk leaf l) (pk l.length)).drop (64 * k)).take 64 = _
      rw [List.drop_append_of_le_length (by omega), List.take_append_of_le_length (by rw [List.length_drop]; omega)]
/-- A slice of n pairs of keys that reads as the bytes l. -/
def RdP (w : World) (a : Option Addr) (n : Nat) (l : List Int) : Prop :=
  l.length = 64 * n ∧ (n = 0 ∨ ∃ b, a = some ⟨b, 0, none⟩ ∧ b < w.heap.size ∧ ∀ j, j < 64 * n → w.cell? ⟨b, j, none⟩ = some (.int .u8 (l[j]?.getD 0)))
theorem RdP.below {w w1 : World} {a : Option Addr} {n : Nat} {l : List Int} (h : RdP w a n l) (hb : Below w.heap.size w w1) : RdP w1 a n l := by
  obtain ⟨h1, h2⟩ := h
  refine ⟨h1, ?_⟩
  rcases h2 with h2 | ⟨b, e, hlt, hc⟩
  · exact Or.inl h2
  · exact Or.inr ⟨b, e, Nat.lt_of_lt_of_le hlt hb.size, fun j hj => by rw [hb.cell (p := ⟨b, j, none⟩) hlt]; exact hc j hj⟩
theorem RdP.owned {w : World} {base : Nat} {v : Value} {m : Nat} {L : List Int} {t : TypeId} (hl : L.length = 64 * m) (h : w.ownsRow base t 64 v m (L.map (Value.int .u8))) : ∃ a cap, v = .slice a m cap ∧ RdP w a m L := by
  obtain ⟨h1, h2⟩ := h
  rcases h2 with ⟨rfl, rfl⟩ | ⟨g, cap, cur, rfl, hb, hg, hc, hm, hs, ht⟩
  · exact ⟨none, 0, rfl, hl, Or.inl rfl⟩
  · refine ⟨_, cap, rfl, hl, Or.inr ⟨g, rfl, (Array.getElem?_eq_some_iff.1 hg).1, fun j hj => ?_⟩⟩
    rw [cell_of_row w g j _ _ _ hg]
    have : (cur.toList.take (m * 64))[j]? = (L.map (Value.int .u8))[j]? := by rw [ht]
    rw [List.getElem?_take_of_lt (by omega), List.getElem?_map, List.getElem?_eq_getElem (l := L) (by omega)] at this
    rw [List.getElem?_eq_getElem (l := L) (by omega)]
    simpa using this
/-- The halves and the whole of pair i of a row of pairs, as they lie. -/
theorem RdP.pair {w : World} {b n : Nat} {l : List Int} (h : RdP w (some ⟨b, 0, none⟩) n l) (i : Nat) (hi : i < n) :
    w.rangeAt b (0 + i * 64) ((((l.drop (64 * i)).take 64).take 32).map (Value.int .u8)) ∧ w.rangeAt b (0 + i * 64 + 32) ((((l.drop (64 * i)).take 64).drop 32).map (Value.int .u8)) ∧ w.rangeAt b (0 + i * 64) (((l.drop (64 * i)).take 64).map (Value.int .u8)) := by
  obtain ⟨hl, h2⟩ := h
  rcases h2 with h2 | ⟨b', e, _, hc⟩
  · omega
  · cases e
    have whole : ∀ j, j < 64 → ((l.drop (64 * i)).take 64)[j]? = some (l[64 * i + j]?.getD 0) := fun j hj => by
      rw [List.getElem?_take_of_lt hj, List.getElem?_drop, List.getElem?_eq_getElem (by omega)]; rfl
    have len : ((l.drop (64 * i)).take 64).length = 64 := by rw [List.length_take, List.length_drop]; omega
    refine ⟨fun j v hv => ?_, fun j v hv => ?_, fun j v hv => ?_⟩
    · have hj : j < 32 := by
        have := (List.getElem?_eq_some_iff.1 hv).1
        rw [List.length_map, List.length_take, len] at this; omega
      rw [List.getElem?_map, List.getElem?_take_of_lt hj, whole j (by omega)] at hv
      rw [show 0 + i * 64 + j = 64 * i + j by omega, hc _ (by omega)]
      exact hv
    · have hj : j < 32 := by
        have := (List.getElem?_eq_some_iff.1 hv).1
        rw [List.length_map, List.length_drop, len] at this; omega
      rw [List.getElem?_map, List.getElem?_drop, whole (32 + j) (by omega)] at hv
      rw [show 0 + i * 64 + 32 + j = 64 * i + (32 + j) by omega, hc _ (by omega)]
      exact hv
    · have hj : j < 64 := by
        have := (List.getElem?_eq_some_iff.1 hv).1
        rw [List.length_map, len] at this; omega
      rw [List.getElem?_map, whole j hj] at hv
      rw [show 0 + i * 64 + j = 64 * i + j by omega, hc _ (by omega)]
      exact hv
theorem RdP.form {w : World} {a : Option Addr} {n : Nat} {l : List Int} (h : RdP w a n l) (h0 : 0 < n) : ∃ b, a = some ⟨b, 0, none⟩ := by
  rcases h.2 with h2 | ⟨b, e, _⟩
  · omega
  · exact ⟨b, e⟩
theorem prW32 {r : Bool} {x y : List Int} (hx : Is32 x) (hy : Is32 y) : Is32 ((prW r x y).take 32) ∧ Is32 ((prW r x y).drop 32) := by
  unfold prW
  cases r with
  | true =>
    simp only [if_true]
    rw [List.take_left' hy.1, List.drop_left' hy.1]
    exact ⟨hy, hx⟩
  | false =>
    simp only [Bool.false_eq_true, if_false]
    rw [List.take_left' hx.1, List.drop_left' hx.1]
    exact ⟨hx, hy⟩
theorem shw_nil {po ps : Nat → List Int} {lo ls : List Int} {L : List (Bool × Nat × Nat)} : shw po ps lo ls (L.drop L.length) = none := by
  rw [List.drop_length]; rfl
/-- The way of the list's own leaf, told by its proof. -/
theorem own_way1 {fl gl leaf : List Int} {n j : Nat} (hfl : fl.length = 32 * n) (hj : j < n) :
    (tns 0 n j).length = dN n j ∧ (pky fl (tns 0 n j)).length = 32 * dN n j ∧ lds (keyAt (pky fl (tns 0 n j))) (keyAt fl j) (tns 0 n j) = tkey (keyAt fl) 0 n ∧ lds (keyAt gl) leaf (tns 0 n j) = ldN (keyAt gl) leaf n j := by
  have hk : ∀ i, i < n → (keyAt fl (0 + i)).length = 32 := fun i hi => by rw [Nat.zero_add]; exact keyAt_len hfl hi
  have e1 := tns_dN n 0 j (Nat.zero_le _)
  have e2 := prf_tns fl n 0 j (Nat.zero_le _)
  have e3 := prf_len (kf := keyAt fl) n 0 j hj hk
  have e4 := lds_tns (keyAt gl) leaf n 0 j (Nat.zero_le _)
  have e5 := lds_tns (keyAt (pky fl (tns 0 n j))) (keyAt fl j) n 0 j (Nat.zero_le _)
  rw [Nat.sub_zero] at e1 e2 e4 e5
  have e7 := own_lead (kf := keyAt fl) (pk := keyAt (pky fl (tns 0 n j))) n 0 j hj hk (fun i _ => by rw [e2])
  rw [Nat.zero_add] at e7
  exact ⟨e1, by rw [← e2]; exact e3, by rw [e5]; exact e7, e4⟩
theorem own_way2 {fl gl leaf : List Int} {n j : Nat} (hl : Is32 leaf) (hfl : fl.length = 32 * n) (hj : j < n) (hg : gl.length = 32 * dN n j) :
    shw (keyAt (pky fl (tns 0 n j))) (keyAt gl) (keyAt fl j) leaf (tns 0 n j) = if (shR (keyAt fl) (keyAt gl) leaf 0 n j).2 then some (shR (keyAt fl) (keyAt gl) leaf 0 n j).1 else none := by
  have hk : ∀ i, i < n → (keyAt fl (0 + i)).length = 32 := fun i hi => by rw [Nat.zero_add]; exact keyAt_len hfl hi
  have e2 := prf_tns fl n 0 j (Nat.zero_le _)
  have e6 := shw_shR (kf := keyAt fl) (po := keyAt (pky fl (tns 0 n j))) (pk := keyAt gl) hl n 0 j hj hk
  rw [Nat.sub_zero] at e2
  rw [Nat.zero_add] at e6
  exact e6 (fun i _ => by rw [e2]) (fun i hi => keyAt_len hg hi)
end Go.Proofs.Ytjijgckljjcfiaa
namespace Go.Proofs.Ytjijgckljjcfiaa
open Go.ChangeShapes Go.WideShapes Go.ChangeAt Go.RowKit
set_option linter.unusedVariables false
set_option linter.unusedSimpArgs false
theorem drop_next {α : Type} {L : List α} {k : Nat} (h : k < L.length) : ∃ t S, L.drop (L.length - (k + 1)) = t :: S ∧ S = L.drop (L.length - k) := by
  refine ⟨_, _, List.drop_eq_getElem_cons (by omega), ?_⟩
  rw [show L.length - (k + 1) + 1 = L.length - k by omega]
theorem first_clash {po ps : Nat → List Int} {lo ls : List Int} (L : List (Bool × Nat × Nat)) (sc : List Int) (sf : Bool) (ho : Is32 lo) (hs : Is32 ls) (hne : lo ≠ ls) (h1 : ∀ j, j < L.length → Is32 (po j)) (h2 : ∀ j, j < L.length → Is32 (ps j))
    (hl : lds po lo L = lds ps ls L) (hT : shw po ps lo ls L = if sf then some sc else none) :
    ∃ C, C < L.length ∧ ∀ k, k ≤ C → ∃ x y u v, Is32 x ∧ Is32 y ∧ Is32 u ∧ Is32 v ∧ ((prs po lo L).drop (64 * k)).take 64 = x ++ y ∧ ((prs ps ls L).drop (64 * k)).take 64 = u ++ v ∧ (clB x y u v = false → k < C) ∧ (clB x y u v = true → sc = x ++ (y ++ (u ++ v))) := by
  obtain ⟨c0, hc0⟩ := shw_some ho hs hne L (fun j hj => (h1 j hj).1) (fun j hj => (h2 j hj).1) hl
  have hS : shw po ps lo ls L = some sc := by
    cases sf with
    | true => simpa using hT
    | false => rw [hc0] at hT; simp at hT
  have pair : ∀ k, k < L.length → ∃ (t : Bool × Nat × Nat) (S : List (Bool × Nat × Nat)), L.drop (L.length - (k + 1)) = t :: S ∧ S = L.drop (L.length - k) ∧ S.length = k ∧
      ((prs po lo L).drop (64 * k)).take 64 = prW t.1 (lds po lo S) (po k) ∧ ((prs ps ls L).drop (64 * k)).take 64 = prW t.1 (lds ps ls S) (ps k) := by
    intro k hk
    obtain ⟨t, S, e, e2⟩ := drop_next hk
    have a := prs_at (pk := po) ho L k (fun j hj => (h1 j hj).1) hk t S e
    have b := prs_at (pk := ps) hs L k (fun j hj => (h2 j hj).1) hk t S e
    exact ⟨t, S, e, e2, a.1, a.2, b.2⟩
  have none_up : ∀ m, m ≤ L.length → (∀ k, k < m → clP (((prs po lo L).drop (64 * k)).take 64) (((prs ps ls L).drop (64 * k)).take 64) = false) → shw po ps lo ls (L.drop (L.length - m)) = none := by
    intro m
    induction m with
    | zero => intro _ _; rw [Nat.sub_zero]; exact shw_nil
    | succ m ih =>
      intro hm h
      obtain ⟨t, S, e, e2, e3, e4, e5⟩ := pair m (by omega)
      have hn := ih (by omega) (fun k hk => h k (by omega))
      have hc := h m (by omega)
      rw [← e2] at hn
      rw [e4, e5, ← e3] at hc
      rw [e]
      exact shw_not hn hc
  have search : ∀ m, m ≤ L.length → (∀ k, k < m → clP (((prs po lo L).drop (64 * k)).take 64) (((prs ps ls L).drop (64 * k)).take 64) = false) ∨
      ∃ C, C < m ∧ clP (((prs po lo L).drop (64 * C)).take 64) (((prs ps ls L).drop (64 * C)).take 64) = true ∧ ∀ k, k < C → clP (((prs po lo L).drop (64 * k)).take 64) (((prs ps ls L).drop (64 * k)).take 64) = false := by
    intro m
    induction m with
    | zero => intro _; exact Or.inl (fun k hk => by omega)
    | succ m ih =>
      intro hm
      rcases ih (by omega) with h | ⟨C, hC, h⟩
      · cases hc : clP (((prs po lo L).drop (64 * m)).take 64) (((prs ps ls L).drop (64 * m)).take 64) with
        | true => exact Or.inr ⟨m, by omega, hc, h⟩
        | false => exact Or.inl (fun k hk => by
            by_cases e : k = m
            · subst e; exact hc
            · exact h k (by omega))
      · exact Or.inr ⟨C, by omega, h⟩
  rcases search L.length (Nat.le_refl _) with h | ⟨C, hC, hc, hf⟩
  · have := none_up L.length (Nat.le_refl _) h
    rw [Nat.sub_self, List.drop_zero, hS] at this
    cases this
  · have hsc : sc = ((prs po lo L).drop (64 * C)).take 64 ++ ((prs ps ls L).drop (64 * C)).take 64 := by
      obtain ⟨t, S, e, e2, e3, e4, e5⟩ := pair C hC
      have hn := none_up C (by omega) hf
      rw [← e2] at hn
      have hc' := hc
      rw [e4, e5, ← e3] at hc'
      have := shw_up (L.length - (C + 1)) L (by rw [e]; exact shw_here hn hc')
      rw [hS] at this
      rw [e4, e5]
      rw [e3] at this
      exact Option.some.inj this
    refine ⟨C, hC, fun k hk => ?_⟩
    obtain ⟨t, S, e, e2, e3, e4, e5⟩ := pair k (by omega)
    have a := prW32 (r := t.1) (lds32 (pk := po) ho S) (h1 k (by omega))
    have b := prW32 (r := t.1) (lds32 (pk := ps) hs S) (h2 k (by omega))
    rw [← e4] at a
    rw [← e5] at b
    refine ⟨_, _, _, _, a.1, a.2, b.1, b.2, (List.take_append_drop _ _).symm, (List.take_append_drop _ _).symm, fun h => ?_, fun h => ?_⟩
    · by_cases e : k = C
      · subst e
        unfold clP at hc
        rw [h] at hc
        cases hc
      · omega
    · have e : k = C := by
        by_cases e : k = C
        · exact e
        · have := hf k (by omega)
          unfold clP at this
          rw [h] at this
          cases this
      subst e
      rw [hsc, ← List.append_assoc, List.take_append_drop, List.take_append_drop]
end Go.Proofs.Ytjijgckljjcfiaa
namespace Go.Proofs.Ytjijgckljjcfiaa
open Go.ChangeShapes Go.WideShapes Go.ChangeAt Go.RowKit
set_option linter.unusedVariables false
set_option linter.unusedSimpArgs false
set_option maxRecDepth 100000 in
set_option maxHeartbeats 16000000 in
theorem cof_lim (a b : Option Addr) (n P ca cb : Nat) (i : Int) (leaf : List Int) (hn : n ≤ 1048576) (hP : P ≤ 1048576) (h : 256 < n ∨ 256 < P) (w : World) :
    Calls Try.prog 67 #[.slice a n ca, .int .i64 i, .agg (ints .u8 leaf), .slice b P cb, .func (.func 46) #[] #[]] w fun e w' => e = .returned (.tuple #[.agg (ints .u8 z128), .int .i64 3]) ∧ Below w.heap.size w w' := by
  have Hz := Lib.hid z128_ints
  have Hy := Lib.hid z32_ints
  have Hw := Lib.hid z64_ints
  have A0 := Lib.hid (heap_alloc2_old w (.cells (ints .u8 leaf) 28) (.cells (ints .u8 z128) 38))
  have A1 := Lib.hid (heap_alloc2_new w (.cells (ints .u8 leaf) 28) (.cells (ints .u8 z128) 38))
  have B0 := Lib.hid (((Below.refl w.heap.size w).alloc (Nat.le_refl _) (.cells (ints .u8 leaf) 28)).alloc (by simp) (.cells (ints .u8 z128) 38))
  obtain ⟨W0, hW0⟩ : ∃ W0, (w.alloc (.cells (ints .u8 leaf) 28)).alloc (.cells (ints .u8 z128) 38) = W0 := ⟨_, rfl⟩
  rw [hW0] at A0 A1 B0
  rw [Hz.out] at hW0
  have n0 : (0 : Int) ≤ (n : Int) := by omega
  have n1 : (n : Int) ≤ 1048576 := by omega
  have m0 : (0 : Int) ≤ (P : Int) := by omega
  have m1 : (P : Int) ≤ 1048576 := by omega
  by_cases h1 : 256 < n
  · have k1 : (256 : Int) < (n : Int) := by omega
    go_enter Try.func67, Try.ntmps67
    go_wp2_with (refine wpList_store_row rfl 38 _ _ rfl (w.heap.size + 1) Try.zeroCells38 rfl rfl 38 (ints .u8 z128) A1.out (by rw [← Hz.out, ints_size]; exact sizeClash) (by rw [← Hz.out]) (by rw [← Hz.out]; exact ints_one _ _) ?_)
    refine bodyPost_ret (results_cell2_row rfl _ _ (w.heap.size + 1) 38 Try.zeroCells38 (0, 0) _ rfl (setRow_heap _ _ (ints .u8 z128) _ _ _ A1.out) Try.underlying38 rfl (by rw [← Hz.out, ints_size]; exact sizeClash)) rfl ⟨by rw [Hz.out]; rfl, ?_⟩
    exact Below.setRow B0.out (by omega) _
  · have k1 : ¬ (256 : Int) < (n : Int) := by omega
    have k2 : (256 : Int) < (P : Int) := by omega
    go_enter Try.func67, Try.ntmps67
    go_wp2_with (refine wpList_store_row rfl 38 _ _ rfl (w.heap.size + 1) Try.zeroCells38 rfl rfl 38 (ints .u8 z128) A1.out (by rw [← Hz.out, ints_size]; exact sizeClash) (by rw [← Hz.out]) (by rw [← Hz.out]; exact ints_one _ _) ?_)
    refine bodyPost_ret (results_cell2_row rfl _ _ (w.heap.size + 1) 38 Try.zeroCells38 (0, 0) _ rfl (setRow_heap _ _ (ints .u8 z128) _ _ _ A1.out) Try.underlying38 rfl (by rw [← Hz.out, ints_size]; exact sizeClash)) rfl ⟨by rw [Hz.out]; rfl, ?_⟩
    exact Below.setRow B0.out (by omega) _
set_option maxRecDepth 100000 in
set_option maxHeartbeats 16000000 in
theorem cof_rng (a b : Option Addr) (n P ca cb : Nat) (i : Int) (leaf : List Int) (hn : n ≤ 256) (hP : P ≤ 256) (h : ¬ (0 ≤ i ∧ i < (n : Int))) (w : World) :
    Calls Try.prog 67 #[.slice a n ca, .int .i64 i, .agg (ints .u8 leaf), .slice b P cb, .func (.func 46) #[] #[]] w fun e w' => e = .returned (.tuple #[.agg (ints .u8 z128), .int .i64 2]) ∧ Below w.heap.size w w' := by
  have Hz := Lib.hid z128_ints
  have Hy := Lib.hid z32_ints
  have Hw := Lib.hid z64_ints
  have A0 := Lib.hid (heap_alloc2_old w (.cells (ints .u8 leaf) 28) (.cells (ints .u8 z128) 38))
  have A1 := Lib.hid (heap_alloc2_new w (.cells (ints .u8 leaf) 28) (.cells (ints .u8 z128) 38))
  have B0 := Lib.hid (((Below.refl w.heap.size w).alloc (Nat.le_refl _) (.cells (ints .u8 leaf) 28)).alloc (by simp) (.cells (ints .u8 z128) 38))
  obtain ⟨W0, hW0⟩ : ∃ W0, (w.alloc (.cells (ints .u8 leaf) 28)).alloc (.cells (ints .u8 z128) 38) = W0 := ⟨_, rfl⟩
  rw [hW0] at A0 A1 B0
  rw [Hz.out] at hW0
  have n0 : (0 : Int) ≤ (n : Int) := by omega
  have n1 : (n : Int) ≤ 1048576 := by omega
  have m0 : (0 : Int) ≤ (P : Int) := by omega
  have m1 : (P : Int) ≤ 1048576 := by omega
  have k1 : ¬ (256 : Int) < (n : Int) := by omega
  have k2 : ¬ (256 : Int) < (P : Int) := by omega
  have Hpl := Lib.hid (fun U => place_no (n : Int) i h U)
  clear h
  go_enter Try.func67, Try.ntmps67
  go_wp2_with fail
  refine (Hpl.out _).mono ?_
  rintro x w5 ⟨rfl, rfl⟩
  go_wp2_with (refine wpList_store_row rfl 38 _ _ rfl (w.heap.size + 1) Try.zeroCells38 rfl rfl 38 (ints .u8 z128) A1.out (by rw [← Hz.out, ints_size]; exact sizeClash) (by rw [← Hz.out]) (by rw [← Hz.out]; exact ints_one _ _) ?_)
  refine bodyPost_ret (results_cell2_row rfl _ _ (w.heap.size + 1) 38 Try.zeroCells38 (0, 0) _ rfl (setRow_heap _ _ (ints .u8 z128) _ _ _ A1.out) Try.underlying38 rfl (by rw [← Hz.out, ints_size]; exact sizeClash)) rfl ⟨by rw [Hz.out]; rfl, ?_⟩
  exact Below.setRow B0.out (by omega) _
end Go.Proofs.Ytjijgckljjcfiaa
namespace Go.Proofs.Ytjijgckljjcfiaa
open Go.ChangeShapes Go.WideShapes Go.ChangeAt Go.RowKit
set_option linter.unusedVariables false
set_option linter.unusedSimpArgs false
set_option maxRecDepth 100000 in
set_option maxHeartbeats 16000000 in
theorem cof_no (aa ao n ca j P cb K : Nat) (b : Option Addr) (leaf kx rt yk po : List Int) (w : World) (hn : n ≤ 256) (hP : P ≤ 256) (hj : j < n) (hK : K ≤ 256) (hl : leaf.length = 32) (hkx : kx.length = 32) (hrt : rt.length = 32) (hyk : yk.length = 32 * K) (hpo : po.length = 64 * K)
    (HKEY : w.rangeAt aa (ao + j * 32) (kx.map (Value.int .u8)))
    (HPf : ∀ U, Below w.heap.size w U → Calls Try.prog 63 #[.slice (some ⟨aa, ao, none⟩) n ca, .int .i64 (j : Int), .func (.func 46) #[] #[]] U fun e w' => ∃ v, e = .returned v ∧ w'.ownsRow U.heap.size 28 32 v K (yk.map (Value.int .u8)) ∧ Below U.heap.size U w')
    (HOw : ∀ U a' cp, RdK U a' K yk → Calls Try.prog 66 #[.int .i64 (n : Int), .int .i64 (j : Int), .agg (ints .u8 kx), .slice a' K cp, .func (.func 46) #[] #[]] U fun e w' => ∃ v, e = .returned (.tuple #[v, .agg (ints .u8 rt), .bool true]) ∧ w'.ownsRow U.heap.size 147 64 v K (po.map (Value.int .u8)) ∧ Below U.heap.size U w')
    (HSh : ∀ U, Calls Try.prog 66 #[.int .i64 (n : Int), .int .i64 (j : Int), .agg (ints .u8 leaf), .slice b P cb, .func (.func 46) #[] #[]] U fun e w' => e = .returned (.tuple #[.slice none 0 0, .agg (ints .u8 z32), .bool false]) ∧ Below U.heap.size U w') :
    Calls Try.prog 67 #[.slice (some ⟨aa, ao, none⟩) n ca, .int .i64 (j : Int), .agg (ints .u8 leaf), .slice b P cb, .func (.func 46) #[] #[]] w fun e w' => e = .returned (.tuple #[.agg (ints .u8 z128), .int .i64 4]) ∧ Below w.heap.size w w' := by
  have Hz := Lib.hid z128_ints
  have Hy := Lib.hid z32_ints
  have Hw := Lib.hid z64_ints
  have A0 := Lib.hid (heap_alloc2_old w (.cells (ints .u8 leaf) 28) (.cells (ints .u8 z128) 38))
  have A1 := Lib.hid (heap_alloc2_new w (.cells (ints .u8 leaf) 28) (.cells (ints .u8 z128) 38))
  have B0 := Lib.hid (((Below.refl w.heap.size w).alloc (Nat.le_refl _) (.cells (ints .u8 leaf) 28)).alloc (by simp) (.cells (ints .u8 z128) 38))
  obtain ⟨W0, hW0⟩ : ∃ W0, (w.alloc (.cells (ints .u8 leaf) 28)).alloc (.cells (ints .u8 z128) 38) = W0 := ⟨_, rfl⟩
  rw [hW0] at A0 A1 B0
  rw [Hz.out] at hW0
  have n0 : (0 : Int) ≤ (n : Int) := by omega
  have n1 : (n : Int) ≤ 1048576 := by omega
  have m0 : (0 : Int) ≤ (P : Int) := by omega
  have m1 : (P : Int) ≤ 1048576 := by omega
  have k1 : ¬ (256 : Int) < (n : Int) := by omega
  have k2 : ¬ (256 : Int) < (P : Int) := by omega
  have j0 : (0 : Int) ≤ (j : Int) := by omega
  have j1 : (j : Int) < (n : Int) := by omega
  have Hpl := Lib.hid (fun U => place_yes (n : Int) (j : Int) j0 j1 U)
  have HLL := Lib.hid hl
  have Hkx := Lib.hid hkx
  have Hrt := Lib.hid hrt
  have Hyk := Lib.hid hyk
  have Hpo := Lib.hid hpo
  have HKEY := Lib.hid HKEY
  have HPf := Lib.hid HPf
  have HOW := Lib.hid HOw
  have HSH := Lib.hid HSh
  clear HOw HSh hl hkx hrt hyk hpo
  have HKY := Lib.hid z32_len
  go_enter Try.func67, Try.ntmps67
  go_wp2_with fail
  refine (Hpl.out _).mono ?_
  rintro x w3 ⟨rfl, rfl⟩
  go_upto_region 6 with fail
  clear hW0
  go_cut [13, 14] (fun s13 s14 wx => ∃ ap cp g, s13 = .slice ap K cp ∧ s14 = .pointer (some ⟨g, 0, none⟩) ∧ wx.heap[g]? = some (.cells (ints .u8 rt) 28) ∧ RdP wx ap K po ∧ Below W0.heap.size W0 wx)
  case first =>
    refine wp_region_held_drew (S := Below (W0).heap.size (W0)) (by kernel_rfl) ((Below.refl _ _).drew) (fun hS => ?_)
    refine take_at (i := 0) (v := .int .i64 (n : Int)) rfl rfl (by kernel_rfl) (by kernel_rfl) (by kernel_rfl) (fun _ _ _ h => h) (Or.inl ⟨by rfl, fun U hU => by go_simp⟩) hS ?_
    try simp only [List.setIfInBounds_toArray, List.set_cons_zero, List.set_cons_succ]
    refine take_at (i := 1) (v := .int .i64 (j : Int)) rfl rfl (by kernel_rfl) (by kernel_rfl) (by kernel_rfl) (fun _ _ _ h => h) (Or.inl ⟨by rfl, fun U hU => by go_simp⟩) hS ?_
    try simp only [List.setIfInBounds_toArray, List.set_cons_zero, List.set_cons_succ]
    refine take_at (i := 2) (v := .slice (some ⟨aa, ao, none⟩) n ca) rfl rfl (by kernel_rfl) (by kernel_rfl) (by kernel_rfl) (fun _ _ _ h => h) (Or.inl ⟨by rfl, fun U hU => by go_simp⟩) hS ?_
    try simp only [List.setIfInBounds_toArray, List.set_cons_zero, List.set_cons_succ]
    refine take_at (i := 3) (v := .int .i64 (j : Int)) rfl rfl (by kernel_rfl) (by kernel_rfl) (by kernel_rfl) (fun _ _ _ h => h) (Or.inl ⟨by rfl, fun U hU => by go_simp⟩) hS ?_
    try simp only [List.setIfInBounds_toArray, List.set_cons_zero, List.set_cons_succ]
    refine take_at (i := 4) (v := .pointer (some ⟨aa, ao + j * 32, none⟩)) rfl rfl (by kernel_rfl) (by kernel_rfl) (by kernel_rfl) (fun _ _ _ h => h) (Or.inl ⟨by rfl, fun U hU => by go_simp⟩) hS ?_
    try simp only [List.setIfInBounds_toArray, List.set_cons_zero, List.set_cons_succ]
    refine take_at (i := 5) (v := .agg (ints .u8 kx)) rfl rfl (by kernel_rfl) (by kernel_rfl) (by kernel_rfl) (fun _ _ _ h => h) (yieldsIf_load_mid (by rfl) 28 _ rfl aa (ao + j * 32) rfl (kx.map (Value.int .u8)) _ (fun U hU => rangeAt_below HKEY.out (B0.out.trans (hU.mono B0.out.size))) Try.underlying28 rfl (by rw [List.length_map, Hkx.out]; exact sizeKey)) hS ?_
    try simp only [List.setIfInBounds_toArray, List.set_cons_zero, List.set_cons_succ]
    refine take_at (i := 6) (v := .slice (some ⟨aa, ao, none⟩) n ca) rfl rfl (by kernel_rfl) (by kernel_rfl) (by kernel_rfl) (fun _ _ _ h => h) (Or.inl ⟨by rfl, fun U hU => by go_simp⟩) hS ?_
    try simp only [List.setIfInBounds_toArray, List.set_cons_zero, List.set_cons_succ]
    refine take_at (i := 7) (v := .int .i64 (j : Int)) rfl rfl (by kernel_rfl) (by kernel_rfl) (by kernel_rfl) (fun _ _ _ h => h) (Or.inl ⟨by rfl, fun U hU => by go_simp⟩) hS ?_
    try simp only [List.setIfInBounds_toArray, List.set_cons_zero, List.set_cons_succ]
    refine take_at (i := 8) (v := .func (.func 46) #[] #[]) rfl rfl (by kernel_rfl) (by kernel_rfl) (by kernel_rfl) (fun _ _ _ h => h) (Or.inl ⟨by rfl, fun U hU => by go_simp⟩) hS ?_
    try simp only [List.setIfInBounds_toArray, List.set_cons_zero, List.set_cons_succ]
    refine take_at (i := 10) (v := .func (.func 46) #[] #[]) rfl rfl (by kernel_rfl) (by kernel_rfl) (by kernel_rfl) (fun _ _ _ h => h) (Or.inl ⟨by rfl, fun U hU => by go_simp⟩) hS ?_
    try simp only [List.setIfInBounds_toArray, List.set_cons_zero, List.set_cons_succ]
    refine wpAnyH_ready (rs := [9, 16]) (by kernel_rfl) (by simp) ?_
    refine AllReadyH.cons rfl (fun KQ hK => ?_) (AllReadyH.cons rfl (fun KQ hK => ?_) AllReadyH.nil)
    · rw [if_pos (by rfl)]
      go_simp
      refine (HPf.out _ (B0.out.trans (hS.mono B0.out.size))).mono ?_
      rintro e u9 ⟨v1, rfl, ho1, hb⟩
      obtain ⟨a1, cp1, rfl, hy⟩ := RdK.owned Hyk.out ho1
      refine hK.out _ _ (below_call hS hS.size hb) (fun hS => ?_)
      clear hb hK ho1
      refine wpAnyH_ready (rs := [11, 16]) (by kernel_rfl) (by simp) ?_
      refine AllReadyH.cons rfl (fun KQ hK => ?_) (AllReadyH.cons rfl (fun KQ hK => ?_) AllReadyH.nil)
      · rw [if_pos (by rfl)]
        go_simp
        refine (HOW.out _ _ _ hy).mono ?_
        rintro e u11 ⟨vo, rfl, ho, hb⟩
        refine hK.out _ _ (below_call hS hS.size hb) (fun hS => ?_)
        clear hb hK hy
        refine take_at (i := 12) (v := .tuple #[vo, .agg (ints .u8 rt), .bool true]) rfl rfl (by kernel_rfl) (by kernel_rfl) (by kernel_rfl) (fun _ _ _ h => h) (Or.inl ⟨by rfl, fun U hU => by go_simp⟩) hS ?_
        try simp only [List.setIfInBounds_toArray, List.set_cons_zero, List.set_cons_succ]
        refine take_at (i := 13) (v := vo) rfl rfl (by kernel_rfl) (by kernel_rfl) (by kernel_rfl) (fun _ _ _ h => h) (Or.inl ⟨by rfl, fun U hU => by go_simp⟩) hS ?_
        try simp only [List.setIfInBounds_toArray, List.set_cons_zero, List.set_cons_succ]
        refine take_at (i := 14) (v := .agg (ints .u8 rt)) rfl rfl (by kernel_rfl) (by kernel_rfl) (by kernel_rfl) (fun _ _ _ h => h) (Or.inl ⟨by rfl, fun U hU => by go_simp⟩) hS ?_
        try simp only [List.setIfInBounds_toArray, List.set_cons_zero, List.set_cons_succ]
        refine take_at (i := 15) (v := .bool true) rfl rfl (by kernel_rfl) (by kernel_rfl) (by kernel_rfl) (fun _ _ _ h => h) (Or.inl ⟨by rfl, fun U hU => by go_simp⟩) hS ?_
        try simp only [List.setIfInBounds_toArray, List.set_cons_zero, List.set_cons_succ]
        refine wpAnyH_ready (rs := [16]) (by kernel_rfl) (by simp) ?_
        refine AllReadyH.cons rfl (fun KQ hK => ?_) AllReadyH.nil
        rw [if_pos (by rfl)]
        go_simp
        have hgg := hS.size
        have hg := new_block (t := 28) Hy.out hS
        have ho := owns_below ho ((Below.refl _ _).alloc (Nat.le_refl _) (.cells #[.int .u8 0, .int .u8 0, .int .u8 0, .int .u8 0, .int .u8 0, .int .u8 0, .int .u8 0, .int .u8 0, .int .u8 0, .int .u8 0, .int .u8 0, .int .u8 0, .int .u8 0, .int .u8 0, .int .u8 0, .int .u8 0, .int .u8 0, .int .u8 0, .int .u8 0, .int .u8 0, .int .u8 0, .int .u8 0, .int .u8 0, .int .u8 0, .int .u8 0, .int .u8 0, .int .u8 0, .int .u8 0, .int .u8 0, .int .u8 0, .int .u8 0, .int .u8 0] 28))
        refine hK.out _ _ (hS.alloc hS.size _) (fun hS => ?_)
        clear hK
        refine take_at (i := 17) (v := vo) rfl rfl (by kernel_rfl) (by kernel_rfl) (by kernel_rfl) (fun _ _ _ h => h) (Or.inl ⟨by rfl, fun U hU => by go_simp⟩) hS ?_
        try simp only [List.setIfInBounds_toArray, List.set_cons_zero, List.set_cons_succ]
        refine wpAnyH_ready (rs := [18]) (by kernel_rfl) (by simp) ?_
        refine AllReadyH.cons rfl (fun KQ hK => ?_) AllReadyH.nil
        rw [if_pos (by rfl)]
        refine wp_store_row (o := ⟨none, _, _, _, _, _⟩) 28 _ _ rfl _ (ints .u8 rt) rfl rfl 28 (ints .u8 z32) hg (by rw [ints_size, Hrt.out]; exact sizeKey) (by rw [ints_size, ints_size, Hrt.out]; rfl) (ints_one _ _) ?_
        simp only [Act.put]
        have ho2 := owns_setRow_ne (cs := ints .u8 rt) (owns_ne ho hg (by decide)) ho
        obtain ⟨ap, cp, rfl, hP2⟩ := RdP.owned Hpo.out ho2
        refine hK.out _ _ (Below.setRow hS hgg _) (fun hS => ?_)
        clear hK
        refine take_at (i := 19) (v := .bool true) rfl rfl (by kernel_rfl) (by kernel_rfl) (by kernel_rfl) (fun _ _ _ h => h) (Or.inl ⟨by rfl, fun U hU => by go_simp⟩) hS ?_
        try simp only [List.setIfInBounds_toArray, List.set_cons_zero, List.set_cons_succ]
        refine wpAnyH_done (by kernel_rfl) ?_ _
        go_wp2_with fail
        go_meet
        exact ⟨_, _, _, rfl, rfl, setRow_heap _ _ _ _ _ _ hg, hP2, hS⟩
      · rw [if_pos (by rfl)]
        go_simp
        have hgg := hS.size
        have hg := new_block (t := 28) Hy.out hS
        have hy := hy.below ((Below.refl _ _).alloc (Nat.le_refl _) (.cells #[.int .u8 0, .int .u8 0, .int .u8 0, .int .u8 0, .int .u8 0, .int .u8 0, .int .u8 0, .int .u8 0, .int .u8 0, .int .u8 0, .int .u8 0, .int .u8 0, .int .u8 0, .int .u8 0, .int .u8 0, .int .u8 0, .int .u8 0, .int .u8 0, .int .u8 0, .int .u8 0, .int .u8 0, .int .u8 0, .int .u8 0, .int .u8 0, .int .u8 0, .int .u8 0, .int .u8 0, .int .u8 0, .int .u8 0, .int .u8 0, .int .u8 0, .int .u8 0] 28))
        refine hK.out _ _ (hS.alloc hS.size _) (fun hS => ?_)
        clear hK
        refine wpAnyH_ready (rs := [11]) (by kernel_rfl) (by simp) ?_
        refine AllReadyH.cons rfl (fun KQ hK => ?_) AllReadyH.nil
        rw [if_pos (by rfl)]
        go_simp
        refine (HOW.out _ _ _ hy).mono ?_
        rintro e u11 ⟨vo, rfl, ho, hb⟩
        have hg := keep_block hg hb
        refine hK.out _ _ (below_call hS hS.size hb) (fun hS => ?_)
        clear hb hK hy
        refine take_at (i := 12) (v := .tuple #[vo, .agg (ints .u8 rt), .bool true]) rfl rfl (by kernel_rfl) (by kernel_rfl) (by kernel_rfl) (fun _ _ _ h => h) (Or.inl ⟨by rfl, fun U hU => by go_simp⟩) hS ?_
        try simp only [List.setIfInBounds_toArray, List.set_cons_zero, List.set_cons_succ]
        refine take_at (i := 13) (v := vo) rfl rfl (by kernel_rfl) (by kernel_rfl) (by kernel_rfl) (fun _ _ _ h => h) (Or.inl ⟨by rfl, fun U hU => by go_simp⟩) hS ?_
        try simp only [List.setIfInBounds_toArray, List.set_cons_zero, List.set_cons_succ]
        refine take_at (i := 14) (v := .agg (ints .u8 rt)) rfl rfl (by kernel_rfl) (by kernel_rfl) (by kernel_rfl) (fun _ _ _ h => h) (Or.inl ⟨by rfl, fun U hU => by go_simp⟩) hS ?_
        try simp only [List.setIfInBounds_toArray, List.set_cons_zero, List.set_cons_succ]
        refine take_at (i := 15) (v := .bool true) rfl rfl (by kernel_rfl) (by kernel_rfl) (by kernel_rfl) (fun _ _ _ h => h) (Or.inl ⟨by rfl, fun U hU => by go_simp⟩) hS ?_
        try simp only [List.setIfInBounds_toArray, List.set_cons_zero, List.set_cons_succ]
        refine take_at (i := 17) (v := vo) rfl rfl (by kernel_rfl) (by kernel_rfl) (by kernel_rfl) (fun _ _ _ h => h) (Or.inl ⟨by rfl, fun U hU => by go_simp⟩) hS ?_
        try simp only [List.setIfInBounds_toArray, List.set_cons_zero, List.set_cons_succ]
        refine wpAnyH_ready (rs := [18]) (by kernel_rfl) (by simp) ?_
        refine AllReadyH.cons rfl (fun KQ hK => ?_) AllReadyH.nil
        rw [if_pos (by rfl)]
        refine wp_store_row (o := ⟨none, _, _, _, _, _⟩) 28 _ _ rfl _ (ints .u8 rt) rfl rfl 28 (ints .u8 z32) hg (by rw [ints_size, Hrt.out]; exact sizeKey) (by rw [ints_size, ints_size, Hrt.out]; rfl) (ints_one _ _) ?_
        simp only [Act.put]
        have ho2 := owns_setRow_ne (cs := ints .u8 rt) (owns_ne ho hg (by decide)) ho
        obtain ⟨ap, cp, rfl, hP2⟩ := RdP.owned Hpo.out ho2
        refine hK.out _ _ (Below.setRow hS hgg _) (fun hS => ?_)
        clear hK
        refine take_at (i := 19) (v := .bool true) rfl rfl (by kernel_rfl) (by kernel_rfl) (by kernel_rfl) (fun _ _ _ h => h) (Or.inl ⟨by rfl, fun U hU => by go_simp⟩) hS ?_
        try simp only [List.setIfInBounds_toArray, List.set_cons_zero, List.set_cons_succ]
        refine wpAnyH_done (by kernel_rfl) ?_ _
        go_wp2_with fail
        go_meet
        exact ⟨_, _, _, rfl, rfl, setRow_heap _ _ _ _ _ _ hg, hP2, hS⟩
    · rw [if_pos (by rfl)]
      go_simp
      have hgg := hS.size
      have hg := new_block (t := 28) Hy.out hS
      refine hK.out _ _ (hS.alloc hS.size _) (fun hS => ?_)
      clear hK
      refine wpAnyH_ready (rs := [9]) (by kernel_rfl) (by simp) ?_
      refine AllReadyH.cons rfl (fun KQ hK => ?_) AllReadyH.nil
      rw [if_pos (by rfl)]
      go_simp
      refine (HPf.out _ (B0.out.trans (hS.mono B0.out.size))).mono ?_
      rintro e u9 ⟨v1, rfl, ho1, hb⟩
      have hg := keep_block hg hb
      obtain ⟨a1, cp1, rfl, hy⟩ := RdK.owned Hyk.out ho1
      refine hK.out _ _ (below_call hS hS.size hb) (fun hS => ?_)
      clear hb hK ho1
      refine wpAnyH_ready (rs := [11]) (by kernel_rfl) (by simp) ?_
      refine AllReadyH.cons rfl (fun KQ hK => ?_) AllReadyH.nil
      rw [if_pos (by rfl)]
      go_simp
      refine (HOW.out _ _ _ hy).mono ?_
      rintro e u11 ⟨vo, rfl, ho, hb⟩
      have hg := keep_block hg hb
      refine hK.out _ _ (below_call hS hS.size hb) (fun hS => ?_)
      clear hb hK hy
      refine take_at (i := 12) (v := .tuple #[vo, .agg (ints .u8 rt), .bool true]) rfl rfl (by kernel_rfl) (by kernel_rfl) (by kernel_rfl) (fun _ _ _ h => h) (Or.inl ⟨by rfl, fun U hU => by go_simp⟩) hS ?_
      try simp only [List.setIfInBounds_toArray, List.set_cons_zero, List.set_cons_succ]
      refine take_at (i := 13) (v := vo) rfl rfl (by kernel_rfl) (by kernel_rfl) (by kernel_rfl) (fun _ _ _ h => h) (Or.inl ⟨by rfl, fun U hU => by go_simp⟩) hS ?_
      try simp only [List.setIfInBounds_toArray, List.set_cons_zero, List.set_cons_succ]
      refine take_at (i := 14) (v := .agg (ints .u8 rt)) rfl rfl (by kernel_rfl) (by kernel_rfl) (by kernel_rfl) (fun _ _ _ h => h) (Or.inl ⟨by rfl, fun U hU => by go_simp⟩) hS ?_
      try simp only [List.setIfInBounds_toArray, List.set_cons_zero, List.set_cons_succ]
      refine take_at (i := 15) (v := .bool true) rfl rfl (by kernel_rfl) (by kernel_rfl) (by kernel_rfl) (fun _ _ _ h => h) (Or.inl ⟨by rfl, fun U hU => by go_simp⟩) hS ?_
      try simp only [List.setIfInBounds_toArray, List.set_cons_zero, List.set_cons_succ]
      refine take_at (i := 17) (v := vo) rfl rfl (by kernel_rfl) (by kernel_rfl) (by kernel_rfl) (fun _ _ _ h => h) (Or.inl ⟨by rfl, fun U hU => by go_simp⟩) hS ?_
      try simp only [List.setIfInBounds_toArray, List.set_cons_zero, List.set_cons_succ]
      refine wpAnyH_ready (rs := [18]) (by kernel_rfl) (by simp) ?_
      refine AllReadyH.cons rfl (fun KQ hK => ?_) AllReadyH.nil
      rw [if_pos (by rfl)]
      refine wp_store_row (o := ⟨none, _, _, _, _, _⟩) 28 _ _ rfl _ (ints .u8 rt) rfl rfl 28 (ints .u8 z32) hg (by rw [ints_size, Hrt.out]; exact sizeKey) (by rw [ints_size, ints_size, Hrt.out]; rfl) (ints_one _ _) ?_
      simp only [Act.put]
      have ho2 := owns_setRow_ne (cs := ints .u8 rt) (owns_ne ho hg (by decide)) ho
      obtain ⟨ap, cp, rfl, hP2⟩ := RdP.owned Hpo.out ho2
      refine hK.out _ _ (Below.setRow hS hgg _) (fun hS => ?_)
      clear hK
      refine take_at (i := 19) (v := .bool true) rfl rfl (by kernel_rfl) (by kernel_rfl) (by kernel_rfl) (fun _ _ _ h => h) (Or.inl ⟨by rfl, fun U hU => by go_simp⟩) hS ?_
      try simp only [List.setIfInBounds_toArray, List.set_cons_zero, List.set_cons_succ]
      refine wpAnyH_done (by kernel_rfl) ?_ _
      go_wp2_with fail
      go_meet
      exact ⟨_, _, _, rfl, rfl, setRow_heap _ _ _ _ _ _ hg, hP2, hS⟩
  obtain ⟨ap, cp, g, rfl, rfl, hG, hPo, hBX⟩ := hcut
  have B6 := Lib.hid (below_call B0.out B0.out.size hBX)
  have A06 := Lib.hid (keep_block A0.out hBX)
  have A16 := Lib.hid (keep_block A1.out hBX)
  have G6 := Lib.hid hG
  have P6 := Lib.hid hPo
  clear hG hPo hBX
  go_wp2_with (refine wpList_load_row rfl 28 (.tmp 7) rfl w.heap.size rfl 28 (ints .u8 leaf) (0, 0) _ A06.out Try.underlying28 rfl (by rw [ints_size, HLL.out]; exact sizeKey) ?_)
  refine (HSH.out _).mono ?_
  rintro e w7 ⟨rfl, hb⟩
  have B7 := Lib.hid (below_call B6.out B6.out.size hb)
  have A07 := Lib.hid (keep_block A06.out hb)
  have A17 := Lib.hid (keep_block A16.out hb)
  have G7 := Lib.hid (keep_block G6.out hb)
  have P7 := Lib.hid (P6.out.below hb)
  clear hb
  have LA := laid_below w7 (ints .u8 z32) (ints .u8 z32) 28
  have B8 := Lib.hid (below_call B7.out B7.out.size LA)
  have A08 := Lib.hid (keep_block A07.out LA)
  have A18 := Lib.hid (keep_block A17.out LA)
  have G8 := Lib.hid (keep_block G7.out LA)
  have P8 := Lib.hid (P7.out.below LA)
  have F8 := Lib.hid (laid_new w7 (ints .u8 z32) (ints .u8 z32) 28)
  clear LA
  rw [Hy.out] at B8 A08 A18 G8 P8 F8
  go_wp2_with (first | (refine wpList_store_row rfl 28 (.tmp 17) _ rfl w7.heap.size (ints .u8 z32) rfl rfl 28 (ints .u8 z32) (by rw [Hy.out]; exact heap_alloc_last _ _) (by kernel_rfl) rfl (ints_one _ _) ?_) | (refine wpList_store_row rfl 38 (.tmp 10) _ rfl (w.heap.size + 1) Try.zeroCells38 rfl rfl 38 (ints .u8 z128) A18.out (by rw [← Hz.out, ints_size]; exact sizeClash) (by rw [← Hz.out]) (by rw [← Hz.out]; exact ints_one _ _) ?_))
  refine bodyPost_ret (results_cell2_row rfl _ _ (w.heap.size + 1) 38 Try.zeroCells38 (0, 0) _ rfl (setRow_heap _ _ (ints .u8 z128) _ _ _ A18.out) Try.underlying38 rfl (by rw [← Hz.out, ints_size]; exact sizeClash)) rfl ⟨by rw [Hz.out]; rfl, ?_⟩
  exact Below.setRow B8.out (by omega) _
set_option maxRecDepth 100000 in
set_option maxHeartbeats 16000000 in
theorem cof_ne (aa ao n ca j P cb K : Nat) (b : Option Addr) (leaf kx rt yk po : List Int) (w : World) (hn : n ≤ 256) (hP : P ≤ 256) (hj : j < n) (hK : K ≤ 256) (hl : leaf.length = 32) (hkx : kx.length = 32) (hrt : rt.length = 32) (hyk : yk.length = 32 * K) (hpo : po.length = 64 * K)
    (HKEY : w.rangeAt aa (ao + j * 32) (kx.map (Value.int .u8)))
    (HPf : ∀ U, Below w.heap.size w U → Calls Try.prog 63 #[.slice (some ⟨aa, ao, none⟩) n ca, .int .i64 (j : Int), .func (.func 46) #[] #[]] U fun e w' => ∃ v, e = .returned v ∧ w'.ownsRow U.heap.size 28 32 v K (yk.map (Value.int .u8)) ∧ Below U.heap.size U w')
    (HOw : ∀ U a' cp, RdK U a' K yk → Calls Try.prog 66 #[.int .i64 (n : Int), .int .i64 (j : Int), .agg (ints .u8 kx), .slice a' K cp, .func (.func 46) #[] #[]] U fun e w' => ∃ v, e = .returned (.tuple #[v, .agg (ints .u8 rt), .bool true]) ∧ w'.ownsRow U.heap.size 147 64 v K (po.map (Value.int .u8)) ∧ Below U.heap.size U w')
    (KY ps : List Int) (hKY : KY.length = 32) (hps : ps.length = 64 * K) (HSh : ∀ U, Below w.heap.size w U → Calls Try.prog 66 #[.int .i64 (n : Int), .int .i64 (j : Int), .agg (ints .u8 leaf), .slice b P cb, .func (.func 46) #[] #[]] U fun e w' => ∃ v, e = .returned (.tuple #[v, .agg (ints .u8 KY), .bool true]) ∧ w'.ownsRow U.heap.size 147 64 v K (ps.map (Value.int .u8)) ∧ Below U.heap.size U w') (hne : KY ≠ rt) :
    Calls Try.prog 67 #[.slice (some ⟨aa, ao, none⟩) n ca, .int .i64 (j : Int), .agg (ints .u8 leaf), .slice b P cb, .func (.func 46) #[] #[]] w fun e w' => e = .returned (.tuple #[.agg (ints .u8 z128), .int .i64 4]) ∧ Below w.heap.size w w' := by
  have Hz := Lib.hid z128_ints
  have Hy := Lib.hid z32_ints
  have Hw := Lib.hid z64_ints
  have A0 := Lib.hid (heap_alloc2_old w (.cells (ints .u8 leaf) 28) (.cells (ints .u8 z128) 38))
  have A1 := Lib.hid (heap_alloc2_new w (.cells (ints .u8 leaf) 28) (.cells (ints .u8 z128) 38))
  have B0 := Lib.hid (((Below.refl w.heap.size w).alloc (Nat.le_refl _) (.cells (ints .u8 leaf) 28)).alloc (by simp) (.cells (ints .u8 z128) 38))
  obtain ⟨W0, hW0⟩ : ∃ W0, (w.alloc (.cells (ints .u8 leaf) 28)).alloc (.cells (ints .u8 z128) 38) = W0 := ⟨_, rfl⟩
  rw [hW0] at A0 A1 B0
  rw [Hz.out] at hW0
  have n0 : (0 : Int) ≤ (n : Int) := by omega
  have n1 : (n : Int) ≤ 1048576 := by omega
  have m0 : (0 : Int) ≤ (P : Int) := by omega
  have m1 : (P : Int) ≤ 1048576 := by omega
  have heq := fun U => eqlIn2 KY rt hKY hrt U
  rw [decide_eq_false hne] at heq
  clear hne
  have k1 : ¬ (256 : Int) < (n : Int) := by omega
  have k2 : ¬ (256 : Int) < (P : Int) := by omega
  have j0 : (0 : Int) ≤ (j : Int) := by omega
  have j1 : (j : Int) < (n : Int) := by omega
  have Hpl := Lib.hid (fun U => place_yes (n : Int) (j : Int) j0 j1 U)
  have HLL := Lib.hid hl
  have Hkx := Lib.hid hkx
  have Hrt := Lib.hid hrt
  have Hyk := Lib.hid hyk
  have Hpo := Lib.hid hpo
  have HKEY := Lib.hid HKEY
  have HPf := Lib.hid HPf
  have HOW := Lib.hid HOw
  have HSH := Lib.hid HSh
  clear HOw HSh hl hkx hrt hyk hpo
  have HKY := Lib.hid hKY
  have Hps := Lib.hid hps
  clear hKY hps
  go_enter Try.func67, Try.ntmps67
  go_wp2_with fail
  refine (Hpl.out _).mono ?_
  rintro x w3 ⟨rfl, rfl⟩
  go_upto_region 6 with fail
  clear hW0
  go_cut [13, 14] (fun s13 s14 wx => ∃ ap cp g, s13 = .slice ap K cp ∧ s14 = .pointer (some ⟨g, 0, none⟩) ∧ wx.heap[g]? = some (.cells (ints .u8 rt) 28) ∧ RdP wx ap K po ∧ Below W0.heap.size W0 wx)
  case first =>
    refine wp_region_held_drew (S := Below (W0).heap.size (W0)) (by kernel_rfl) ((Below.refl _ _).drew) (fun hS => ?_)
    refine take_at (i := 0) (v := .int .i64 (n : Int)) rfl rfl (by kernel_rfl) (by kernel_rfl) (by kernel_rfl) (fun _ _ _ h => h) (Or.inl ⟨by rfl, fun U hU => by go_simp⟩) hS ?_
    try simp only [List.setIfInBounds_toArray, List.set_cons_zero, List.set_cons_succ]
    refine take_at (i := 1) (v := .int .i64 (j : Int)) rfl rfl (by kernel_rfl) (by kernel_rfl) (by kernel_rfl) (fun _ _ _ h => h) (Or.inl ⟨by rfl, fun U hU => by go_simp⟩) hS ?_
    try simp only [List.setIfInBounds_toArray, List.set_cons_zero, List.set_cons_succ]
    refine take_at (i := 2) (v := .slice (some ⟨aa, ao, none⟩) n ca) rfl rfl (by kernel_rfl) (by kernel_rfl) (by kernel_rfl) (fun _ _ _ h => h) (Or.inl ⟨by rfl, fun U hU => by go_simp⟩) hS ?_
    try simp only [List.setIfInBounds_toArray, List.set_cons_zero, List.set_cons_succ]
    refine take_at (i := 3) (v := .int .i64 (j : Int)) rfl rfl (by kernel_rfl) (by kernel_rfl) (by kernel_rfl) (fun _ _ _ h => h) (Or.inl ⟨by rfl, fun U hU => by go_simp⟩) hS ?_
    try simp only [List.setIfInBounds_toArray, List.set_cons_zero, List.set_cons_succ]
    refine take_at (i := 4) (v := .pointer (some ⟨aa, ao + j * 32, none⟩)) rfl rfl (by kernel_rfl) (by kernel_rfl) (by kernel_rfl) (fun _ _ _ h => h) (Or.inl ⟨by rfl, fun U hU => by go_simp⟩) hS ?_
    try simp only [List.setIfInBounds_toArray, List.set_cons_zero, List.set_cons_succ]
    refine take_at (i := 5) (v := .agg (ints .u8 kx)) rfl rfl (by kernel_rfl) (by kernel_rfl) (by kernel_rfl) (fun _ _ _ h => h) (yieldsIf_load_mid (by rfl) 28 _ rfl aa (ao + j * 32) rfl (kx.map (Value.int .u8)) _ (fun U hU => rangeAt_below HKEY.out (B0.out.trans (hU.mono B0.out.size))) Try.underlying28 rfl (by rw [List.length_map, Hkx.out]; exact sizeKey)) hS ?_
    try simp only [List.setIfInBounds_toArray, List.set_cons_zero, List.set_cons_succ]
    refine take_at (i := 6) (v := .slice (some ⟨aa, ao, none⟩) n ca) rfl rfl (by kernel_rfl) (by kernel_rfl) (by kernel_rfl) (fun _ _ _ h => h) (Or.inl ⟨by rfl, fun U hU => by go_simp⟩) hS ?_
    try simp only [List.setIfInBounds_toArray, List.set_cons_zero, List.set_cons_succ]
    refine take_at (i := 7) (v := .int .i64 (j : Int)) rfl rfl (by kernel_rfl) (by kernel_rfl) (by kernel_rfl) (fun _ _ _ h => h) (Or.inl ⟨by rfl, fun U hU => by go_simp⟩) hS ?_
    try simp only [List.setIfInBounds_toArray, List.set_cons_zero, List.set_cons_succ]
    refine take_at (i := 8) (v := .func (.func 46) #[] #[]) rfl rfl (by kernel_rfl) (by kernel_rfl) (by kernel_rfl) (fun _ _ _ h => h) (Or.inl ⟨by rfl, fun U hU => by go_simp⟩) hS ?_
    try simp only [List.setIfInBounds_toArray, List.set_cons_zero, List.set_cons_succ]
    refine take_at (i := 10) (v := .func (.func 46) #[] #[]) rfl rfl (by kernel_rfl) (by kernel_rfl) (by kernel_rfl) (fun _ _ _ h => h) (Or.inl ⟨by rfl, fun U hU => by go_simp⟩) hS ?_
    try simp only [List.setIfInBounds_toArray, List.set_cons_zero, List.set_cons_succ]
    refine wpAnyH_ready (rs := [9, 16]) (by kernel_rfl) (by simp) ?_
    refine AllReadyH.cons rfl (fun KQ hK => ?_) (AllReadyH.cons rfl (fun KQ hK => ?_) AllReadyH.nil)
    · rw [if_pos (by rfl)]
      go_simp
      refine (HPf.out _ (B0.out.trans (hS.mono B0.out.size))).mono ?_
      rintro e u9 ⟨v1, rfl, ho1, hb⟩
      obtain ⟨a1, cp1, rfl, hy⟩ := RdK.owned Hyk.out ho1
      refine hK.out _ _ (below_call hS hS.size hb) (fun hS => ?_)
      clear hb hK ho1
      refine wpAnyH_ready (rs := [11, 16]) (by kernel_rfl) (by simp) ?_
      refine AllReadyH.cons rfl (fun KQ hK => ?_) (AllReadyH.cons rfl (fun KQ hK => ?_) AllReadyH.nil)
      · rw [if_pos (by rfl)]
        go_simp
        refine (HOW.out _ _ _ hy).mono ?_
        rintro e u11 ⟨vo, rfl, ho, hb⟩
        refine hK.out _ _ (below_call hS hS.size hb) (fun hS => ?_)
        clear hb hK hy
        refine take_at (i := 12) (v := .tuple #[vo, .agg (ints .u8 rt), .bool true]) rfl rfl (by kernel_rfl) (by kernel_rfl) (by kernel_rfl) (fun _ _ _ h => h) (Or.inl ⟨by rfl, fun U hU => by go_simp⟩) hS ?_
        try simp only [List.setIfInBounds_toArray, List.set_cons_zero, List.set_cons_succ]
        refine take_at (i := 13) (v := vo) rfl rfl (by kernel_rfl) (by kernel_rfl) (by kernel_rfl) (fun _ _ _ h => h) (Or.inl ⟨by rfl, fun U hU => by go_simp⟩) hS ?_
        try simp only [List.setIfInBounds_toArray, List.set_cons_zero, List.set_cons_succ]
        refine take_at (i := 14) (v := .agg (ints .u8 rt)) rfl rfl (by kernel_rfl) (by kernel_rfl) (by kernel_rfl) (fun _ _ _ h => h) (Or.inl ⟨by rfl, fun U hU => by go_simp⟩) hS ?_
        try simp only [List.setIfInBounds_toArray, List.set_cons_zero, List.set_cons_succ]
        refine take_at (i := 15) (v := .bool true) rfl rfl (by kernel_rfl) (by kernel_rfl) (by kernel_rfl) (fun _ _ _ h => h) (Or.inl ⟨by rfl, fun U hU => by go_simp⟩) hS ?_
        try simp only [List.setIfInBounds_toArray, List.set_cons_zero, List.set_cons_succ]
        refine wpAnyH_ready (rs := [16]) (by kernel_rfl) (by simp) ?_
        refine AllReadyH.cons rfl (fun KQ hK => ?_) AllReadyH.nil
        rw [if_pos (by rfl)]
        go_simp
        have hgg := hS.size
        have hg := new_block (t := 28) Hy.out hS
        have ho := owns_below ho ((Below.refl _ _).alloc (Nat.le_refl _) (.cells #[.int .u8 0, .int .u8 0, .int .u8 0, .int .u8 0, .int .u8 0, .int .u8 0, .int .u8 0, .int .u8 0, .int .u8 0, .int .u8 0, .int .u8 0, .int .u8 0, .int .u8 0, .int .u8 0, .int .u8 0, .int .u8 0, .int .u8 0, .int .u8 0, .int .u8 0, .int .u8 0, .int .u8 0, .int .u8 0, .int .u8 0, .int .u8 0, .int .u8 0, .int .u8 0, .int .u8 0, .int .u8 0, .int .u8 0, .int .u8 0, .int .u8 0, .int .u8 0] 28))
        refine hK.out _ _ (hS.alloc hS.size _) (fun hS => ?_)
        clear hK
        refine take_at (i := 17) (v := vo) rfl rfl (by kernel_rfl) (by kernel_rfl) (by kernel_rfl) (fun _ _ _ h => h) (Or.inl ⟨by rfl, fun U hU => by go_simp⟩) hS ?_
        try simp only [List.setIfInBounds_toArray, List.set_cons_zero, List.set_cons_succ]
        refine wpAnyH_ready (rs := [18]) (by kernel_rfl) (by simp) ?_
        refine AllReadyH.cons rfl (fun KQ hK => ?_) AllReadyH.nil
        rw [if_pos (by rfl)]
        refine wp_store_row (o := ⟨none, _, _, _, _, _⟩) 28 _ _ rfl _ (ints .u8 rt) rfl rfl 28 (ints .u8 z32) hg (by rw [ints_size, Hrt.out]; exact sizeKey) (by rw [ints_size, ints_size, Hrt.out]; rfl) (ints_one _ _) ?_
        simp only [Act.put]
        have ho2 := owns_setRow_ne (cs := ints .u8 rt) (owns_ne ho hg (by decide)) ho
        obtain ⟨ap, cp, rfl, hP2⟩ := RdP.owned Hpo.out ho2
        refine hK.out _ _ (Below.setRow hS hgg _) (fun hS => ?_)
        clear hK
        refine take_at (i := 19) (v := .bool true) rfl rfl (by kernel_rfl) (by kernel_rfl) (by kernel_rfl) (fun _ _ _ h => h) (Or.inl ⟨by rfl, fun U hU => by go_simp⟩) hS ?_
        try simp only [List.setIfInBounds_toArray, List.set_cons_zero, List.set_cons_succ]
        refine wpAnyH_done (by kernel_rfl) ?_ _
        go_wp2_with fail
        go_meet
        exact ⟨_, _, _, rfl, rfl, setRow_heap _ _ _ _ _ _ hg, hP2, hS⟩
      · rw [if_pos (by rfl)]
        go_simp
        have hgg := hS.size
        have hg := new_block (t := 28) Hy.out hS
        have hy := hy.below ((Below.refl _ _).alloc (Nat.le_refl _) (.cells #[.int .u8 0, .int .u8 0, .int .u8 0, .int .u8 0, .int .u8 0, .int .u8 0, .int .u8 0, .int .u8 0, .int .u8 0, .int .u8 0, .int .u8 0, .int .u8 0, .int .u8 0, .int .u8 0, .int .u8 0, .int .u8 0, .int .u8 0, .int .u8 0, .int .u8 0, .int .u8 0, .int .u8 0, .int .u8 0, .int .u8 0, .int .u8 0, .int .u8 0, .int .u8 0, .int .u8 0, .int .u8 0, .int .u8 0, .int .u8 0, .int .u8 0, .int .u8 0] 28))
        refine hK.out _ _ (hS.alloc hS.size _) (fun hS => ?_)
        clear hK
        refine wpAnyH_ready (rs := [11]) (by kernel_rfl) (by simp) ?_
        refine AllReadyH.cons rfl (fun KQ hK => ?_) AllReadyH.nil
        rw [if_pos (by rfl)]
        go_simp
        refine (HOW.out _ _ _ hy).mono ?_
        rintro e u11 ⟨vo, rfl, ho, hb⟩
        have hg := keep_block hg hb
        refine hK.out _ _ (below_call hS hS.size hb) (fun hS => ?_)
        clear hb hK hy
        refine take_at (i := 12) (v := .tuple #[vo, .agg (ints .u8 rt), .bool true]) rfl rfl (by kernel_rfl) (by kernel_rfl) (by kernel_rfl) (fun _ _ _ h => h) (Or.inl ⟨by rfl, fun U hU => by go_simp⟩) hS ?_
        try simp only [List.setIfInBounds_toArray, List.set_cons_zero, List.set_cons_succ]
        refine take_at (i := 13) (v := vo) rfl rfl (by kernel_rfl) (by kernel_rfl) (by kernel_rfl) (fun _ _ _ h => h) (Or.inl ⟨by rfl, fun U hU => by go_simp⟩) hS ?_
        try simp only [List.setIfInBounds_toArray, List.set_cons_zero, List.set_cons_succ]
        refine take_at (i := 14) (v := .agg (ints .u8 rt)) rfl rfl (by kernel_rfl) (by kernel_rfl) (by kernel_rfl) (fun _ _ _ h => h) (Or.inl ⟨by rfl, fun U hU => by go_simp⟩) hS ?_
        try simp only [List.setIfInBounds_toArray, List.set_cons_zero, List.set_cons_succ]
        refine take_at (i := 15) (v := .bool true) rfl rfl (by kernel_rfl) (by kernel_rfl) (by kernel_rfl) (fun _ _ _ h => h) (Or.inl ⟨by rfl, fun U hU => by go_simp⟩) hS ?_
        try simp only [List.setIfInBounds_toArray, List.set_cons_zero, List.set_cons_succ]
        refine take_at (i := 17) (v := vo) rfl rfl (by kernel_rfl) (by kernel_rfl) (by kernel_rfl) (fun _ _ _ h => h) (Or.inl ⟨by rfl, fun U hU => by go_simp⟩) hS ?_
        try simp only [List.setIfInBounds_toArray, List.set_cons_zero, List.set_cons_succ]
        refine wpAnyH_ready (rs := [18]) (by kernel_rfl) (by simp) ?_
        refine AllReadyH.cons rfl (fun KQ hK => ?_) AllReadyH.nil
        rw [if_pos (by rfl)]
        refine wp_store_row (o := ⟨none, _, _, _, _, _⟩) 28 _ _ rfl _ (ints .u8 rt) rfl rfl 28 (ints .u8 z32) hg (by rw [ints_size, Hrt.out]; exact sizeKey) (by rw [ints_size, ints_size, Hrt.out]; rfl) (ints_one _ _) ?_
        simp only [Act.put]
        have ho2 := owns_setRow_ne (cs := ints .u8 rt) (owns_ne ho hg (by decide)) ho
        obtain ⟨ap, cp, rfl, hP2⟩ := RdP.owned Hpo.out ho2
        refine hK.out _ _ (Below.setRow hS hgg _) (fun hS => ?_)
        clear hK
        refine take_at (i := 19) (v := .bool true) rfl rfl (by kernel_rfl) (by kernel_rfl) (by kernel_rfl) (fun _ _ _ h => h) (Or.inl ⟨by rfl, fun U hU => by go_simp⟩) hS ?_
        try simp only [List.setIfInBounds_toArray, List.set_cons_zero, List.set_cons_succ]
        refine wpAnyH_done (by kernel_rfl) ?_ _
        go_wp2_with fail
        go_meet
        exact ⟨_, _, _, rfl, rfl, setRow_heap _ _ _ _ _ _ hg, hP2, hS⟩
    · rw [if_pos (by rfl)]
      go_simp
      have hgg := hS.size
      have hg := new_block (t := 28) Hy.out hS
      refine hK.out _ _ (hS.alloc hS.size _) (fun hS => ?_)
      clear hK
      refine wpAnyH_ready (rs := [9]) (by kernel_rfl) (by simp) ?_
      refine AllReadyH.cons rfl (fun KQ hK => ?_) AllReadyH.nil
      rw [if_pos (by rfl)]
      go_simp
      refine (HPf.out _ (B0.out.trans (hS.mono B0.out.size))).mono ?_
      rintro e u9 ⟨v1, rfl, ho1, hb⟩
      have hg := keep_block hg hb
      obtain ⟨a1, cp1, rfl, hy⟩ := RdK.owned Hyk.out ho1
      refine hK.out _ _ (below_call hS hS.size hb) (fun hS => ?_)
      clear hb hK ho1
      refine wpAnyH_ready (rs := [11]) (by kernel_rfl) (by simp) ?_
      refine AllReadyH.cons rfl (fun KQ hK => ?_) AllReadyH.nil
      rw [if_pos (by rfl)]
      go_simp
      refine (HOW.out _ _ _ hy).mono ?_
      rintro e u11 ⟨vo, rfl, ho, hb⟩
      have hg := keep_block hg hb
      refine hK.out _ _ (below_call hS hS.size hb) (fun hS => ?_)
      clear hb hK hy
      refine take_at (i := 12) (v := .tuple #[vo, .agg (ints .u8 rt), .bool true]) rfl rfl (by kernel_rfl) (by kernel_rfl) (by kernel_rfl) (fun _ _ _ h => h) (Or.inl ⟨by rfl, fun U hU => by go_simp⟩) hS ?_
      try simp only [List.setIfInBounds_toArray, List.set_cons_zero, List.set_cons_succ]
      refine take_at (i := 13) (v := vo) rfl rfl (by kernel_rfl) (by kernel_rfl) (by kernel_rfl) (fun _ _ _ h => h) (Or.inl ⟨by rfl, fun U hU => by go_simp⟩) hS ?_
      try simp only [List.setIfInBounds_toArray, List.set_cons_zero, List.set_cons_succ]
      refine take_at (i := 14) (v := .agg (ints .u8 rt)) rfl rfl (by kernel_rfl) (by kernel_rfl) (by kernel_rfl) (fun _ _ _ h => h) (Or.inl ⟨by rfl, fun U hU => by go_simp⟩) hS ?_
      try simp only [List.setIfInBounds_toArray, List.set_cons_zero, List.set_cons_succ]
      refine take_at (i := 15) (v := .bool true) rfl rfl (by kernel_rfl) (by kernel_rfl) (by kernel_rfl) (fun _ _ _ h => h) (Or.inl ⟨by rfl, fun U hU => by go_simp⟩) hS ?_
      try simp only [List.setIfInBounds_toArray, List.set_cons_zero, List.set_cons_succ]
      refine take_at (i := 17) (v := vo) rfl rfl (by kernel_rfl) (by kernel_rfl) (by kernel_rfl) (fun _ _ _ h => h) (Or.inl ⟨by rfl, fun U hU => by go_simp⟩) hS ?_
      try simp only [List.setIfInBounds_toArray, List.set_cons_zero, List.set_cons_succ]
      refine wpAnyH_ready (rs := [18]) (by kernel_rfl) (by simp) ?_
      refine AllReadyH.cons rfl (fun KQ hK => ?_) AllReadyH.nil
      rw [if_pos (by rfl)]
      refine wp_store_row (o := ⟨none, _, _, _, _, _⟩) 28 _ _ rfl _ (ints .u8 rt) rfl rfl 28 (ints .u8 z32) hg (by rw [ints_size, Hrt.out]; exact sizeKey) (by rw [ints_size, ints_size, Hrt.out]; rfl) (ints_one _ _) ?_
      simp only [Act.put]
      have ho2 := owns_setRow_ne (cs := ints .u8 rt) (owns_ne ho hg (by decide)) ho
      obtain ⟨ap, cp, rfl, hP2⟩ := RdP.owned Hpo.out ho2
      refine hK.out _ _ (Below.setRow hS hgg _) (fun hS => ?_)
      clear hK
      refine take_at (i := 19) (v := .bool true) rfl rfl (by kernel_rfl) (by kernel_rfl) (by kernel_rfl) (fun _ _ _ h => h) (Or.inl ⟨by rfl, fun U hU => by go_simp⟩) hS ?_
      try simp only [List.setIfInBounds_toArray, List.set_cons_zero, List.set_cons_succ]
      refine wpAnyH_done (by kernel_rfl) ?_ _
      go_wp2_with fail
      go_meet
      exact ⟨_, _, _, rfl, rfl, setRow_heap _ _ _ _ _ _ hg, hP2, hS⟩
  obtain ⟨ap, cp, g, rfl, rfl, hG, hPo, hBX⟩ := hcut
  have B6 := Lib.hid (below_call B0.out B0.out.size hBX)
  have A06 := Lib.hid (keep_block A0.out hBX)
  have A16 := Lib.hid (keep_block A1.out hBX)
  have G6 := Lib.hid hG
  have P6 := Lib.hid hPo
  clear hG hPo hBX
  go_wp2_with (refine wpList_load_row rfl 28 (.tmp 7) rfl w.heap.size rfl 28 (ints .u8 leaf) (0, 0) _ A06.out Try.underlying28 rfl (by rw [ints_size, HLL.out]; exact sizeKey) ?_)
  refine (HSH.out _ B6.out).mono ?_
  rintro e w7 ⟨vs, rfl, ho, hb⟩
  obtain ⟨aq, cs, rfl, hS7⟩ := RdP.owned Hps.out ho
  have S7 := Lib.hid hS7
  clear hS7 ho
  have B7 := Lib.hid (below_call B6.out B6.out.size hb)
  have A07 := Lib.hid (keep_block A06.out hb)
  have A17 := Lib.hid (keep_block A16.out hb)
  have G7 := Lib.hid (keep_block G6.out hb)
  have P7 := Lib.hid (P6.out.below hb)
  clear hb
  have LA := laid_below w7 (ints .u8 z32) (ints .u8 KY) 28
  have B8 := Lib.hid (below_call B7.out B7.out.size LA)
  have A08 := Lib.hid (keep_block A07.out LA)
  have A18 := Lib.hid (keep_block A17.out LA)
  have G8 := Lib.hid (keep_block G7.out LA)
  have P8 := Lib.hid (P7.out.below LA)
  have S8 := Lib.hid (S7.out.below LA)
  have F8 := Lib.hid (laid_new w7 (ints .u8 z32) (ints .u8 KY) 28)
  clear LA
  rw [Hy.out] at B8 A08 A18 G8 P8 S8 F8
  go_wp2_with (first | (refine wpList_store_row rfl 28 (.tmp 17) _ rfl w7.heap.size (ints .u8 KY) rfl rfl 28 (ints .u8 z32) (by rw [Hy.out]; exact heap_alloc_last _ _) (by rw [ints_size, HKY.out]; exact sizeKey) (by rw [ints_size, ints_size, HKY.out]; rfl) (ints_one _ _) ?_) | (refine wpList_load_row_g2 (by rfl) 28 (.tmp 17) rfl w7.heap.size rfl 28 (ints .u8 KY) (0, 0) _ F8.out Try.underlying28 rfl (by rw [ints_size, HKY.out]; exact sizeKey) ?_) | (refine wpList_load_row_g2 (by rfl) 28 (.tmp 14) rfl g rfl 28 (ints .u8 rt) (0, 0) _ G8.out Try.underlying28 rfl (by rw [ints_size, Hrt.out]; exact sizeKey) ?_) | (refine wpList_store_row rfl 38 (.tmp 10) _ rfl (w.heap.size + 1) Try.zeroCells38 rfl rfl 38 (ints .u8 z128) A18.out (by rw [← Hz.out, ints_size]; exact sizeClash) (by rw [← Hz.out]) (by rw [← Hz.out]; exact ints_one _ _) ?_))
  refine bodyPost_ret (results_cell2_row rfl _ _ (w.heap.size + 1) 38 Try.zeroCells38 (0, 0) _ rfl (setRow_heap _ _ (ints .u8 z128) _ _ _ A18.out) Try.underlying38 rfl (by rw [← Hz.out, ints_size]; exact sizeClash)) rfl ⟨by rw [Hz.out]; rfl, ?_⟩
  exact Below.setRow B8.out (by omega) _
end Go.Proofs.Ytjijgckljjcfiaa
namespace Go.Proofs.Ytjijgckljjcfiaa
open Go.ChangeShapes Go.WideShapes Go.ChangeAt Go.RowKit
set_option linter.unusedVariables false
set_option linter.unusedSimpArgs false
set_option maxRecDepth 100000 in
set_option maxHeartbeats 16000000 in
theorem cof_nf (aa ao n ca j P cb K : Nat) (b : Option Addr) (leaf kx rt yk po : List Int) (w : World) (hn : n ≤ 256) (hP : P ≤ 256) (hj : j < n) (hK : K ≤ 256) (hl : leaf.length = 32) (hkx : kx.length = 32) (hrt : rt.length = 32) (hyk : yk.length = 32 * K) (hpo : po.length = 64 * K)
    (HKEY : w.rangeAt aa (ao + j * 32) (kx.map (Value.int .u8)))
    (HPf : ∀ U, Below w.heap.size w U → Calls Try.prog 63 #[.slice (some ⟨aa, ao, none⟩) n ca, .int .i64 (j : Int), .func (.func 46) #[] #[]] U fun e w' => ∃ v, e = .returned v ∧ w'.ownsRow U.heap.size 28 32 v K (yk.map (Value.int .u8)) ∧ Below U.heap.size U w')
    (HOw : ∀ U a' cp, RdK U a' K yk → Calls Try.prog 66 #[.int .i64 (n : Int), .int .i64 (j : Int), .agg (ints .u8 kx), .slice a' K cp, .func (.func 46) #[] #[]] U fun e w' => ∃ v, e = .returned (.tuple #[v, .agg (ints .u8 rt), .bool true]) ∧ w'.ownsRow U.heap.size 147 64 v K (po.map (Value.int .u8)) ∧ Below U.heap.size U w')
    (KY ps : List Int) (hKY : KY.length = 32) (hps : ps.length = 64 * K) (HSh : ∀ U, Below w.heap.size w U → Calls Try.prog 66 #[.int .i64 (n : Int), .int .i64 (j : Int), .agg (ints .u8 leaf), .slice b P cb, .func (.func 46) #[] #[]] U fun e w' => ∃ v, e = .returned (.tuple #[v, .agg (ints .u8 KY), .bool true]) ∧ w'.ownsRow U.heap.size 147 64 v K (ps.map (Value.int .u8)) ∧ Below U.heap.size U w') (hKr : KY = rt) (hx : leaf = kx) :
    Calls Try.prog 67 #[.slice (some ⟨aa, ao, none⟩) n ca, .int .i64 (j : Int), .agg (ints .u8 leaf), .slice b P cb, .func (.func 46) #[] #[]] w fun e w' => e = .returned (.tuple #[.agg (ints .u8 z128), .int .i64 6]) ∧ Below w.heap.size w w' := by
  have Hz := Lib.hid z128_ints
  have Hy := Lib.hid z32_ints
  have Hw := Lib.hid z64_ints
  have A0 := Lib.hid (heap_alloc2_old w (.cells (ints .u8 leaf) 28) (.cells (ints .u8 z128) 38))
  have A1 := Lib.hid (heap_alloc2_new w (.cells (ints .u8 leaf) 28) (.cells (ints .u8 z128) 38))
  have B0 := Lib.hid (((Below.refl w.heap.size w).alloc (Nat.le_refl _) (.cells (ints .u8 leaf) 28)).alloc (by simp) (.cells (ints .u8 z128) 38))
  obtain ⟨W0, hW0⟩ : ∃ W0, (w.alloc (.cells (ints .u8 leaf) 28)).alloc (.cells (ints .u8 z128) 38) = W0 := ⟨_, rfl⟩
  rw [hW0] at A0 A1 B0
  rw [Hz.out] at hW0
  have n0 : (0 : Int) ≤ (n : Int) := by omega
  have n1 : (n : Int) ≤ 1048576 := by omega
  have m0 : (0 : Int) ≤ (P : Int) := by omega
  have m1 : (P : Int) ≤ 1048576 := by omega
  have heq := fun U => eqlIn2 KY rt hKY hrt U
  rw [decide_eq_true hKr] at heq
  have Hq := Lib.hid (fun U => eqlIn2 leaf kx hl hkx U)
  rw [decide_eq_true hx] at Hq
  clear hKr hx
  have k1 : ¬ (256 : Int) < (n : Int) := by omega
  have k2 : ¬ (256 : Int) < (P : Int) := by omega
  have j0 : (0 : Int) ≤ (j : Int) := by omega
  have j1 : (j : Int) < (n : Int) := by omega
  have Hpl := Lib.hid (fun U => place_yes (n : Int) (j : Int) j0 j1 U)
  have HLL := Lib.hid hl
  have Hkx := Lib.hid hkx
  have Hrt := Lib.hid hrt
  have Hyk := Lib.hid hyk
  have Hpo := Lib.hid hpo
  have HKEY := Lib.hid HKEY
  have HPf := Lib.hid HPf
  have HOW := Lib.hid HOw
  have HSH := Lib.hid HSh
  clear HOw HSh hl hkx hrt hyk hpo
  have HKY := Lib.hid hKY
  have Hps := Lib.hid hps
  clear hKY hps
  go_enter Try.func67, Try.ntmps67
  go_wp2_with fail
  refine (Hpl.out _).mono ?_
  rintro x w3 ⟨rfl, rfl⟩
  go_upto_region 6 with fail
  clear hW0
  go_cut [13, 14] (fun s13 s14 wx => ∃ ap cp g, s13 = .slice ap K cp ∧ s14 = .pointer (some ⟨g, 0, none⟩) ∧ wx.heap[g]? = some (.cells (ints .u8 rt) 28) ∧ RdP wx ap K po ∧ Below W0.heap.size W0 wx)
  case first =>
    refine wp_region_held_drew (S := Below (W0).heap.size (W0)) (by kernel_rfl) ((Below.refl _ _).drew) (fun hS => ?_)
    refine take_at (i := 0) (v := .int .i64 (n : Int)) rfl rfl (by kernel_rfl) (by kernel_rfl) (by kernel_rfl) (fun _ _ _ h => h) (Or.inl ⟨by rfl, fun U hU => by go_simp⟩) hS ?_
    try simp only [List.setIfInBounds_toArray, List.set_cons_zero, List.set_cons_succ]
    refine take_at (i := 1) (v := .int .i64 (j : Int)) rfl rfl (by kernel_rfl) (by kernel_rfl) (by kernel_rfl) (fun _ _ _ h => h) (Or.inl ⟨by rfl, fun U hU => by go_simp⟩) hS ?_
    try simp only [List.setIfInBounds_toArray, List.set_cons_zero, List.set_cons_succ]
    refine take_at (i := 2) (v := .slice (some ⟨aa, ao, none⟩) n ca) rfl rfl (by kernel_rfl) (by kernel_rfl) (by kernel_rfl) (fun _ _ _ h => h) (Or.inl ⟨by rfl, fun U hU => by go_simp⟩) hS ?_
    try simp only [List.setIfInBounds_toArray, List.set_cons_zero, List.set_cons_succ]
    refine take_at (i := 3) (v := .int .i64 (j : Int)) rfl rfl (by kernel_rfl) (by kernel_rfl) (by kernel_rfl) (fun _ _ _ h => h) (Or.inl ⟨by rfl, fun U hU => by go_simp⟩) hS ?_
    try simp only [List.setIfInBounds_toArray, List.set_cons_zero, List.set_cons_succ]
    refine take_at (i := 4) (v := .pointer (some ⟨aa, ao + j * 32, none⟩)) rfl rfl (by kernel_rfl) (by kernel_rfl) (by kernel_rfl) (fun _ _ _ h => h) (Or.inl ⟨by rfl, fun U hU => by go_simp⟩) hS ?_
    try simp only [List.setIfInBounds_toArray, List.set_cons_zero, List.set_cons_succ]
    refine take_at (i := 5) (v := .agg (ints .u8 kx)) rfl rfl (by kernel_rfl) (by kernel_rfl) (by kernel_rfl) (fun _ _ _ h => h) (yieldsIf_load_mid (by rfl) 28 _ rfl aa (ao + j * 32) rfl (kx.map (Value.int .u8)) _ (fun U hU => rangeAt_below HKEY.out (B0.out.trans (hU.mono B0.out.size))) Try.underlying28 rfl (by rw [List.length_map, Hkx.out]; exact sizeKey)) hS ?_
    try simp only [List.setIfInBounds_toArray, List.set_cons_zero, List.set_cons_succ]
    refine take_at (i := 6) (v := .slice (some ⟨aa, ao, none⟩) n ca) rfl rfl (by kernel_rfl) (by kernel_rfl) (by kernel_rfl) (fun _ _ _ h => h) (Or.inl ⟨by rfl, fun U hU => by go_simp⟩) hS ?_
    try simp only [List.setIfInBounds_toArray, List.set_cons_zero, List.set_cons_succ]
    refine take_at (i := 7) (v := .int .i64 (j : Int)) rfl rfl (by kernel_rfl) (by kernel_rfl) (by kernel_rfl) (fun _ _ _ h => h) (Or.inl ⟨by rfl, fun U hU => by go_simp⟩) hS ?_
    try simp only [List.setIfInBounds_toArray, List.set_cons_zero, List.set_cons_succ]
    refine take_at (i := 8) (v := .func (.func 46) #[] #[]) rfl rfl (by kernel_rfl) (by kernel_rfl) (by kernel_rfl) (fun _ _ _ h => h) (Or.inl ⟨by rfl, fun U hU => by go_simp⟩) hS ?_
    try simp only [List.setIfInBounds_toArray, List.set_cons_zero, List.set_cons_succ]
    refine take_at (i := 10) (v := .func (.func 46) #[] #[]) rfl rfl (by kernel_rfl) (by kernel_rfl) (by kernel_rfl) (fun _ _ _ h => h) (Or.inl ⟨by rfl, fun U hU => by go_simp⟩) hS ?_
    try simp only [List.setIfInBounds_toArray, List.set_cons_zero, List.set_cons_succ]
    refine wpAnyH_ready (rs := [9, 16]) (by kernel_rfl) (by simp) ?_
    refine AllReadyH.cons rfl (fun KQ hK => ?_) (AllReadyH.cons rfl (fun KQ hK => ?_) AllReadyH.nil)
    · rw [if_pos (by rfl)]
      go_simp
      refine (HPf.out _ (B0.out.trans (hS.mono B0.out.size))).mono ?_
      rintro e u9 ⟨v1, rfl, ho1, hb⟩
      obtain ⟨a1, cp1, rfl, hy⟩ := RdK.owned Hyk.out ho1
      refine hK.out _ _ (below_call hS hS.size hb) (fun hS => ?_)
      clear hb hK ho1
      refine wpAnyH_ready (rs := [11, 16]) (by kernel_rfl) (by simp) ?_
      refine AllReadyH.cons rfl (fun KQ hK => ?_) (AllReadyH.cons rfl (fun KQ hK => ?_) AllReadyH.nil)
      · rw [if_pos (by rfl)]
        go_simp
        refine (HOW.out _ _ _ hy).mono ?_
        rintro e u11 ⟨vo, rfl, ho, hb⟩
        refine hK.out _ _ (below_call hS hS.size hb) (fun hS => ?_)
        clear hb hK hy
        refine take_at (i := 12) (v := .tuple #[vo, .agg (ints .u8 rt), .bool true]) rfl rfl (by kernel_rfl) (by kernel_rfl) (by kernel_rfl) (fun _ _ _ h => h) (Or.inl ⟨by rfl, fun U hU => by go_simp⟩) hS ?_
        try simp only [List.setIfInBounds_toArray, List.set_cons_zero, List.set_cons_succ]
        refine take_at (i := 13) (v := vo) rfl rfl (by kernel_rfl) (by kernel_rfl) (by kernel_rfl) (fun _ _ _ h => h) (Or.inl ⟨by rfl, fun U hU => by go_simp⟩) hS ?_
        try simp only [List.setIfInBounds_toArray, List.set_cons_zero, List.set_cons_succ]
        refine take_at (i := 14) (v := .agg (ints .u8 rt)) rfl rfl (by kernel_rfl) (by kernel_rfl) (by kernel_rfl) (fun _ _ _ h => h) (Or.inl ⟨by rfl, fun U hU => by go_simp⟩) hS ?_
        try simp only [List.setIfInBounds_toArray, List.set_cons_zero, List.set_cons_succ]
        refine take_at (i := 15) (v := .bool true) rfl rfl (by kernel_rfl) (by kernel_rfl) (by kernel_rfl) (fun _ _ _ h => h) (Or.inl ⟨by rfl, fun U hU => by go_simp⟩) hS ?_
        try simp only [List.setIfInBounds_toArray, List.set_cons_zero, List.set_cons_succ]
        refine wpAnyH_ready (rs := [16]) (by kernel_rfl) (by simp) ?_
        refine AllReadyH.cons rfl (fun KQ hK => ?_) AllReadyH.nil
        rw [if_pos (by rfl)]
        go_simp
        have hgg := hS.size
        have hg := new_block (t := 28) Hy.out hS
        have ho := owns_below ho ((Below.refl _ _).alloc (Nat.le_refl _) (.cells #[.int .u8 0, .int .u8 0, .int .u8 0, .int .u8 0, .int .u8 0, .int .u8 0, .int .u8 0, .int .u8 0, .int .u8 0, .int .u8 0, .int .u8 0, .int .u8 0, .int .u8 0, .int .u8 0, .int .u8 0, .int .u8 0, .int .u8 0, .int .u8 0, .int .u8 0, .int .u8 0, .int .u8 0, .int .u8 0, .int .u8 0, .int .u8 0, .int .u8 0, .int .u8 0, .int .u8 0, .int .u8 0, .int .u8 0, .int .u8 0, .int .u8 0, .int .u8 0] 28))
        refine hK.out _ _ (hS.alloc hS.size _) (fun hS => ?_)
        clear hK
        refine take_at (i := 17) (v := vo) rfl rfl (by kernel_rfl) (by kernel_rfl) (by kernel_rfl) (fun _ _ _ h => h) (Or.inl ⟨by rfl, fun U hU => by go_simp⟩) hS ?_
        try simp only [List.setIfInBounds_toArray, List.set_cons_zero, List.set_cons_succ]
        refine wpAnyH_ready (rs := [18]) (by kernel_rfl) (by simp) ?_
        refine AllReadyH.cons rfl (fun KQ hK => ?_) AllReadyH.nil
        rw [if_pos (by rfl)]
        refine wp_store_row (o := ⟨none, _, _, _, _, _⟩) 28 _ _ rfl _ (ints .u8 rt) rfl rfl 28 (ints .u8 z32) hg (by rw [ints_size, Hrt.out]; exact sizeKey) (by rw [ints_size, ints_size, Hrt.out]; rfl) (ints_one _ _) ?_
        simp only [Act.put]
        have ho2 := owns_setRow_ne (cs := ints .u8 rt) (owns_ne ho hg (by decide)) ho
        obtain ⟨ap, cp, rfl, hP2⟩ := RdP.owned Hpo.out ho2
        refine hK.out _ _ (Below.setRow hS hgg _) (fun hS => ?_)
        clear hK
        refine take_at (i := 19) (v := .bool true) rfl rfl (by kernel_rfl) (by kernel_rfl) (by kernel_rfl) (fun _ _ _ h => h) (Or.inl ⟨by rfl, fun U hU => by go_simp⟩) hS ?_
        try simp only [List.setIfInBounds_toArray, List.set_cons_zero, List.set_cons_succ]
        refine wpAnyH_done (by kernel_rfl) ?_ _
        go_wp2_with fail
        go_meet
        exact ⟨_, _, _, rfl, rfl, setRow_heap _ _ _ _ _ _ hg, hP2, hS⟩
      · rw [if_pos (by rfl)]
        go_simp
        have hgg := hS.size
        have hg := new_block (t := 28) Hy.out hS
        have hy := hy.below ((Below.refl _ _).alloc (Nat.le_refl _) (.cells #[.int .u8 0, .int .u8 0, .int .u8 0, .int .u8 0, .int .u8 0, .int .u8 0, .int .u8 0, .int .u8 0, .int .u8 0, .int .u8 0, .int .u8 0, .int .u8 0, .int .u8 0, .int .u8 0, .int .u8 0, .int .u8 0, .int .u8 0, .int .u8 0, .int .u8 0, .int .u8 0, .int .u8 0, .int .u8 0, .int .u8 0, .int .u8 0, .int .u8 0, .int .u8 0, .int .u8 0, .int .u8 0, .int .u8 0, .int .u8 0, .int .u8 0, .int .u8 0] 28))
        refine hK.out _ _ (hS.alloc hS.size _) (fun hS => ?_)
        clear hK
        refine wpAnyH_ready (rs := [11]) (by kernel_rfl) (by simp) ?_
        refine AllReadyH.cons rfl (fun KQ hK => ?_) AllReadyH.nil
        rw [if_pos (by rfl)]
        go_simp
        refine (HOW.out _ _ _ hy).mono ?_
        rintro e u11 ⟨vo, rfl, ho, hb⟩
        have hg := keep_block hg hb
        refine hK.out _ _ (below_call hS hS.size hb) (fun hS => ?_)
        clear hb hK hy
        refine take_at (i := 12) (v := .tuple #[vo, .agg (ints .u8 rt), .bool true]) rfl rfl (by kernel_rfl) (by kernel_rfl) (by kernel_rfl) (fun _ _ _ h => h) (Or.inl ⟨by rfl, fun U hU => by go_simp⟩) hS ?_
        try simp only [List.setIfInBounds_toArray, List.set_cons_zero, List.set_cons_succ]
        refine take_at (i := 13) (v := vo) rfl rfl (by kernel_rfl) (by kernel_rfl) (by kernel_rfl) (fun _ _ _ h => h) (Or.inl ⟨by rfl, fun U hU => by go_simp⟩) hS ?_
        try simp only [List.setIfInBounds_toArray, List.set_cons_zero, List.set_cons_succ]
        refine take_at (i := 14) (v := .agg (ints .u8 rt)) rfl rfl (by kernel_rfl) (by kernel_rfl) (by kernel_rfl) (fun _ _ _ h => h) (Or.inl ⟨by rfl, fun U hU => by go_simp⟩) hS ?_
        try simp only [List.setIfInBounds_toArray, List.set_cons_zero, List.set_cons_succ]
        refine take_at (i := 15) (v := .bool true) rfl rfl (by kernel_rfl) (by kernel_rfl) (by kernel_rfl) (fun _ _ _ h => h) (Or.inl ⟨by rfl, fun U hU => by go_simp⟩) hS ?_
        try simp only [List.setIfInBounds_toArray, List.set_cons_zero, List.set_cons_succ]
        refine take_at (i := 17) (v := vo) rfl rfl (by kernel_rfl) (by kernel_rfl) (by kernel_rfl) (fun _ _ _ h => h) (Or.inl ⟨by rfl, fun U hU => by go_simp⟩) hS ?_
        try simp only [List.setIfInBounds_toArray, List.set_cons_zero, List.set_cons_succ]
        refine wpAnyH_ready (rs := [18]) (by kernel_rfl) (by simp) ?_
        refine AllReadyH.cons rfl (fun KQ hK => ?_) AllReadyH.nil
        rw [if_pos (by rfl)]
        refine wp_store_row (o := ⟨none, _, _, _, _, _⟩) 28 _ _ rfl _ (ints .u8 rt) rfl rfl 28 (ints .u8 z32) hg (by rw [ints_size, Hrt.out]; exact sizeKey) (by rw [ints_size, ints_size, Hrt.out]; rfl) (ints_one _ _) ?_
        simp only [Act.put]
        have ho2 := owns_setRow_ne (cs := ints .u8 rt) (owns_ne ho hg (by decide)) ho
        obtain ⟨ap, cp, rfl, hP2⟩ := RdP.owned Hpo.out ho2
        refine hK.out _ _ (Below.setRow hS hgg _) (fun hS => ?_)
        clear hK
        refine take_at (i := 19) (v := .bool true) rfl rfl (by kernel_rfl) (by kernel_rfl) (by kernel_rfl) (fun _ _ _ h => h) (Or.inl ⟨by rfl, fun U hU => by go_simp⟩) hS ?_
        try simp only [List.setIfInBounds_toArray, List.set_cons_zero, List.set_cons_succ]
        refine wpAnyH_done (by kernel_rfl) ?_ _
        go_wp2_with fail
        go_meet
        exact ⟨_, _, _, rfl, rfl, setRow_heap _ _ _ _ _ _ hg, hP2, hS⟩
    · rw [if_pos (by rfl)]
      go_simp
      have hgg := hS.size
      have hg := new_block (t := 28) Hy.out hS
      refine hK.out _ _ (hS.alloc hS.size _) (fun hS => ?_)
      clear hK
      refine wpAnyH_ready (rs := [9]) (by kernel_rfl) (by simp) ?_
      refine AllReadyH.cons rfl (fun KQ hK => ?_) AllReadyH.nil
      rw [if_pos (by rfl)]
      go_simp
      refine (HPf.out _ (B0.out.trans (hS.mono B0.out.size))).mono ?_
      rintro e u9 ⟨v1, rfl, ho1, hb⟩
      have hg := keep_block hg hb
      obtain ⟨a1, cp1, rfl, hy⟩ := RdK.owned Hyk.out ho1
      refine hK.out _ _ (below_call hS hS.size hb) (fun hS => ?_)
      clear hb hK ho1
      refine wpAnyH_ready (rs := [11]) (by kernel_rfl) (by simp) ?_
      refine AllReadyH.cons rfl (fun KQ hK => ?_) AllReadyH.nil
      rw [if_pos (by rfl)]
      go_simp
      refine (HOW.out _ _ _ hy).mono ?_
      rintro e u11 ⟨vo, rfl, ho, hb⟩
      have hg := keep_block hg hb
      refine hK.out _ _ (below_call hS hS.size hb) (fun hS => ?_)
      clear hb hK hy
      refine take_at (i := 12) (v := .tuple #[vo, .agg (ints .u8 rt), .bool true]) rfl rfl (by kernel_rfl) (by kernel_rfl) (by kernel_rfl) (fun _ _ _ h => h) (Or.inl ⟨by rfl, fun U hU => by go_simp⟩) hS ?_
      try simp only [List.setIfInBounds_toArray, List.set_cons_zero, List.set_cons_succ]
      refine take_at (i := 13) (v := vo) rfl rfl (by kernel_rfl) (by kernel_rfl) (by kernel_rfl) (fun _ _ _ h => h) (Or.inl ⟨by rfl, fun U hU => by go_simp⟩) hS ?_
      try simp only [List.setIfInBounds_toArray, List.set_cons_zero, List.set_cons_succ]
      refine take_at (i := 14) (v := .agg (ints .u8 rt)) rfl rfl (by kernel_rfl) (by kernel_rfl) (by kernel_rfl) (fun _ _ _ h => h) (Or.inl ⟨by rfl, fun U hU => by go_simp⟩) hS ?_
      try simp only [List.setIfInBounds_toArray, List.set_cons_zero, List.set_cons_succ]
      refine take_at (i := 15) (v := .bool true) rfl rfl (by kernel_rfl) (by kernel_rfl) (by kernel_rfl) (fun _ _ _ h => h) (Or.inl ⟨by rfl, fun U hU => by go_simp⟩) hS ?_
      try simp only [List.setIfInBounds_toArray, List.set_cons_zero, List.set_cons_succ]
      refine take_at (i := 17) (v := vo) rfl rfl (by kernel_rfl) (by kernel_rfl) (by kernel_rfl) (fun _ _ _ h => h) (Or.inl ⟨by rfl, fun U hU => by go_simp⟩) hS ?_
      try simp only [List.setIfInBounds_toArray, List.set_cons_zero, List.set_cons_succ]
      refine wpAnyH_ready (rs := [18]) (by kernel_rfl) (by simp) ?_
      refine AllReadyH.cons rfl (fun KQ hK => ?_) AllReadyH.nil
      rw [if_pos (by rfl)]
      refine wp_store_row (o := ⟨none, _, _, _, _, _⟩) 28 _ _ rfl _ (ints .u8 rt) rfl rfl 28 (ints .u8 z32) hg (by rw [ints_size, Hrt.out]; exact sizeKey) (by rw [ints_size, ints_size, Hrt.out]; rfl) (ints_one _ _) ?_
      simp only [Act.put]
      have ho2 := owns_setRow_ne (cs := ints .u8 rt) (owns_ne ho hg (by decide)) ho
      obtain ⟨ap, cp, rfl, hP2⟩ := RdP.owned Hpo.out ho2
      refine hK.out _ _ (Below.setRow hS hgg _) (fun hS => ?_)
      clear hK
      refine take_at (i := 19) (v := .bool true) rfl rfl (by kernel_rfl) (by kernel_rfl) (by kernel_rfl) (fun _ _ _ h => h) (Or.inl ⟨by rfl, fun U hU => by go_simp⟩) hS ?_
      try simp only [List.setIfInBounds_toArray, List.set_cons_zero, List.set_cons_succ]
      refine wpAnyH_done (by kernel_rfl) ?_ _
      go_wp2_with fail
      go_meet
      exact ⟨_, _, _, rfl, rfl, setRow_heap _ _ _ _ _ _ hg, hP2, hS⟩
  obtain ⟨ap, cp, g, rfl, rfl, hG, hPo, hBX⟩ := hcut
  have B6 := Lib.hid (below_call B0.out B0.out.size hBX)
  have A06 := Lib.hid (keep_block A0.out hBX)
  have A16 := Lib.hid (keep_block A1.out hBX)
  have G6 := Lib.hid hG
  have P6 := Lib.hid hPo
  clear hG hPo hBX
  go_wp2_with (refine wpList_load_row rfl 28 (.tmp 7) rfl w.heap.size rfl 28 (ints .u8 leaf) (0, 0) _ A06.out Try.underlying28 rfl (by rw [ints_size, HLL.out]; exact sizeKey) ?_)
  refine (HSH.out _ B6.out).mono ?_
  rintro e w7 ⟨vs, rfl, ho, hb⟩
  obtain ⟨aq, cs, rfl, hS7⟩ := RdP.owned Hps.out ho
  have S7 := Lib.hid hS7
  clear hS7 ho
  have B7 := Lib.hid (below_call B6.out B6.out.size hb)
  have A07 := Lib.hid (keep_block A06.out hb)
  have A17 := Lib.hid (keep_block A16.out hb)
  have G7 := Lib.hid (keep_block G6.out hb)
  have P7 := Lib.hid (P6.out.below hb)
  clear hb
  have LA := laid_below w7 (ints .u8 z32) (ints .u8 KY) 28
  have B8 := Lib.hid (below_call B7.out B7.out.size LA)
  have A08 := Lib.hid (keep_block A07.out LA)
  have A18 := Lib.hid (keep_block A17.out LA)
  have G8 := Lib.hid (keep_block G7.out LA)
  have P8 := Lib.hid (P7.out.below LA)
  have S8 := Lib.hid (S7.out.below LA)
  have F8 := Lib.hid (laid_new w7 (ints .u8 z32) (ints .u8 KY) 28)
  clear LA
  rw [Hy.out] at B8 A08 A18 G8 P8 S8 F8
  go_upto_region 10 with (first | (refine wpList_store_row rfl 28 (.tmp 17) _ rfl w7.heap.size (ints .u8 KY) rfl rfl 28 (ints .u8 z32) (by rw [Hy.out]; exact heap_alloc_last _ _) (by rw [ints_size, HKY.out]; exact sizeKey) (by rw [ints_size, ints_size, HKY.out]; rfl) (ints_one _ _) ?_) | (refine wpList_load_row_g2 (by rfl) 28 (.tmp 17) rfl w7.heap.size rfl 28 (ints .u8 KY) (0, 0) _ F8.out Try.underlying28 rfl (by rw [ints_size, HKY.out]; exact sizeKey) ?_) | (refine wpList_load_row_g2 (by rfl) 28 (.tmp 14) rfl g rfl 28 (ints .u8 rt) (0, 0) _ G8.out Try.underlying28 rfl (by rw [ints_size, Hrt.out]; exact sizeKey) ?_))
  clear heq
  generalize (w7.alloc (.cells #[.int .u8 0, .int .u8 0, .int .u8 0, .int .u8 0, .int .u8 0, .int .u8 0, .int .u8 0, .int .u8 0, .int .u8 0, .int .u8 0, .int .u8 0, .int .u8 0, .int .u8 0, .int .u8 0, .int .u8 0, .int .u8 0, .int .u8 0, .int .u8 0, .int .u8 0, .int .u8 0, .int .u8 0, .int .u8 0, .int .u8 0, .int .u8 0, .int .u8 0, .int .u8 0, .int .u8 0, .int .u8 0, .int .u8 0, .int .u8 0, .int .u8 0, .int .u8 0] 28)).setRow w7.heap.size (ints .u8 KY) = W8 at B8 A08 A18 P8 S8 ⊢
  clear G8 F8
  refine wp_region_held_drew (S := Below (W8).heap.size (W8)) (by kernel_rfl) ((Below.refl _ _).drew) (fun hS => ?_)
  refine take_at (i := 0) (v := .agg (ints .u8 leaf)) rfl rfl (by kernel_rfl) (by kernel_rfl) (by kernel_rfl) (fun _ _ _ h => h) (yields_box (by rfl) 28 _ rfl (w.heap.size) rfl _ 28 _ A08.out Try.underlying28 rfl (by rw [ints_size, HLL.out]; exact sizeKey)) hS ?_
  try simp only [List.setIfInBounds_toArray, List.set_cons_zero, List.set_cons_succ]
  refine take_at (i := 1) (v := .slice (some ⟨aa, ao, none⟩) n ca) rfl rfl (by kernel_rfl) (by kernel_rfl) (by kernel_rfl) (fun _ _ _ h => h) (Or.inl ⟨by rfl, fun U hU => by go_simp⟩) hS ?_
  try simp only [List.setIfInBounds_toArray, List.set_cons_zero, List.set_cons_succ]
  refine take_at (i := 2) (v := .int .i64 (j : Int)) rfl rfl (by kernel_rfl) (by kernel_rfl) (by kernel_rfl) (fun _ _ _ h => h) (Or.inl ⟨by rfl, fun U hU => by go_simp⟩) hS ?_
  try simp only [List.setIfInBounds_toArray, List.set_cons_zero, List.set_cons_succ]
  refine take_at (i := 3) (v := .pointer (some ⟨aa, ao + j * 32, none⟩)) rfl rfl (by kernel_rfl) (by kernel_rfl) (by kernel_rfl) (fun _ _ _ h => h) (Or.inl ⟨by rfl, fun U hU => by go_simp⟩) hS ?_
  try simp only [List.setIfInBounds_toArray, List.set_cons_zero, List.set_cons_succ]
  refine take_at (i := 4) (v := .agg (ints .u8 kx)) rfl rfl (by kernel_rfl) (by kernel_rfl) (by kernel_rfl) (fun _ _ _ h => h) (yieldsIf_load_mid (by rfl) 28 _ rfl aa (ao + j * 32) rfl (kx.map (Value.int .u8)) _ (fun U hU => rangeAt_below HKEY.out (B8.out.trans (hU.mono B8.out.size))) Try.underlying28 rfl (by rw [List.length_map, Hkx.out]; exact sizeKey)) hS ?_
  try simp only [List.setIfInBounds_toArray, List.set_cons_zero, List.set_cons_succ]
  refine take_at (i := 5) (v := .bool true) rfl rfl (by kernel_rfl) (by kernel_rfl) (by kernel_rfl) (fun _ _ _ h => h) (Or.inl ⟨by rfl, fun U hU => by have hq := Hq.out U; go_simp⟩) hS ?_
  try simp only [List.setIfInBounds_toArray, List.set_cons_zero, List.set_cons_succ]
  refine wpAnyH_done (by kernel_rfl) ?_ _
  have B9 := Lib.hid (B8.out.trans (hS.mono B8.out.size))
  have A19 := Lib.hid (keep_block A18.out hS)
  clear hS
  go_wp2_with (refine wpList_store_row rfl 38 (.tmp 10) _ rfl (w.heap.size + 1) Try.zeroCells38 rfl rfl 38 (ints .u8 z128) A19.out (by rw [← Hz.out, ints_size]; exact sizeClash) (by rw [← Hz.out]) (by rw [← Hz.out]; exact ints_one _ _) ?_)
  refine bodyPost_ret (results_cell2_row rfl _ _ (w.heap.size + 1) 38 Try.zeroCells38 (0, 0) _ rfl (setRow_heap _ _ (ints .u8 z128) _ _ _ A19.out) Try.underlying38 rfl (by rw [← Hz.out, ints_size]; exact sizeClash)) rfl ⟨by rw [Hz.out]; rfl, ?_⟩
  exact Below.setRow B9.out (by omega) _
end Go.Proofs.Ytjijgckljjcfiaa
namespace Go.Proofs.Ytjijgckljjcfiaa
open Go.ChangeShapes Go.WideShapes Go.ChangeAt Go.RowKit
set_option linter.unusedVariables false
set_option linter.unusedSimpArgs false
set_option maxRecDepth 100000 in
set_option maxHeartbeats 16000000 in
theorem cof_yes (aa ao n ca j P cb K : Nat) (b : Option Addr) (leaf kx rt yk po : List Int) (w : World) (hn : n ≤ 256) (hP : P ≤ 256) (hj : j < n) (hK : K ≤ 256) (hl : leaf.length = 32) (hkx : kx.length = 32) (hrt : rt.length = 32) (hyk : yk.length = 32 * K) (hpo : po.length = 64 * K)
    (HKEY : w.rangeAt aa (ao + j * 32) (kx.map (Value.int .u8)))
    (HPf : ∀ U, Below w.heap.size w U → Calls Try.prog 63 #[.slice (some ⟨aa, ao, none⟩) n ca, .int .i64 (j : Int), .func (.func 46) #[] #[]] U fun e w' => ∃ v, e = .returned v ∧ w'.ownsRow U.heap.size 28 32 v K (yk.map (Value.int .u8)) ∧ Below U.heap.size U w')
    (HOw : ∀ U a' cp, RdK U a' K yk → Calls Try.prog 66 #[.int .i64 (n : Int), .int .i64 (j : Int), .agg (ints .u8 kx), .slice a' K cp, .func (.func 46) #[] #[]] U fun e w' => ∃ v, e = .returned (.tuple #[v, .agg (ints .u8 rt), .bool true]) ∧ w'.ownsRow U.heap.size 147 64 v K (po.map (Value.int .u8)) ∧ Below U.heap.size U w')
    (KY ps : List Int) (hKY : KY.length = 32) (hps : ps.length = 64 * K) (HSh : ∀ U, Below w.heap.size w U → Calls Try.prog 66 #[.int .i64 (n : Int), .int .i64 (j : Int), .agg (ints .u8 leaf), .slice b P cb, .func (.func 46) #[] #[]] U fun e w' => ∃ v, e = .returned (.tuple #[v, .agg (ints .u8 KY), .bool true]) ∧ w'.ownsRow U.heap.size 147 64 v K (ps.map (Value.int .u8)) ∧ Below U.heap.size U w') (hKr : KY = rt) (hx : leaf ≠ kx)
    (C : Nat) (sc : List Int) (hC : C < K) (HCl : ∀ k, k ≤ C → ∃ x y u v, Is32 x ∧ Is32 y ∧ Is32 u ∧ Is32 v ∧ (po.drop (64 * k)).take 64 = x ++ y ∧ (ps.drop (64 * k)).take 64 = u ++ v ∧ (clB x y u v = false → k < C) ∧ (clB x y u v = true → sc = x ++ (y ++ (u ++ v)))) :
    Calls Try.prog 67 #[.slice (some ⟨aa, ao, none⟩) n ca, .int .i64 (j : Int), .agg (ints .u8 leaf), .slice b P cb, .func (.func 46) #[] #[]] w fun e w' => e = .returned (.tuple #[.agg (ints .u8 sc), .int .i64 0]) ∧ Below w.heap.size w w' := by
  have Hz := Lib.hid z128_ints
  have Hy := Lib.hid z32_ints
  have Hw := Lib.hid z64_ints
  have A0 := Lib.hid (heap_alloc2_old w (.cells (ints .u8 leaf) 28) (.cells (ints .u8 z128) 38))
  have A1 := Lib.hid (heap_alloc2_new w (.cells (ints .u8 leaf) 28) (.cells (ints .u8 z128) 38))
  have B0 := Lib.hid (((Below.refl w.heap.size w).alloc (Nat.le_refl _) (.cells (ints .u8 leaf) 28)).alloc (by simp) (.cells (ints .u8 z128) 38))
  obtain ⟨W0, hW0⟩ : ∃ W0, (w.alloc (.cells (ints .u8 leaf) 28)).alloc (.cells (ints .u8 z128) 38) = W0 := ⟨_, rfl⟩
  rw [hW0] at A0 A1 B0
  rw [Hz.out] at hW0
  have n0 : (0 : Int) ≤ (n : Int) := by omega
  have n1 : (n : Int) ≤ 1048576 := by omega
  have m0 : (0 : Int) ≤ (P : Int) := by omega
  have m1 : (P : Int) ≤ 1048576 := by omega
  have HCL := Lib.hid HCl
  have heq := fun U => eqlIn2 KY rt hKY hrt U
  rw [decide_eq_true hKr] at heq
  have Hq := Lib.hid (fun U => eqlIn2 leaf kx hl hkx U)
  rw [decide_eq_false hx] at Hq
  clear hKr hx HCl
  have k1 : ¬ (256 : Int) < (n : Int) := by omega
  have k2 : ¬ (256 : Int) < (P : Int) := by omega
  have j0 : (0 : Int) ≤ (j : Int) := by omega
  have j1 : (j : Int) < (n : Int) := by omega
  have Hpl := Lib.hid (fun U => place_yes (n : Int) (j : Int) j0 j1 U)
  have HLL := Lib.hid hl
  have Hkx := Lib.hid hkx
  have Hrt := Lib.hid hrt
  have Hyk := Lib.hid hyk
  have Hpo := Lib.hid hpo
  have HKEY := Lib.hid HKEY
  have HPf := Lib.hid HPf
  have HOW := Lib.hid HOw
  have HSH := Lib.hid HSh
  clear HOw HSh hl hkx hrt hyk hpo
  have HKY := Lib.hid hKY
  have Hps := Lib.hid hps
  clear hKY hps
  go_enter Try.func67, Try.ntmps67
  go_wp2_with fail
  refine (Hpl.out _).mono ?_
  rintro x w3 ⟨rfl, rfl⟩
  go_upto_region 6 with fail
  clear hW0
  go_cut [13, 14] (fun s13 s14 wx => ∃ ap cp g, s13 = .slice ap K cp ∧ s14 = .pointer (some ⟨g, 0, none⟩) ∧ wx.heap[g]? = some (.cells (ints .u8 rt) 28) ∧ RdP wx ap K po ∧ Below W0.heap.size W0 wx)
  case first =>
    refine wp_region_held_drew (S := Below (W0).heap.size (W0)) (by kernel_rfl) ((Below.refl _ _).drew) (fun hS => ?_)
    refine take_at (i := 0) (v := .int .i64 (n : Int)) rfl rfl (by kernel_rfl) (by kernel_rfl) (by kernel_rfl) (fun _ _ _ h => h) (Or.inl ⟨by rfl, fun U hU => by go_simp⟩) hS ?_
    try simp only [List.setIfInBounds_toArray, List.set_cons_zero, List.set_cons_succ]
    refine take_at (i := 1) (v := .int .i64 (j : Int)) rfl rfl (by kernel_rfl) (by kernel_rfl) (by kernel_rfl) (fun _ _ _ h => h) (Or.inl ⟨by rfl, fun U hU => by go_simp⟩) hS ?_
    try simp only [List.setIfInBounds_toArray, List.set_cons_zero, List.set_cons_succ]
    refine take_at (i := 2) (v := .slice (some ⟨aa, ao, none⟩) n ca) rfl rfl (by kernel_rfl) (by kernel_rfl) (by kernel_rfl) (fun _ _ _ h => h) (Or.inl ⟨by rfl, fun U hU => by go_simp⟩) hS ?_
    try simp only [List.setIfInBounds_toArray, List.set_cons_zero, List.set_cons_succ]
    refine take_at (i := 3) (v := .int .i64 (j : Int)) rfl rfl (by kernel_rfl) (by kernel_rfl) (by kernel_rfl) (fun _ _ _ h => h) (Or.inl ⟨by rfl, fun U hU => by go_simp⟩) hS ?_
    try simp only [List.setIfInBounds_toArray, List.set_cons_zero, List.set_cons_succ]
    refine take_at (i := 4) (v := .pointer (some ⟨aa, ao + j * 32, none⟩)) rfl rfl (by kernel_rfl) (by kernel_rfl) (by kernel_rfl) (fun _ _ _ h => h) (Or.inl ⟨by rfl, fun U hU => by go_simp⟩) hS ?_
    try simp only [List.setIfInBounds_toArray, List.set_cons_zero, List.set_cons_succ]
    refine take_at (i := 5) (v := .agg (ints .u8 kx)) rfl rfl (by kernel_rfl) (by kernel_rfl) (by kernel_rfl) (fun _ _ _ h => h) (yieldsIf_load_mid (by rfl) 28 _ rfl aa (ao + j * 32) rfl (kx.map (Value.int .u8)) _ (fun U hU => rangeAt_below HKEY.out (B0.out.trans (hU.mono B0.out.size))) Try.underlying28 rfl (by rw [List.length_map, Hkx.out]; exact sizeKey)) hS ?_
    try simp only [List.setIfInBounds_toArray, List.set_cons_zero, List.set_cons_succ]
    refine take_at (i := 6) (v := .slice (some ⟨aa, ao, none⟩) n ca) rfl rfl (by kernel_rfl) (by kernel_rfl) (by kernel_rfl) (fun _ _ _ h => h) (Or.inl ⟨by rfl, fun U hU => by go_simp⟩) hS ?_
    try simp only [List.setIfInBounds_toArray, List.set_cons_zero, List.set_cons_succ]
    refine take_at (i := 7) (v := .int .i64 (j : Int)) rfl rfl (by kernel_rfl) (by kernel_rfl) (by kernel_rfl) (fun _ _ _ h => h) (Or.inl ⟨by rfl, fun U hU => by go_simp⟩) hS ?_
    try simp only [List.setIfInBounds_toArray, List.set_cons_zero, List.set_cons_succ]
    refine take_at (i := 8) (v := .func (.func 46) #[] #[]) rfl rfl (by kernel_rfl) (by kernel_rfl) (by kernel_rfl) (fun _ _ _ h => h) (Or.inl ⟨by rfl, fun U hU => by go_simp⟩) hS ?_
    try simp only [List.setIfInBounds_toArray, List.set_cons_zero, List.set_cons_succ]
    refine take_at (i := 10) (v := .func (.func 46) #[] #[]) rfl rfl (by kernel_rfl) (by kernel_rfl) (by kernel_rfl) (fun _ _ _ h => h) (Or.inl ⟨by rfl, fun U hU => by go_simp⟩) hS ?_
    try simp only [List.setIfInBounds_toArray, List.set_cons_zero, List.set_cons_succ]
    refine wpAnyH_ready (rs := [9, 16]) (by kernel_rfl) (by simp) ?_
    refine AllReadyH.cons rfl (fun KQ hK => ?_) (AllReadyH.cons rfl (fun KQ hK => ?_) AllReadyH.nil)
    · rw [if_pos (by rfl)]
      go_simp
      refine (HPf.out _ (B0.out.trans (hS.mono B0.out.size))).mono ?_
      rintro e u9 ⟨v1, rfl, ho1, hb⟩
      obtain ⟨a1, cp1, rfl, hy⟩ := RdK.owned Hyk.out ho1
      refine hK.out _ _ (below_call hS hS.size hb) (fun hS => ?_)
      clear hb hK ho1
      refine wpAnyH_ready (rs := [11, 16]) (by kernel_rfl) (by simp) ?_
      refine AllReadyH.cons rfl (fun KQ hK => ?_) (AllReadyH.cons rfl (fun KQ hK => ?_) AllReadyH.nil)
      · rw [if_pos (by rfl)]
        go_simp
        refine (HOW.out _ _ _ hy).mono ?_
        rintro e u11 ⟨vo, rfl, ho, hb⟩
        refine hK.out _ _ (below_call hS hS.size hb) (fun hS => ?_)
        clear hb hK hy
        refine take_at (i := 12) (v := .tuple #[vo, .agg (ints .u8 rt), .bool true]) rfl rfl (by kernel_rfl) (by kernel_rfl) (by kernel_rfl) (fun _ _ _ h => h) (Or.inl ⟨by rfl, fun U hU => by go_simp⟩) hS ?_
        try simp only [List.setIfInBounds_toArray, List.set_cons_zero, List.set_cons_succ]
        refine take_at (i := 13) (v := vo) rfl rfl (by kernel_rfl) (by kernel_rfl) (by kernel_rfl) (fun _ _ _ h => h) (Or.inl ⟨by rfl, fun U hU => by go_simp⟩) hS ?_
        try simp only [List.setIfInBounds_toArray, List.set_cons_zero, List.set_cons_succ]
        refine take_at (i := 14) (v := .agg (ints .u8 rt)) rfl rfl (by kernel_rfl) (by kernel_rfl) (by kernel_rfl) (fun _ _ _ h => h) (Or.inl ⟨by rfl, fun U hU => by go_simp⟩) hS ?_
        try simp only [List.setIfInBounds_toArray, List.set_cons_zero, List.set_cons_succ]
        refine take_at (i := 15) (v := .bool true) rfl rfl (by kernel_rfl) (by kernel_rfl) (by kernel_rfl) (fun _ _ _ h => h) (Or.inl ⟨by rfl, fun U hU => by go_simp⟩) hS ?_
        try simp only [List.setIfInBounds_toArray, List.set_cons_zero, List.set_cons_succ]
        refine wpAnyH_ready (rs := [16]) (by kernel_rfl) (by simp) ?_
        refine AllReadyH.cons rfl (fun KQ hK => ?_) AllReadyH.nil
        rw [if_pos (by rfl)]
        go_simp
        have hgg := hS.size
        have hg := new_block (t := 28) Hy.out hS
        have ho := owns_below ho ((Below.refl _ _).alloc (Nat.le_refl _) (.cells #[.int .u8 0, .int .u8 0, .int .u8 0, .int .u8 0, .int .u8 0, .int .u8 0, .int .u8 0, .int .u8 0, .int .u8 0, .int .u8 0, .int .u8 0, .int .u8 0, .int .u8 0, .int .u8 0, .int .u8 0, .int .u8 0, .int .u8 0, .int .u8 0, .int .u8 0, .int .u8 0, .int .u8 0, .int .u8 0, .int .u8 0, .int .u8 0, .int .u8 0, .int .u8 0, .int .u8 0, .int .u8 0, .int .u8 0, .int .u8 0, .int .u8 0, .int .u8 0] 28))
        refine hK.out _ _ (hS.alloc hS.size _) (fun hS => ?_)
        clear hK
        refine take_at (i := 17) (v := vo) rfl rfl (by kernel_rfl) (by kernel_rfl) (by kernel_rfl) (fun _ _ _ h => h) (Or.inl ⟨by rfl, fun U hU => by go_simp⟩) hS ?_
        try simp only [List.setIfInBounds_toArray, List.set_cons_zero, List.set_cons_succ]
        refine wpAnyH_ready (rs := [18]) (by kernel_rfl) (by simp) ?_
        refine AllReadyH.cons rfl (fun KQ hK => ?_) AllReadyH.nil
        rw [if_pos (by rfl)]
        refine wp_store_row (o := ⟨none, _, _, _, _, _⟩) 28 _ _ rfl _ (ints .u8 rt) rfl rfl 28 (ints .u8 z32) hg (by rw [ints_size, Hrt.out]; exact sizeKey) (by rw [ints_size, ints_size, Hrt.out]; rfl) (ints_one _ _) ?_
        simp only [Act.put]
        have ho2 := owns_setRow_ne (cs := ints .u8 rt) (owns_ne ho hg (by decide)) ho
        obtain ⟨ap, cp, rfl, hP2⟩ := RdP.owned Hpo.out ho2
        refine hK.out _ _ (Below.setRow hS hgg _) (fun hS => ?_)
        clear hK
        refine take_at (i := 19) (v := .bool true) rfl rfl (by kernel_rfl) (by kernel_rfl) (by kernel_rfl) (fun _ _ _ h => h) (Or.inl ⟨by rfl, fun U hU => by go_simp⟩) hS ?_
        try simp only [List.setIfInBounds_toArray, List.set_cons_zero, List.set_cons_succ]
        refine wpAnyH_done (by kernel_rfl) ?_ _
        go_wp2_with fail
        go_meet
        exact ⟨_, _, _, rfl, rfl, setRow_heap _ _ _ _ _ _ hg, hP2, hS⟩
      · rw [if_pos (by rfl)]
        go_simp
        have hgg := hS.size
        have hg := new_block (t := 28) Hy.out hS
        have hy := hy.below ((Below.refl _ _).alloc (Nat.le_refl _) (.cells #[.int .u8 0, .int .u8 0, .int .u8 0, .int .u8 0, .int .u8 0, .int .u8 0, .int .u8 0, .int .u8 0, .int .u8 0, .int .u8 0, .int .u8 0, .int .u8 0, .int .u8 0, .int .u8 0, .int .u8 0, .int .u8 0, .int .u8 0, .int .u8 0, .int .u8 0, .int .u8 0, .int .u8 0, .int .u8 0, .int .u8 0, .int .u8 0, .int .u8 0, .int .u8 0, .int .u8 0, .int .u8 0, .int .u8 0, .int .u8 0, .int .u8 0, .int .u8 0] 28))
        refine hK.out _ _ (hS.alloc hS.size _) (fun hS => ?_)
        clear hK
        refine wpAnyH_ready (rs := [11]) (by kernel_rfl) (by simp) ?_
        refine AllReadyH.cons rfl (fun KQ hK => ?_) AllReadyH.nil
        rw [if_pos (by rfl)]
        go_simp
        refine (HOW.out _ _ _ hy).mono ?_
        rintro e u11 ⟨vo, rfl, ho, hb⟩
        have hg := keep_block hg hb
        refine hK.out _ _ (below_call hS hS.size hb) (fun hS => ?_)
        clear hb hK hy
        refine take_at (i := 12) (v := .tuple #[vo, .agg (ints .u8 rt), .bool true]) rfl rfl (by kernel_rfl) (by kernel_rfl) (by kernel_rfl) (fun _ _ _ h => h) (Or.inl ⟨by rfl, fun U hU => by go_simp⟩) hS ?_
        try simp only [List.setIfInBounds_toArray, List.set_cons_zero, List.set_cons_succ]
        refine take_at (i := 13) (v := vo) rfl rfl (by kernel_rfl) (by kernel_rfl) (by kernel_rfl) (fun _ _ _ h => h) (Or.inl ⟨by rfl, fun U hU => by go_simp⟩) hS ?_
        try simp only [List.setIfInBounds_toArray, List.set_cons_zero, List.set_cons_succ]
        refine take_at (i := 14) (v := .agg (ints .u8 rt)) rfl rfl (by kernel_rfl) (by kernel_rfl) (by kernel_rfl) (fun _ _ _ h => h) (Or.inl ⟨by rfl, fun U hU => by go_simp⟩) hS ?_
        try simp only [List.setIfInBounds_toArray, List.set_cons_zero, List.set_cons_succ]
        refine take_at (i := 15) (v := .bool true) rfl rfl (by kernel_rfl) (by kernel_rfl) (by kernel_rfl) (fun _ _ _ h => h) (Or.inl ⟨by rfl, fun U hU => by go_simp⟩) hS ?_
        try simp only [List.setIfInBounds_toArray, List.set_cons_zero, List.set_cons_succ]
        refine take_at (i := 17) (v := vo) rfl rfl (by kernel_rfl) (by kernel_rfl) (by kernel_rfl) (fun _ _ _ h => h) (Or.inl ⟨by rfl, fun U hU => by go_simp⟩) hS ?_
        try simp only [List.setIfInBounds_toArray, List.set_cons_zero, List.set_cons_succ]
        refine wpAnyH_ready (rs := [18]) (by kernel_rfl) (by simp) ?_
        refine AllReadyH.cons rfl (fun KQ hK => ?_) AllReadyH.nil
        rw [if_pos (by rfl)]
        refine wp_store_row (o := ⟨none, _, _, _, _, _⟩) 28 _ _ rfl _ (ints .u8 rt) rfl rfl 28 (ints .u8 z32) hg (by rw [ints_size, Hrt.out]; exact sizeKey) (by rw [ints_size, ints_size, Hrt.out]; rfl) (ints_one _ _) ?_
        simp only [Act.put]
        have ho2 := owns_setRow_ne (cs := ints .u8 rt) (owns_ne ho hg (by decide)) ho
        obtain ⟨ap, cp, rfl, hP2⟩ := RdP.owned Hpo.out ho2
        refine hK.out _ _ (Below.setRow hS hgg _) (fun hS => ?_)
        clear hK
        refine take_at (i := 19) (v := .bool true) rfl rfl (by kernel_rfl) (by kernel_rfl) (by kernel_rfl) (fun _ _ _ h => h) (Or.inl ⟨by rfl, fun U hU => by go_simp⟩) hS ?_
        try simp only [List.setIfInBounds_toArray, List.set_cons_zero, List.set_cons_succ]
        refine wpAnyH_done (by kernel_rfl) ?_ _
        go_wp2_with fail
        go_meet
        exact ⟨_, _, _, rfl, rfl, setRow_heap _ _ _ _ _ _ hg, hP2, hS⟩
    · rw [if_pos (by rfl)]
      go_simp
      have hgg := hS.size
      have hg := new_block (t := 28) Hy.out hS
      refine hK.out _ _ (hS.alloc hS.size _) (fun hS => ?_)
      clear hK
      refine wpAnyH_ready (rs := [9]) (by kernel_rfl) (by simp) ?_
      refine AllReadyH.cons rfl (fun KQ hK => ?_) AllReadyH.nil
      rw [if_pos (by rfl)]
      go_simp
      refine (HPf.out _ (B0.out.trans (hS.mono B0.out.size))).mono ?_
      rintro e u9 ⟨v1, rfl, ho1, hb⟩
      have hg := keep_block hg hb
      obtain ⟨a1, cp1, rfl, hy⟩ := RdK.owned Hyk.out ho1
      refine hK.out _ _ (below_call hS hS.size hb) (fun hS => ?_)
      clear hb hK ho1
      refine wpAnyH_ready (rs := [11]) (by kernel_rfl) (by simp) ?_
      refine AllReadyH.cons rfl (fun KQ hK => ?_) AllReadyH.nil
      rw [if_pos (by rfl)]
      go_simp
      refine (HOW.out _ _ _ hy).mono ?_
      rintro e u11 ⟨vo, rfl, ho, hb⟩
      have hg := keep_block hg hb
      refine hK.out _ _ (below_call hS hS.size hb) (fun hS => ?_)
      clear hb hK hy
      refine take_at (i := 12) (v := .tuple #[vo, .agg (ints .u8 rt), .bool true]) rfl rfl (by kernel_rfl) (by kernel_rfl) (by kernel_rfl) (fun _ _ _ h => h) (Or.inl ⟨by rfl, fun U hU => by go_simp⟩) hS ?_
      try simp only [List.setIfInBounds_toArray, List.set_cons_zero, List.set_cons_succ]
      refine take_at (i := 13) (v := vo) rfl rfl (by kernel_rfl) (by kernel_rfl) (by kernel_rfl) (fun _ _ _ h => h) (Or.inl ⟨by rfl, fun U hU => by go_simp⟩) hS ?_
      try simp only [List.setIfInBounds_toArray, List.set_cons_zero, List.set_cons_succ]
      refine take_at (i := 14) (v := .agg (ints .u8 rt)) rfl rfl (by kernel_rfl) (by kernel_rfl) (by kernel_rfl) (fun _ _ _ h => h) (Or.inl ⟨by rfl, fun U hU => by go_simp⟩) hS ?_
      try simp only [List.setIfInBounds_toArray, List.set_cons_zero, List.set_cons_succ]
      refine take_at (i := 15) (v := .bool true) rfl rfl (by kernel_rfl) (by kernel_rfl) (by kernel_rfl) (fun _ _ _ h => h) (Or.inl ⟨by rfl, fun U hU => by go_simp⟩) hS ?_
      try simp only [List.setIfInBounds_toArray, List.set_cons_zero, List.set_cons_succ]
      refine take_at (i := 17) (v := vo) rfl rfl (by kernel_rfl) (by kernel_rfl) (by kernel_rfl) (fun _ _ _ h => h) (Or.inl ⟨by rfl, fun U hU => by go_simp⟩) hS ?_
      try simp only [List.setIfInBounds_toArray, List.set_cons_zero, List.set_cons_succ]
      refine wpAnyH_ready (rs := [18]) (by kernel_rfl) (by simp) ?_
      refine AllReadyH.cons rfl (fun KQ hK => ?_) AllReadyH.nil
      rw [if_pos (by rfl)]
      refine wp_store_row (o := ⟨none, _, _, _, _, _⟩) 28 _ _ rfl _ (ints .u8 rt) rfl rfl 28 (ints .u8 z32) hg (by rw [ints_size, Hrt.out]; exact sizeKey) (by rw [ints_size, ints_size, Hrt.out]; rfl) (ints_one _ _) ?_
      simp only [Act.put]
      have ho2 := owns_setRow_ne (cs := ints .u8 rt) (owns_ne ho hg (by decide)) ho
      obtain ⟨ap, cp, rfl, hP2⟩ := RdP.owned Hpo.out ho2
      refine hK.out _ _ (Below.setRow hS hgg _) (fun hS => ?_)
      clear hK
      refine take_at (i := 19) (v := .bool true) rfl rfl (by kernel_rfl) (by kernel_rfl) (by kernel_rfl) (fun _ _ _ h => h) (Or.inl ⟨by rfl, fun U hU => by go_simp⟩) hS ?_
      try simp only [List.setIfInBounds_toArray, List.set_cons_zero, List.set_cons_succ]
      refine wpAnyH_done (by kernel_rfl) ?_ _
      go_wp2_with fail
      go_meet
      exact ⟨_, _, _, rfl, rfl, setRow_heap _ _ _ _ _ _ hg, hP2, hS⟩
  obtain ⟨ap, cp, g, rfl, rfl, hG, hPo, hBX⟩ := hcut
  have B6 := Lib.hid (below_call B0.out B0.out.size hBX)
  have A06 := Lib.hid (keep_block A0.out hBX)
  have A16 := Lib.hid (keep_block A1.out hBX)
  have G6 := Lib.hid hG
  have P6 := Lib.hid hPo
  clear hG hPo hBX
  go_wp2_with (refine wpList_load_row rfl 28 (.tmp 7) rfl w.heap.size rfl 28 (ints .u8 leaf) (0, 0) _ A06.out Try.underlying28 rfl (by rw [ints_size, HLL.out]; exact sizeKey) ?_)
  refine (HSH.out _ B6.out).mono ?_
  rintro e w7 ⟨vs, rfl, ho, hb⟩
  obtain ⟨aq, cs, rfl, hS7⟩ := RdP.owned Hps.out ho
  have S7 := Lib.hid hS7
  clear hS7 ho
  have B7 := Lib.hid (below_call B6.out B6.out.size hb)
  have A07 := Lib.hid (keep_block A06.out hb)
  have A17 := Lib.hid (keep_block A16.out hb)
  have G7 := Lib.hid (keep_block G6.out hb)
  have P7 := Lib.hid (P6.out.below hb)
  clear hb
  have LA := laid_below w7 (ints .u8 z32) (ints .u8 KY) 28
  have B8 := Lib.hid (below_call B7.out B7.out.size LA)
  have A08 := Lib.hid (keep_block A07.out LA)
  have A18 := Lib.hid (keep_block A17.out LA)
  have G8 := Lib.hid (keep_block G7.out LA)
  have P8 := Lib.hid (P7.out.below LA)
  have S8 := Lib.hid (S7.out.below LA)
  have F8 := Lib.hid (laid_new w7 (ints .u8 z32) (ints .u8 KY) 28)
  clear LA
  rw [Hy.out] at B8 A08 A18 G8 P8 S8 F8
  go_upto_region 10 with (first | (refine wpList_store_row rfl 28 (.tmp 17) _ rfl w7.heap.size (ints .u8 KY) rfl rfl 28 (ints .u8 z32) (by rw [Hy.out]; exact heap_alloc_last _ _) (by rw [ints_size, HKY.out]; exact sizeKey) (by rw [ints_size, ints_size, HKY.out]; rfl) (ints_one _ _) ?_) | (refine wpList_load_row_g2 (by rfl) 28 (.tmp 17) rfl w7.heap.size rfl 28 (ints .u8 KY) (0, 0) _ F8.out Try.underlying28 rfl (by rw [ints_size, HKY.out]; exact sizeKey) ?_) | (refine wpList_load_row_g2 (by rfl) 28 (.tmp 14) rfl g rfl 28 (ints .u8 rt) (0, 0) _ G8.out Try.underlying28 rfl (by rw [ints_size, Hrt.out]; exact sizeKey) ?_))
  clear heq
  generalize (w7.alloc (.cells #[.int .u8 0, .int .u8 0, .int .u8 0, .int .u8 0, .int .u8 0, .int .u8 0, .int .u8 0, .int .u8 0, .int .u8 0, .int .u8 0, .int .u8 0, .int .u8 0, .int .u8 0, .int .u8 0, .int .u8 0, .int .u8 0, .int .u8 0, .int .u8 0, .int .u8 0, .int .u8 0, .int .u8 0, .int .u8 0, .int .u8 0, .int .u8 0, .int .u8 0, .int .u8 0, .int .u8 0, .int .u8 0, .int .u8 0, .int .u8 0, .int .u8 0, .int .u8 0] 28)).setRow w7.heap.size (ints .u8 KY) = W8 at B8 A08 A18 P8 S8 ⊢
  clear G8 F8
  refine wp_region_held_drew (S := Below (W8).heap.size (W8)) (by kernel_rfl) ((Below.refl _ _).drew) (fun hS => ?_)
  refine take_at (i := 0) (v := .agg (ints .u8 leaf)) rfl rfl (by kernel_rfl) (by kernel_rfl) (by kernel_rfl) (fun _ _ _ h => h) (yields_box (by rfl) 28 _ rfl (w.heap.size) rfl _ 28 _ A08.out Try.underlying28 rfl (by rw [ints_size, HLL.out]; exact sizeKey)) hS ?_
  try simp only [List.setIfInBounds_toArray, List.set_cons_zero, List.set_cons_succ]
  refine take_at (i := 1) (v := .slice (some ⟨aa, ao, none⟩) n ca) rfl rfl (by kernel_rfl) (by kernel_rfl) (by kernel_rfl) (fun _ _ _ h => h) (Or.inl ⟨by rfl, fun U hU => by go_simp⟩) hS ?_
  try simp only [List.setIfInBounds_toArray, List.set_cons_zero, List.set_cons_succ]
  refine take_at (i := 2) (v := .int .i64 (j : Int)) rfl rfl (by kernel_rfl) (by kernel_rfl) (by kernel_rfl) (fun _ _ _ h => h) (Or.inl ⟨by rfl, fun U hU => by go_simp⟩) hS ?_
  try simp only [List.setIfInBounds_toArray, List.set_cons_zero, List.set_cons_succ]
  refine take_at (i := 3) (v := .pointer (some ⟨aa, ao + j * 32, none⟩)) rfl rfl (by kernel_rfl) (by kernel_rfl) (by kernel_rfl) (fun _ _ _ h => h) (Or.inl ⟨by rfl, fun U hU => by go_simp⟩) hS ?_
  try simp only [List.setIfInBounds_toArray, List.set_cons_zero, List.set_cons_succ]
  refine take_at (i := 4) (v := .agg (ints .u8 kx)) rfl rfl (by kernel_rfl) (by kernel_rfl) (by kernel_rfl) (fun _ _ _ h => h) (yieldsIf_load_mid (by rfl) 28 _ rfl aa (ao + j * 32) rfl (kx.map (Value.int .u8)) _ (fun U hU => rangeAt_below HKEY.out (B8.out.trans (hU.mono B8.out.size))) Try.underlying28 rfl (by rw [List.length_map, Hkx.out]; exact sizeKey)) hS ?_
  try simp only [List.setIfInBounds_toArray, List.set_cons_zero, List.set_cons_succ]
  refine take_at (i := 5) (v := .bool false) rfl rfl (by kernel_rfl) (by kernel_rfl) (by kernel_rfl) (fun _ _ _ h => h) (Or.inl ⟨by rfl, fun U hU => by have hq := Hq.out U; go_simp⟩) hS ?_
  try simp only [List.setIfInBounds_toArray, List.set_cons_zero, List.set_cons_succ]
  refine wpAnyH_done (by kernel_rfl) ?_ _
  have B9 := Lib.hid (B8.out.trans (hS.mono B8.out.size))
  have A19 := Lib.hid (keep_block A18.out hS)
  have P9 := Lib.hid (P8.out.below hS)
  have S9 := Lib.hid (S8.out.below hS)
  clear hS
  go_wp2_with fail
  go_loopw [81] (fun i wr => ∃ k : Nat, k ≤ C ∧ i = .int .i64 k ∧ Below w.heap.size w wr ∧ wr.heap[w.heap.size + 1]? = some (.cells (ints .u8 z128) 38) ∧ RdP wr ap K po ∧ RdP wr aq K ps) (fun i _ => C - (intOf i).toNat)
  case atStart => exact ⟨0, by omega, rfl, B9.out, A19.out, P9.out, S9.out⟩
  case round =>
    obtain ⟨k, hk, rfl, hb, hA, hp1, hp2⟩ := hrel
    have HB := Lib.hid hb
    have HA := Lib.hid hA
    have HP1 := Lib.hid hp1
    have HP2 := Lib.hid hp2
    obtain ⟨b1, rfl⟩ := hp1.form (by omega)
    obtain ⟨b2, rfl⟩ := hp2.form (by omega)
    have kK : k < K := by omega
    obtain ⟨x, y, u, v, hx, hy, hu, hv, e1, e2, hno, hyes⟩ := HCL.out k hk
    have HX := Lib.hid hx.1
    have HY := Lib.hid hy.1
    have HU := Lib.hid hu.1
    have HV := Lib.hid hv.1
    have HC4 := Lib.hid (four_len hx.1 hy.1 hu.1 hv.1)
    have HBU := Lib.hid (built_clash x y u v hx.1 hy.1 hu.1 hv.1)
    have HIS := Lib.hid (fun U => isclash_impl x y u v hx hy hu hv U)
    obtain ⟨q1, q2, q3⟩ := hp2.pair k kK
    rw [e2, List.take_left' hu.1, Nat.zero_add] at q1
    rw [e2, List.drop_left' hu.1, Nat.zero_add] at q2
    have RU := Lib.hid q1
    have RV := Lib.hid q2
    obtain ⟨r1, r2, r3⟩ := hp1.pair k kK
    rw [e1, Nat.zero_add] at r3
    have RW := Lib.hid r3
    have HPL : Hid ((x ++ y).length = 64) := Lib.hid (by simp [hx.1, hy.1])
    have LA := laid_below wr (ints .u8 z64) (ints .u8 (x ++ y)) 147
    have FN := laid_new wr (ints .u8 z64) (ints .u8 (x ++ y)) 147
    have f1 := row_part FN 0 (by rw [HPL.out]; omega)
    have f2 := row_part FN 32 (by rw [HPL.out]; omega)
    rw [List.drop_zero, List.take_left' hx.1] at f1
    rw [List.drop_left' hx.1, List.take_of_length_le (by rw [hy.1]; omega)] at f2
    have FX := Lib.hid f1
    have FY := Lib.hid f2
    have DB := Lib.hid (below_call HB.out HB.out.size LA)
    have DA := Lib.hid (keep_block HA.out LA)
    have D1 := Lib.hid (HP1.out.below LA)
    have D2 := Lib.hid (HP2.out.below LA)
    have DU := Lib.hid (rangeAt_below RU.out LA)
    have DV := Lib.hid (rangeAt_below RV.out LA)
    have b0 : (0 : Int) ≤ (k : Int) := by omega
    have b1' : (k : Int) < (K : Int) := by omega
    have HNO := Lib.hid hno
    have HYES := Lib.hid hyes
    clear hb hA hp1 hp2 hx hy hu hv e1 e2 q1 q2 q3 r1 r2 r3 f1 f2 FN LA hno hyes
    rw [Hw.out] at FX FY DB DA D1 D2 DU DV
    go_upto_region 15 with (first | (refine wpList_load_ints rfl 147 (.tmp 84) rfl b1 (k * 64) rfl .u8 (x ++ y) _ RW.out Try.underlying147 rfl (by rw [HPL.out]; exact sizePair) ?_) | (refine wpList_store_row rfl 147 (.tmp 20) _ rfl wr.heap.size (ints .u8 (x ++ y)) rfl rfl 147 (ints .u8 z64) (by rw [Hw.out]; exact heap_alloc_last _ _) (by rw [ints_size, HPL.out]; exact sizePair) (by rw [ints_size, ints_size, HPL.out]; rfl) (ints_one _ _) ?_))
    generalize (wr.alloc (.cells #[.int .u8 0, .int .u8 0, .int .u8 0, .int .u8 0, .int .u8 0, .int .u8 0, .int .u8 0, .int .u8 0, .int .u8 0, .int .u8 0, .int .u8 0, .int .u8 0, .int .u8 0, .int .u8 0, .int .u8 0, .int .u8 0, .int .u8 0, .int .u8 0, .int .u8 0, .int .u8 0, .int .u8 0, .int .u8 0, .int .u8 0, .int .u8 0, .int .u8 0, .int .u8 0, .int .u8 0, .int .u8 0, .int .u8 0, .int .u8 0, .int .u8 0, .int .u8 0, .int .u8 0, .int .u8 0, .int .u8 0, .int .u8 0, .int .u8 0, .int .u8 0, .int .u8 0, .int .u8 0, .int .u8 0, .int .u8 0, .int .u8 0, .int .u8 0, .int .u8 0, .int .u8 0, .int .u8 0, .int .u8 0, .int .u8 0, .int .u8 0, .int .u8 0, .int .u8 0, .int .u8 0, .int .u8 0, .int .u8 0, .int .u8 0, .int .u8 0, .int .u8 0, .int .u8 0, .int .u8 0, .int .u8 0, .int .u8 0, .int .u8 0, .int .u8 0] 147)).setRow wr.heap.size (ints .u8 (x ++ y)) = Wq at FX FY DB DA D1 D2 DU DV ⊢
    generalize wr.heap.size = gq at FX FY ⊢
    clear RU RV RW HP1 HP2 HA
    refine wp_region_held_drew (S := Below (Wq).heap.size (Wq)) (by kernel_rfl) ((Below.refl _ _).drew) (fun hS => ?_)
    refine take_at (i := 0) (v := .pointer (some ⟨gq, 0, none⟩)) rfl rfl (by kernel_rfl) (by kernel_rfl) (by kernel_rfl) (fun _ _ _ h => h) (Or.inl ⟨by rfl, fun U hU => by go_simp⟩) hS ?_
    try simp only [List.setIfInBounds_toArray, List.set_cons_zero, List.set_cons_succ]
    refine take_at (i := 1) (v := .agg (ints .u8 x)) rfl rfl (by kernel_rfl) (by kernel_rfl) (by kernel_rfl) (fun _ _ _ h => h) (yieldsIf_load_mid (by rfl) 28 _ rfl gq (0) rfl (x.map (Value.int .u8)) _ (fun U hU => rangeAt_below FX.out hU) Try.underlying28 rfl (by rw [List.length_map, HX.out]; exact sizeKey)) hS ?_
    try simp only [List.setIfInBounds_toArray, List.set_cons_zero, List.set_cons_succ]
    refine take_at (i := 2) (v := .pointer (some ⟨gq, 32, none⟩)) rfl rfl (by kernel_rfl) (by kernel_rfl) (by kernel_rfl) (fun _ _ _ h => h) (Or.inl ⟨by rfl, fun U hU => by go_simp⟩) hS ?_
    try simp only [List.setIfInBounds_toArray, List.set_cons_zero, List.set_cons_succ]
    refine take_at (i := 3) (v := .agg (ints .u8 y)) rfl rfl (by kernel_rfl) (by kernel_rfl) (by kernel_rfl) (fun _ _ _ h => h) (yieldsIf_load_mid (by rfl) 28 _ rfl gq (32) rfl (y.map (Value.int .u8)) _ (fun U hU => rangeAt_below FY.out hU) Try.underlying28 rfl (by rw [List.length_map, HY.out]; exact sizeKey)) hS ?_
    try simp only [List.setIfInBounds_toArray, List.set_cons_zero, List.set_cons_succ]
    refine take_at (i := 4) (v := .slice (some ⟨b2, 0, none⟩) K cs) rfl rfl (by kernel_rfl) (by kernel_rfl) (by kernel_rfl) (fun _ _ _ h => h) (Or.inl ⟨by rfl, fun U hU => by go_simp⟩) hS ?_
    try simp only [List.setIfInBounds_toArray, List.set_cons_zero, List.set_cons_succ]
    refine take_at (i := 5) (v := .int .i64 (k : Int)) rfl rfl (by kernel_rfl) (by kernel_rfl) (by kernel_rfl) (fun _ _ _ h => h) (Or.inl ⟨by rfl, fun U hU => by go_simp⟩) hS ?_
    try simp only [List.setIfInBounds_toArray, List.set_cons_zero, List.set_cons_succ]
    refine take_at (i := 6) (v := .pointer (some ⟨b2, k * 64, none⟩)) rfl rfl (by kernel_rfl) (by kernel_rfl) (by kernel_rfl) (fun _ _ _ h => h) (Or.inl ⟨by rfl, fun U hU => by go_simp⟩) hS ?_
    try simp only [List.setIfInBounds_toArray, List.set_cons_zero, List.set_cons_succ]
    refine take_at (i := 7) (v := .pointer (some ⟨b2, k * 64, none⟩)) rfl rfl (by kernel_rfl) (by kernel_rfl) (by kernel_rfl) (fun _ _ _ h => h) (Or.inl ⟨by rfl, fun U hU => by go_simp⟩) hS ?_
    try simp only [List.setIfInBounds_toArray, List.set_cons_zero, List.set_cons_succ]
    refine take_at (i := 8) (v := .agg (ints .u8 u)) rfl rfl (by kernel_rfl) (by kernel_rfl) (by kernel_rfl) (fun _ _ _ h => h) (yieldsIf_load_mid (by rfl) 28 _ rfl b2 (k * 64) rfl (u.map (Value.int .u8)) _ (fun U hU => rangeAt_below DU.out hU) Try.underlying28 rfl (by rw [List.length_map, HU.out]; exact sizeKey)) hS ?_
    try simp only [List.setIfInBounds_toArray, List.set_cons_zero, List.set_cons_succ]
    refine take_at (i := 9) (v := .slice (some ⟨b2, 0, none⟩) K cs) rfl rfl (by kernel_rfl) (by kernel_rfl) (by kernel_rfl) (fun _ _ _ h => h) (Or.inl ⟨by rfl, fun U hU => by go_simp⟩) hS ?_
    try simp only [List.setIfInBounds_toArray, List.set_cons_zero, List.set_cons_succ]
    refine take_at (i := 10) (v := .int .i64 (k : Int)) rfl rfl (by kernel_rfl) (by kernel_rfl) (by kernel_rfl) (fun _ _ _ h => h) (Or.inl ⟨by rfl, fun U hU => by go_simp⟩) hS ?_
    try simp only [List.setIfInBounds_toArray, List.set_cons_zero, List.set_cons_succ]
    refine take_at (i := 11) (v := .pointer (some ⟨b2, k * 64, none⟩)) rfl rfl (by kernel_rfl) (by kernel_rfl) (by kernel_rfl) (fun _ _ _ h => h) (Or.inl ⟨by rfl, fun U hU => by go_simp⟩) hS ?_
    try simp only [List.setIfInBounds_toArray, List.set_cons_zero, List.set_cons_succ]
    refine take_at (i := 12) (v := .pointer (some ⟨b2, k * 64 + 32, none⟩)) rfl rfl (by kernel_rfl) (by kernel_rfl) (by kernel_rfl) (fun _ _ _ h => h) (Or.inl ⟨by rfl, fun U hU => by go_simp⟩) hS ?_
    try simp only [List.setIfInBounds_toArray, List.set_cons_zero, List.set_cons_succ]
    refine take_at (i := 13) (v := .agg (ints .u8 v)) rfl rfl (by kernel_rfl) (by kernel_rfl) (by kernel_rfl) (fun _ _ _ h => h) (yieldsIf_load_mid (by rfl) 28 _ rfl b2 (k * 64 + 32) rfl (v.map (Value.int .u8)) _ (fun U hU => rangeAt_below DV.out hU) Try.underlying28 rfl (by rw [List.length_map, HV.out]; exact sizeKey)) hS ?_
    try simp only [List.setIfInBounds_toArray, List.set_cons_zero, List.set_cons_succ]
    refine take_at (i := 14) (v := .agg (ints .u8 (x ++ (y ++ (u ++ v))))) rfl rfl (by kernel_rfl) (by kernel_rfl) (by kernel_rfl) (fun _ _ _ h => h) (yields_built (by rfl) 38 _ (ints .u8 (x ++ (y ++ (u ++ v)))) rfl (by simp only [List.map_toArray, List.map_cons, List.map_nil]; exact HBU.out)) hS ?_
    try simp only [List.setIfInBounds_toArray, List.set_cons_zero, List.set_cons_succ]
    refine wpAnyH_ready (rs := [15]) (by kernel_rfl) (by simp) ?_
    refine AllReadyH.cons rfl (fun KQ hK => ?_) AllReadyH.nil
    rw [if_pos (by rfl)]
    go_simp
    have hg := new_block (t := 38) Hz.out hS
    have hgg := hS.size
    refine hK.out _ _ (hS.alloc hS.size _) (fun hS => ?_)
    clear hK
    refine wpAnyH_ready (rs := [16]) (by kernel_rfl) (by simp) ?_
    refine AllReadyH.cons rfl (fun KQ hK => ?_) AllReadyH.nil
    rw [if_pos (by rfl)]
    refine wp_store_row (o := ⟨none, _, _, _, _, _⟩) 38 _ _ rfl _ (ints .u8 (x ++ (y ++ (u ++ v)))) rfl rfl 38 (ints .u8 z128) hg (by rw [ints_size, HC4.out]; exact sizeClash) (by rw [ints_size, ints_size, HC4.out]; rfl) (ints_one _ _) ?_
    simp only [Act.put]
    have hG2 := setRow_heap _ _ (ints .u8 z128) (ints .u8 (x ++ (y ++ (u ++ v)))) _ _ hg
    refine hK.out _ _ (Below.setRow hS hgg _) (fun hS => ?_)
    clear hK hg
    refine wpAnyH_done (by kernel_rfl) ?_ _
    have EB := Lib.hid (DB.out.trans (hS.mono DB.out.size))
    have EA := Lib.hid (keep_block DA.out hS)
    have E1 := Lib.hid (D1.out.below hS)
    have E2 := Lib.hid (D2.out.below hS)
    have EG := Lib.hid hG2
    clear hS hG2 hgg
    cases hc : clB x y u v with
    | true =>
      have hsc := HYES.out hc
      rw [hc] at HIS
      go_wp2_with (refine wpList_load_row rfl 38 (.tmp 21) rfl _ rfl 38 (ints .u8 (x ++ (y ++ (u ++ v)))) (0, 0) _ EG.out Try.underlying38 rfl (by rw [ints_size, HC4.out]; exact sizeClash) ?_)
      refine (HIS.out _).mono ?_
      rintro e w9 ⟨rfl, hb⟩
      have FB := Lib.hid (below_call EB.out EB.out.size hb)
      have FA := Lib.hid (keep_block EA.out hb)
      have FG := Lib.hid (keep_block EG.out hb)
      clear hb
      subst hsc
      go_wp2_with (first | (refine wpList_load_row rfl 38 (.tmp 21) rfl _ rfl 38 (ints .u8 (x ++ (y ++ (u ++ v)))) (0, 0) _ FG.out Try.underlying38 rfl (by rw [ints_size, HC4.out]; exact sizeClash) ?_) | (refine wpList_store_row rfl 38 (.tmp 10) _ rfl (w.heap.size + 1) (ints .u8 (x ++ (y ++ (u ++ v)))) rfl rfl 38 (ints .u8 z128) FA.out (by rw [ints_size, HC4.out]; exact sizeClash) (by rw [ints_size, ints_size, HC4.out]; rfl) (ints_one _ _) ?_))
      refine bodyPost_ret (results_cell2_row rfl _ _ (w.heap.size + 1) 38 (ints .u8 (x ++ (y ++ (u ++ v)))) (0, 0) _ rfl (setRow_heap _ _ (ints .u8 z128) _ _ _ FA.out) Try.underlying38 rfl (by rw [ints_size, HC4.out]; exact sizeClash)) rfl ⟨rfl, ?_⟩
      exact Below.setRow FB.out (by omega) _
    | false =>
      have hlt := HNO.out hc
      rw [hc] at HIS
      go_wp2_with (refine wpList_load_row rfl 38 (.tmp 21) rfl _ rfl 38 (ints .u8 (x ++ (y ++ (u ++ v)))) (0, 0) _ EG.out Try.underlying38 rfl (by rw [ints_size, HC4.out]; exact sizeClash) ?_)
      refine (HIS.out _).mono ?_
      rintro e w9 ⟨rfl, hb⟩
      have FB := Lib.hid (below_call EB.out EB.out.size hb)
      have FA := Lib.hid (keep_block EA.out hb)
      have F1 := Lib.hid (E1.out.below hb)
      have F2 := Lib.hid (E2.out.below hb)
      clear hb
      go_wp2_with fail
      go_roundw
      case rel => exact ⟨k + 1, by omega, by go_num, FB.out, FA.out, F1.out, F2.out⟩
      case measure => simp [intOf]; omega
end Go.Proofs.Ytjijgckljjcfiaa
namespace Go.Proofs.Ytjijgckljjcfiaa
open Go.ChangeShapes Go.WideShapes Go.ChangeAt Go.RowKit
set_option linter.unusedVariables false
set_option linter.unusedSimpArgs false
theorem pky_range {fl : List Int} (fb : ∀ z ∈ fl, 0 ≤ z ∧ z ≤ 255) (n b i : Nat) : ∀ z ∈ pky fl (tns b n i), 0 ≤ z ∧ z ≤ 255 := by
  intro z hz
  unfold pky at hz
  obtain ⟨t, ht, hz⟩ := List.mem_flatMap.1 hz
  have := tns_mem n b i t (List.mem_reverse.1 ht)
  unfold tky at hz
  exact tkey_range (by omega) (fun _ _ => keyAt_range fb _) z hz
theorem spV_four {n P : Nat} {i : Int} {leaf fl gl : List Int} (hl : Is32 leaf) (hf : fl.length = 32 * n) (hg : gl.length = 32 * P) (fb : ∀ z ∈ fl, 0 ≤ z ∧ z ≤ 255) (gb : ∀ z ∈ gl, 0 ≤ z ∧ z ≤ 255) :
    ∃ x y u v, spV n i leaf P fl gl = x ++ (y ++ (u ++ v)) ∧ x.length = 32 ∧ y.length = 32 ∧ u.length = 32 ∧ v.length = 32 := by
  have h0 : ∃ x y u v : List Int, z128 = x ++ (y ++ (u ++ v)) ∧ x.length = 32 ∧ y.length = 32 ∧ u.length = 32 ∧ v.length = 32 := ⟨z32, z32, z32, z32, by decide, by decide, by decide, by decide, by decide⟩
  unfold spV
  split
  · exact h0
  · split
    · rename_i h2
      obtain ⟨j, rfl⟩ := Int.eq_ofNat_of_zero_le h2.1
      rw [Int.toNat_natCast]
      split
      · rename_i h3
        split
        · exact h0
        · obtain ⟨sx, sy, su, sv, hsc, hsx, hsy, hsu, hsv⟩ := shR_len (kf := keyAt fl) (pk := keyAt gl) hl n 0 j (by omega) (fun m hm => ⟨keyAt_len hf (by omega), keyAt_range fb _⟩) (fun m hm => ⟨keyAt_len hg (by omega), keyAt_range gb _⟩)
          exact ⟨sx, sy, su, sv, hsc, hsx.1, hsy.1, hsu.1, hsv.1⟩
      · exact h0
    · exact h0
theorem spV_len {n P : Nat} {i : Int} {leaf fl gl : List Int} (hl : Is32 leaf) (hf : fl.length = 32 * n) (hg : gl.length = 32 * P) (fb : ∀ z ∈ fl, 0 ≤ z ∧ z ≤ 255) (gb : ∀ z ∈ gl, 0 ≤ z ∧ z ≤ 255) : (spV n i leaf P fl gl).length = 128 := by
  obtain ⟨x, y, u, v, h, hx, hy, hu, hv⟩ := spV_four (i := i) hl hf hg fb gb
  rw [h]; exact four_len hx hy hu hv
theorem cof_impl (a b : Option Addr) (n P ca cb : Nat) (i : Int) (leaf fl gl : List Int) (hn0 : n ≤ 1048576) (hP : P ≤ 1048576) (hca : n ≤ ca) (hcb : P ≤ cb) (hma : ca ≤ maxLen) (hmb : cb ≤ maxLen) (hl : Is32 leaf) (fb : ∀ z ∈ fl, 0 ≤ z ∧ z ≤ 255) (gb : ∀ z ∈ gl, 0 ≤ z ∧ z ≤ 255) (w : World) (hr : RdK w a n fl) (hs : RdK w b P gl) :
    Calls Try.prog 67 #[.slice a n ca, .int .i64 i, .agg (ints .u8 leaf), .slice b P cb, .func (.func 46) #[] #[]] w fun e w' => e = .returned (.tuple #[.agg (ints .u8 (spV n i leaf P fl gl)), .int .i64 (spE n i leaf P fl gl)]) ∧ Below w.heap.size w w' := by
  unfold spV spE
  by_cases h : 256 < n ∨ 256 < P
  · rw [if_pos h, if_pos h]
    exact cof_lim a b n P ca cb i leaf hn0 hP h w
  · rw [if_neg h, if_neg h]
    have hn : n ≤ 256 := by omega
    have hP' : P ≤ 256 := by omega
    by_cases h2 : 0 ≤ i ∧ i < (n : Int)
    · rw [if_pos h2, if_pos h2]
      obtain ⟨j, rfl⟩ := Int.eq_ofNat_of_zero_le h2.1
      rw [Int.toNat_natCast]
      obtain ⟨aa, ao, rfl⟩ := hr.form (by omega)
      have j2 : j < n := by omega
      have kx32 : Is32 (keyAt fl j) := ⟨keyAt_len hr.1 j2, keyAt_range fb _⟩
      obtain ⟨oL, oY, oK, oS⟩ := own_way1 (gl := gl) (leaf := leaf) hr.1 j2
      have yR := pky_range fb n 0 j
      have HDL := dN_le n j
      have oY' : (pky fl (tns 0 n j)).length = 32 * (tns 0 n j).length := by rw [oL]; exact oY
      have rt32 := tkey32 (b := 0) (n := n) hr.1 fb (by omega) (by omega)
      have yk32 : ∀ q, q < (tns 0 n j).length → Is32 (keyAt (pky fl (tns 0 n j)) q) := fun q hq => ⟨keyAt_len oY' hq, keyAt_range yR _⟩
      have hpo := prs_len (pk := keyAt (pky fl (tns 0 n j))) kx32 (tns 0 n j) (fun q hq => (yk32 q hq).1)
      have HKEY := hr.key j j2
      have HPf := fun U (hU : Below w.heap.size w U) => proof_impl aa ao n ca j fl j2 (by omega) hca hma fb U (hr.below hU)
      have HOw := fun U a' cp hh => pairs_yes n j j2 (by omega) (keyAt fl j) kx32 a' (tns 0 n j).length cp (pky fl (tns 0 n j)) yR rfl U hh
      rw [oK] at HOw
      by_cases hPd : P = (tns 0 n j).length
      · have hg : gl.length = 32 * (tns 0 n j).length := by rw [hs.1, hPd]
        have gk32 : ∀ q, q < (tns 0 n j).length → Is32 (keyAt gl q) := fun q hq => ⟨keyAt_len hg hq, keyAt_range gb _⟩
        have hps := prs_len (pk := keyAt gl) hl (tns 0 n j) (fun q hq => (gk32 q hq).1)
        have KY32 := lds32 (pk := keyAt gl) hl (tns 0 n j)
        have HSh := fun U (hU : Below w.heap.size w U) => pairs_yes n j j2 (by omega) leaf hl b P cb gl gb hPd U (hs.below hU)
        rw [hPd] at HSh
        have hand : (P = dN n j ∧ ldN (keyAt gl) leaf n j = tkey (keyAt fl) 0 n) = (lds (keyAt gl) leaf (tns 0 n j) = tkey (keyAt fl) 0 n) := by
          rw [oS]; exact propext ⟨fun h => h.2, fun h => ⟨by rw [hPd, oL], h⟩⟩
        simp only [hand]
        by_cases he : lds (keyAt gl) leaf (tns 0 n j) = tkey (keyAt fl) 0 n
        · rw [if_pos he, if_pos he]
          by_cases hx : leaf = keyAt fl j
          · rw [if_pos hx, if_pos hx]
            exact cof_nf aa ao n ca j P cb _ b leaf _ _ _ _ w hn hP' j2 (by omega) hl.1 kx32.1 rt32.1 oY' hpo HKEY HPf HOw _ _ KY32.1 hps (by rw [hPd] at *; exact HSh) he hx
          · rw [if_neg hx, if_neg hx]
            obtain ⟨C, hC, HCl⟩ := first_clash (po := keyAt (pky fl (tns 0 n j))) (ps := keyAt gl) (tns 0 n j) _ _ kx32 hl (fun e => hx e.symm) yk32 gk32 (by rw [oK, he]) (own_way2 hl hr.1 j2 (by rw [hg, oL]))
            exact cof_yes aa ao n ca j P cb _ b leaf _ _ _ _ w hn hP' j2 (by omega) hl.1 kx32.1 rt32.1 oY' hpo HKEY HPf HOw _ _ KY32.1 hps (by rw [hPd] at *; exact HSh) he hx C _ hC HCl
        · rw [if_neg he, if_neg he]
          exact cof_ne aa ao n ca j P cb _ b leaf _ _ _ _ w hn hP' j2 (by omega) hl.1 kx32.1 rt32.1 oY' hpo HKEY HPf HOw _ _ KY32.1 hps (by rw [hPd] at *; exact HSh) he
      · have hand : ¬ (P = dN n j ∧ ldN (keyAt gl) leaf n j = tkey (keyAt fl) 0 n) := fun h => hPd (by rw [oL]; exact h.1)
        rw [if_neg hand, if_neg hand]
        exact cof_no aa ao n ca j P cb _ b leaf _ _ _ _ w hn hP' j2 (by omega) hl.1 kx32.1 rt32.1 oY' hpo HKEY HPf HOw (fun U => pairs_no n j j2 (by omega) leaf b P cb hP hPd U)
    · rw [if_neg h2, if_neg h2]
      exact cof_rng a b n P ca cb i leaf hn hP' h2 w
set_option maxRecDepth 100000 in
set_option maxHeartbeats 16000000 in
theorem cop_impl (a b : Option Addr) (n P ca cb : Nat) (i : Int) (leaf fl gl : List Int) (hn0 : n ≤ 1048576) (hP : P ≤ 1048576) (hca : n ≤ ca) (hcb : P ≤ cb) (hma : ca ≤ maxLen) (hmb : cb ≤ maxLen) (hl : Is32 leaf) (fb : ∀ z ∈ fl, 0 ≤ z ∧ z ≤ 255) (gb : ∀ z ∈ gl, 0 ≤ z ∧ z ≤ 255) (w : World) (hr : RdK w a n fl) (hs : RdK w b P gl) :
    Calls Try.prog 22 #[.slice a n ca, .int .i64 i, .agg (ints .u8 leaf), .slice b P cb] w fun e w' => e = .returned (.tuple #[.agg (ints .u8 (spV n i leaf P fl gl)), .int .i64 (spE n i leaf P fl gl)]) ∧ Below w.heap.size w w' := by
  have Hz := Lib.hid z128_ints
  have HLL := Lib.hid hl.1
  have A0 := Lib.hid (heap_alloc2_old w (.cells (ints .u8 leaf) 28) (.cells (ints .u8 z128) 38))
  have A1 := Lib.hid (heap_alloc2_new w (.cells (ints .u8 leaf) 28) (.cells (ints .u8 z128) 38))
  have B0 := Lib.hid (((Below.refl w.heap.size w).alloc (Nat.le_refl _) (.cells (ints .u8 leaf) 28)).alloc (by simp) (.cells (ints .u8 z128) 38))
  obtain ⟨W0, hW0⟩ : ∃ W0, (w.alloc (.cells (ints .u8 leaf) 28)).alloc (.cells (ints .u8 z128) 38) = W0 := ⟨_, rfl⟩
  rw [hW0] at A0 A1 B0
  rw [Hz.out] at hW0
  have HC := Lib.hid (cof_impl a b n P ca cb i leaf fl gl hn0 hP hca hcb hma hmb hl fb gb W0 (hr.below B0.out) (hs.below B0.out))
  have HV := Lib.hid (spV_len (i := i) hl hr.1 hs.1 fb gb)
  generalize spV n i leaf P fl gl = V at HC HV ⊢
  generalize spE n i leaf P fl gl = E at HC ⊢
  clear hr hs hl fb gb
  go_enter Try.func22, Try.ntmps22
  go_wp2_with (refine wpList_load_row rfl 28 (.tmp 6) rfl w.heap.size rfl 28 (ints .u8 leaf) (0, 0) _ A0.out Try.underlying28 rfl (by rw [ints_size, HLL.out]; exact sizeKey) ?_)
  clear hW0
  refine HC.out.mono ?_
  rintro x w1 ⟨rfl, hb⟩
  have B1 := Lib.hid (below_call B0.out B0.out.size hb)
  have A2 := Lib.hid (keep_block A1.out hb)
  clear hb
  go_wp2_with (refine wpList_store_row rfl 38 _ _ rfl (w.heap.size + 1) (ints .u8 V) rfl rfl 38 (ints .u8 z128) A2.out (by rw [ints_size, HV.out]; exact sizeClash) (by rw [ints_size, ints_size, HV.out]; rfl) (ints_one _ _) ?_)
  refine bodyPost_ret (results_cell2_row rfl _ _ (w.heap.size + 1) 38 (ints .u8 V) (0, 0) _ rfl (setRow_heap _ _ (ints .u8 z128) _ _ _ A2.out) Try.underlying38 rfl (by rw [ints_size, HV.out]; exact sizeClash)) rfl ⟨rfl, ?_⟩
  exact Below.setRow B1.out (by omega) _
end Go.Proofs.Ytjijgckljjcfiaa
namespace Go.Proofs.Ytjijgckljjcfiaa
open Go.ChangeShapes Go.WideShapes Go.ChangeAt Go.RowKit
set_option linter.unusedVariables false
set_option linter.unusedSimpArgs false
def pfE (n : Nat) (i : Int) : Int := if 256 < n then 3 else if 0 ≤ i ∧ i < (n : Int) then 0 else 2
def pfN (n : Nat) (i : Int) : Nat := if 256 < n then 0 else if 0 ≤ i ∧ i < (n : Int) then dN n i.toNat else 0
def pfV (fl : List Int) (n : Nat) (i : Int) : List Int := if 256 < n then [] else if 0 ≤ i ∧ i < (n : Int) then prf (keyAt fl) 0 n i.toNat else []
theorem pfN_le (n : Nat) (i : Int) : pfN n i ≤ 256 := by
  unfold pfN
  split
  · omega
  · split
    · have := dN_le n i.toNat; omega
    · omega
theorem pfV_len {fl : List Int} {n : Nat} {i : Int} (h : fl.length = 32 * n) : (pfV fl n i).length = 32 * pfN n i := by
  unfold pfV pfN
  split
  · rfl
  · split
    · rename_i h2
      exact prf_len n 0 i.toNat (by omega) (fun j hj => by rw [Nat.zero_add]; exact keyAt_len h hj)
    · rfl
set_option maxRecDepth 100000 in
set_option maxHeartbeats 2000000 in
theorem pf_spec (a : Option Addr) (n cap : Nat) (fl : List Int) (i : Int) (hn : n ≤ 1048576) (hc : n ≤ cap) (hm : cap ≤ maxLen) (fb : ∀ z ∈ fl, 0 ≤ z ∧ z ≤ 255) (w : World) (hr : RdK w a n fl) :
    Calls Try.prog 38 #[.slice a n cap, .int .i64 i] w fun e w' => ∃ v, e = .returned (.tuple #[v, .int .i64 (pfE n i)]) ∧ w'.ownsRow w.heap.size 28 32 v (pfN n i) ((pfV fl n i).map (Value.int .u8)) ∧ Below w.heap.size w w' := by
  unfold pfE pfN pfV
  by_cases h : 256 < n
  · rw [if_pos h, if_pos h, if_pos h]
    have h1 : (256 : Int) < (n : Int) := by omega
    have O1 := Lib.hid (owns_empty w 28 32)
    have B1 := Lib.hid ((Below.refl w.heap.size w).alloc (Nat.le_refl _) (.cells #[] 28))
    go_enter Try.func38, Try.ntmps38
    go_wp2_with fail
    go_ret2
    exact ⟨_, rfl, O1.out, B1.out⟩
  · rw [if_neg h, if_neg h, if_neg h]
    have h1 : (n : Int) ≤ (256 : Int) := by omega
    have h0 : (0 : Int) ≤ (n : Int) := by omega
    by_cases h2 : 0 ≤ i ∧ i < (n : Int)
    · rw [if_pos h2, if_pos h2, if_pos h2]
      obtain ⟨j, rfl⟩ := Int.eq_ofNat_of_zero_le h2.1
      obtain ⟨b, o, rfl⟩ := hr.form (by omega)
      rw [Int.toNat_natCast]
      have Hb := Lib.hid (fun W => in_true (j : Int) 0 ((n : Int) - 1) h2.1 (by omega) W)
      have Hp := Lib.hid (proof_spec n b o cap j fl w (by omega) (by omega) hc hm fb hr)
      generalize dN n j = N at Hp ⊢
      generalize prf (keyAt fl) 0 n j = V at Hp ⊢
      clear h2 hr fb
      go_enter Try.func38, Try.ntmps38
      go_wp2_with fail
      refine (Hb.out _).mono ?_
      rintro e w1 ⟨rfl, rfl⟩
      go_wp2_with fail
      refine Hp.out.mono ?_
      rintro e w1 ⟨v, rfl, ho, hb⟩
      have O1 := Lib.hid ho
      have B1 := Lib.hid hb
      clear ho hb
      go_wp2_with fail
      go_ret2
      exact ⟨_, rfl, O1.out, B1.out⟩
    · rw [if_neg h2, if_neg h2, if_neg h2]
      have Hb := Lib.hid (fun W => in_false i 0 ((n : Int) - 1) (by omega) W)
      have O1 := Lib.hid (owns_empty w 28 32)
      have B1 := Lib.hid ((Below.refl w.heap.size w).alloc (Nat.le_refl _) (.cells #[] 28))
      clear h2 hr fb
      go_enter Try.func38, Try.ntmps38
      go_wp2_with fail
      refine (Hb.out _).mono ?_
      rintro e w1 ⟨rfl, rfl⟩
      go_wp2_with fail
      go_ret2
      exact ⟨_, rfl, O1.out, B1.out⟩
set_option maxRecDepth 100000 in
set_option maxHeartbeats 2000000 in
theorem pf_impl (a : Option Addr) (n cap : Nat) (fl : List Int) (i : Int) (hn : n ≤ 1048576) (hc : n ≤ cap) (hm : cap ≤ maxLen) (fb : ∀ z ∈ fl, 0 ≤ z ∧ z ≤ 255) (w : World) (hr : RdK w a n fl) :
    Calls Try.prog 19 #[.slice a n cap, .int .i64 i] w fun e w' => ∃ v, e = .returned (.tuple #[v, .int .i64 (pfE n i)]) ∧ w'.ownsRow w.heap.size 28 32 v (pfN n i) ((pfV fl n i).map (Value.int .u8)) ∧ Below w.heap.size w w' := by
  unfold pfE pfN pfV
  by_cases h : 256 < n
  · rw [if_pos h, if_pos h, if_pos h]
    have h1 : (256 : Int) < (n : Int) := by omega
    go_enter Try.func19, Try.ntmps19
    go_wp2_with fail
    go_ret2
    exact ⟨_, rfl, World.ownsRow_nil _ _ _ _, Below.refl _ _⟩
  · rw [if_neg h, if_neg h, if_neg h]
    have h1 : (n : Int) ≤ (256 : Int) := by omega
    have h0 : (0 : Int) ≤ (n : Int) := by omega
    by_cases h2 : 0 ≤ i ∧ i < (n : Int)
    · rw [if_pos h2, if_pos h2, if_pos h2]
      obtain ⟨j, rfl⟩ := Int.eq_ofNat_of_zero_le h2.1
      obtain ⟨b, o, rfl⟩ := hr.form (by omega)
      rw [Int.toNat_natCast]
      have Hb := Lib.hid (fun W => place_yes (n : Int) (j : Int) h2.1 h2.2 W)
      have hp := proof_impl b o n cap j fl (by omega) (by omega) hc hm fb w hr
      have e1 := tns_dN n 0 j (Nat.zero_le _)
      have e2 := prf_tns fl n 0 j (Nat.zero_le _)
      rw [Nat.sub_zero] at e1 e2
      rw [e1, ← e2] at hp
      have Hp := Lib.hid hp
      clear hp e1 e2
      generalize dN n j = N at Hp ⊢
      generalize prf (keyAt fl) 0 n j = V at Hp ⊢
      clear h2 hr fb
      go_enter Try.func19, Try.ntmps19
      go_wp2_with fail
      refine (Hb.out _).mono ?_
      rintro e w1 ⟨rfl, rfl⟩
      go_wp2_with fail
      refine Hp.out.mono ?_
      rintro e w1 ⟨v, rfl, ho, hb⟩
      have O1 := Lib.hid ho
      have B1 := Lib.hid hb
      clear ho hb
      go_wp2_with fail
      go_ret2
      exact ⟨_, rfl, O1.out, B1.out⟩
    · rw [if_neg h2, if_neg h2, if_neg h2]
      have Hb := Lib.hid (fun W => place_no (n : Int) i h2 W)
      clear h2 hr fb
      go_enter Try.func19, Try.ntmps19
      go_wp2_with fail
      refine (Hb.out _).mono ?_
      rintro e w1 ⟨rfl, rfl⟩
      go_wp2_with fail
      go_ret2
      exact ⟨_, rfl, World.ownsRow_nil _ _ _ _, Below.refl _ _⟩
end Go.Proofs.Ytjijgckljjcfiaa
namespace Go.Proofs.Ytjijgckljjcfiaa
open Go.ChangeShapes Go.WideShapes Go.ChangeAt Go.RowKit
set_option linter.unusedVariables false
theorem dec_yes {p q : List Int} (h : p = q) : decide (p = q) = true := decide_eq_true h
theorem dec_no2 {a b c d : List Int} (h : a ≠ c ∨ b ≠ d) : decide (a = c ∧ b = d) = false := decide_eq_false (fun e => by rcases h with h | h; exact h e.1; exact h e.2)
theorem valid_cl {V : List Int} (h : isCl V) (U : World) : Calls Try.prog 23 #[.agg (ints .u8 V)] U fun z w' => z = .returned (.bool true) ∧ Below U.heap.size U w' := by
  obtain ⟨x, y, u, v, rfl, i1, i2, i3, i4, i5, i6⟩ := h
  have H := valid_spec x y u v i1 i2 i3 i4 U
  have e1 := dec_no2 i5
  have e2 := dec_yes i6
  generalize decide (nodeK x y = nodeK u v) = d2 at H e2
  generalize decide (x = u ∧ y = v) = d1 at H e1
  subst e1 e2
  exact H
end Go.Proofs.Ytjijgckljjcfiaa
namespace Go.Proofs.Ytjijgckljjcfiaa
open Go.ChangeShapes Go.WideShapes Go.ChangeAt Go.RowKit
set_option linter.unusedVariables false
set_option linter.unusedSimpArgs false
theorem prf_own {fl : List Int} {n i : Nat} (hl : fl.length = 32 * n) (hi : i < n) : ldN (keyAt (prf (keyAt fl) 0 n i)) (keyAt fl i) n i = tkey (keyAt fl) 0 n := by
  have := own_lead (kf := keyAt fl) (pk := keyAt (prf (keyAt fl) 0 n i)) n 0 i hi (fun j hj => by rw [Nat.zero_add]; exact keyAt_len hl hj) (fun j _ => rfl)
  rwa [Nat.zero_add] at this
theorem lp_len {fl : List Int} {n i : Nat} (hl : fl.length = 32 * n) (hi : i < n) : (prf (keyAt fl) 0 n i).length = 32 * dN n i :=
  prf_len n 0 i hi (fun j hj => by rw [Nat.zero_add]; exact keyAt_len hl hj)
theorem lp_range {fl : List Int} (fb : ∀ z ∈ fl, 0 ≤ z ∧ z ≤ 255) (n i : Nat) : ∀ z ∈ prf (keyAt fl) 0 n i, 0 ≤ z ∧ z ≤ 255 := by
  have e := prf_tns fl n 0 i (Nat.zero_le _)
  rw [Nat.sub_zero] at e
  rw [e]
  exact pky_range fb n 0 i
theorem lp_leaf {n i : Nat} (hn : n ≤ 256) (hi : i < n) : isLf (n : Int) (i : Int) := ⟨by omega, by omega, by omega⟩
theorem lp_yes {fl : List Int} {n i : Nat} (hl : fl.length = 32 * n) (hi : i < n) (hn : n ≤ 256) :
    cpV (tkey (keyAt fl) 0 n) (n : Int) (i : Int) (keyAt fl i) (dN n i) (prf (keyAt fl) 0 n i) = true ∧ cpE (n : Int) (i : Int) (dN n i) = 0 := by
  have hd := dN_le n i
  have hP : ¬ 256 < dN n i := by omega
  unfold cpV cpE
  rw [if_neg hP, if_neg hP, if_pos (lp_leaf hn hi), if_pos (lp_leaf hn hi), Int.toNat_natCast, Int.toNat_natCast, prf_own hl hi]
  simp
theorem lp_long {root leaf gl : List Int} {n i : Nat} (hi : i < n) (hn : n ≤ 200) :
    cpV root (n : Int) (i : Int) leaf (dN n i + 1) gl = false ∧ cpE (n : Int) (i : Int) (dN n i + 1) = 0 := by
  have hd := dN_le n i
  have hP : ¬ 256 < dN n i + 1 := by omega
  unfold cpV cpE
  rw [if_neg hP, if_neg hP, if_pos (lp_leaf (by omega) hi), if_pos (lp_leaf (by omega) hi), Int.toNat_natCast, Int.toNat_natCast, decide_eq_false (by omega)]
  simp
theorem lp_out {root leaf gl : List Int} {n P : Nat} (hP : P ≤ 256) :
    cpV root (n : Int) (n : Int) leaf P gl = false ∧ cpE (n : Int) (n : Int) P = 2 := by
  have hC : ¬ isLf (n : Int) (n : Int) := fun h => by have := h.2.2; omega
  have hQ : ¬ 256 < P := by omega
  unfold cpV cpE
  rw [if_neg hQ, if_neg hQ, if_neg hC, if_neg hC]
  exact ⟨rfl, rfl⟩
theorem lp_none {fl : List Int} {n i : Nat} (hl : fl.length = 32 * n) (hi : i < n) (hn : n ≤ 256) :
    spE n (i : Int) (keyAt fl i) (dN n i) fl (prf (keyAt fl) 0 n i) = 6 := by
  have hd := dN_le n i
  unfold spE
  rw [if_neg (by omega), if_pos ⟨by omega, by omega⟩, Int.toNat_natCast, if_pos ⟨rfl, prf_own hl hi⟩, if_pos rfl]
/-- Another leaf: the check tells whether there is a clash. -/
theorem lp_other {fl leaf : List Int} {n i : Nat} (hl : fl.length = 32 * n) (fb : ∀ z ∈ fl, 0 ≤ z ∧ z ≤ 255) (hi : i < n) (hn : n ≤ 256) (hs : Is32 leaf) (hne : leaf ≠ keyAt fl i) :
    cpE (n : Int) (i : Int) (dN n i) = 0 ∧
    (cpV (tkey (keyAt fl) 0 n) (n : Int) (i : Int) leaf (dN n i) (prf (keyAt fl) 0 n i) = true → spE n (i : Int) leaf (dN n i) fl (prf (keyAt fl) 0 n i) = 0 ∧ isCl (spV n (i : Int) leaf (dN n i) fl (prf (keyAt fl) 0 n i))) ∧
    (cpV (tkey (keyAt fl) 0 n) (n : Int) (i : Int) leaf (dN n i) (prf (keyAt fl) 0 n i) = false → spE n (i : Int) leaf (dN n i) fl (prf (keyAt fl) 0 n i) = 4) := by
  have hd := dN_le n i
  have hP : ¬ 256 < dN n i := by omega
  have hg := lp_len hl hi
  have gb := lp_range fb n i
  have hy := (lp_yes hl hi hn).2
  generalize prf (keyAt fl) 0 n i = gl at hg gb ⊢
  have hv : cpV (tkey (keyAt fl) 0 n) (n : Int) (i : Int) leaf (dN n i) gl = decide (ldN (keyAt gl) leaf n i = tkey (keyAt fl) 0 n) := by
    unfold cpV
    rw [if_neg hP, if_pos (lp_leaf hn hi), Int.toNat_natCast, Int.toNat_natCast]
    simp
  rw [hv]
  have n1 : ¬ (256 < n ∨ 256 < dN n i) := by omega
  have n2 : 0 ≤ (i : Int) ∧ (i : Int) < (n : Int) := ⟨by omega, by omega⟩
  refine ⟨hy, fun h => ?_, fun h => ?_⟩
  · have he := of_decide_eq_true h
    have hh : dN n i = dN n i ∧ ldN (keyAt gl) leaf n i = tkey (keyAt fl) 0 n := ⟨rfl, he⟩
    unfold spE spV
    rw [if_neg n1, if_neg n1, if_pos n2, if_pos n2, Int.toNat_natCast, if_pos hh, if_pos hh, if_neg hne, if_neg hne]
    refine ⟨rfl, ?_⟩
    have kx32 : Is32 (keyAt fl i) := ⟨keyAt_len hl hi, keyAt_range fb _⟩
    obtain ⟨oL, oY, oK, oS⟩ := own_way1 (gl := gl) (leaf := leaf) hl hi
    have yR := pky_range fb n 0 i
    have yk32 : ∀ q, q < (tns 0 n i).length → Is32 (keyAt (pky fl (tns 0 n i)) q) := fun q hq => ⟨keyAt_len oY (by omega), keyAt_range yR _⟩
    have gk32 : ∀ q, q < (tns 0 n i).length → Is32 (keyAt gl q) := fun q hq => ⟨keyAt_len hg (by omega), keyAt_range gb _⟩
    obtain ⟨C, hC, HCl⟩ := first_clash (po := keyAt (pky fl (tns 0 n i))) (ps := keyAt gl) (tns 0 n i) _ _ kx32 hs (fun e => hne e.symm) yk32 gk32 (by rw [oK, oS, he]) (own_way2 hs hl hi hg)
    obtain ⟨x, y, u, v, i1, i2, i3, i4, _, _, e5, e6⟩ := HCl C (Nat.le_refl _)
    cases hc : clB x y u v with
    | false => exact absurd (e5 hc) (by omega)
    | true =>
      rw [e6 hc]
      unfold clB at hc
      rw [Bool.and_eq_true, Bool.not_eq_true', decide_eq_false_iff_not, decide_eq_true_eq] at hc
      refine ⟨x, y, u, v, rfl, i1, i2, i3, i4, ?_, hc.2⟩
      by_cases hx : x = u
      · exact Or.inr (fun hy => hc.1 ⟨hx, hy⟩)
      · exact Or.inl hx
  · have he := of_decide_eq_false h
    unfold spE
    rw [if_neg n1, if_pos n2, Int.toNat_natCast, if_neg (fun h => he h.2)]
theorem cl_ok {V : List Int} (h : isCl V) (U : World) : Calls Try.prog 24 #[.agg (ints .u8 V)] U fun z w' => z = .returned (.bool true) ∧ Below U.heap.size U w' := by
  obtain ⟨x, y, u, v, rfl, i1, i2, i3, i4, i5, i6⟩ := h
  have H := validclash_impl x y u v i1 i2 i3 i4 U
  have e : clB x y u v = true := by
    unfold clB
    rw [dec_no2 i5, dec_yes i6]
    rfl
  rwa [e] at H
theorem owns_slcC {w : World} {base size n : Nat} {e : TypeId} {v : Value} {xs : List Value} (h : w.ownsRow base e size v n xs) : ∃ a cap, v = .slice a n cap ∧ n ≤ cap ∧ cap ≤ maxLen := by
  rcases h.2 with ⟨rfl, rfl⟩ | ⟨g, cap, cur, rfl, hb, hg, hc, hm, r⟩
  · exact ⟨none, 0, rfl, Nat.le_refl _, Nat.zero_le _⟩
  · exact ⟨_, cap, rfl, hc, hm⟩
end Go.Proofs.Ytjijgckljjcfiaa
