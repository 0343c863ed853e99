/- ClashOfProof, by the specification. Written by wip/gen/sht.py. -/
import Derived.Test.YtjijgckljjcfiaaIsC
import Derived.Test.YtjijgckljjcfiaaClB
import Derived.Test.YtjijgckljjcfiaaListK
import Derived.Test.YtjijgckljjcfiaaPeaksI
import Derived.Test.YtjijgckljjcfiaaPairsP
import Derived.Test.YtjijgckljjcfiaaLeadS
namespace Go.Proofs.Ytjijgckljjcfiaa
open Go.ChangeShapes Go.WideShapes Go.ChangeAt Go.RowKit
set_option linter.unusedVariables false
set_option linter.unusedSimpArgs false
/-- Whether the pairs o and s, each of two keys, are a clash. -/
def clP (o s : List Int) : Bool := clB (o.take 32) (o.drop 32) (s.take 32) (s.drop 32)
/-- The lowest clash of two ways up along the same turns: the list's own and the one shown. -/
def shw (po ps : Nat → List Int) (lo ls : List Int) : List (Bool × Nat × Nat) → Option (List Int)
  | [] => none
  | t :: l => match shw po ps lo ls l with
    | some c => some c
    | none => if clP (prW t.1 (lds po lo l) (po l.length)) (prW t.1 (lds ps ls l) (ps l.length)) then some (prW t.1 (lds po lo l) (po l.length) ++ prW t.1 (lds ps ls l) (ps l.length)) else none
theorem shw_found {po ps : Nat → List Int} {lo ls : List Int} {t : Bool × Nat × Nat} {l : List (Bool × Nat × Nat)} {c : List Int} (h : shw po ps lo ls l = some c) : shw po ps lo ls (t :: l) = some c := by unfold shw; rw [h]
theorem shw_here {po ps : Nat → List Int} {lo ls : List Int} {t : Bool × Nat × Nat} {l : List (Bool × Nat × Nat)} (h : shw po ps lo ls l = none) (hc : clP (prW t.1 (lds po lo l) (po l.length)) (prW t.1 (lds ps ls l) (ps l.length)) = true) : shw po ps lo ls (t :: l) = some (prW t.1 (lds po lo l) (po l.length) ++ prW t.1 (lds ps ls l) (ps l.length)) := by
  rw [shw, h]
  simp only [hc, if_true]
theorem shw_not {po ps : Nat → List Int} {lo ls : List Int} {t : Bool × Nat × Nat} {l : List (Bool × Nat × Nat)} (h : shw po ps lo ls l = none) (hc : clP (prW t.1 (lds po lo l) (po l.length)) (prW t.1 (lds ps ls l) (ps l.length)) = false) : shw po ps lo ls (t :: l) = none := by
  rw [shw, h]
  simp only [hc, Bool.false_eq_true, if_false]
theorem lds_prW {pk : Nat → List Int} {leaf : List Int} {t : Bool × Nat × Nat} {l : List (Bool × Nat × Nat)} (h1 : (lds pk leaf l).length = 32) (h2 : (pk l.length).length = 32) : lds pk leaf (t :: l) = nodeK ((prW t.1 (lds pk leaf l) (pk l.length)).take 32) ((prW t.1 (lds pk leaf l) (pk l.length)).drop 32) := by
  rcases lds_cons pk leaf t l with h | h | h
  · exact h
  · exact absurd h1 h
  · exact absurd h2 h
theorem prW_inj {r : Bool} {a b c d : List Int} (ha : a.length = 32) (hb : b.length = 32) (hc : c.length = 32) (hd : d.length = 32) (h : prW r a b = prW r c d) : a = c ∧ b = d := by
  unfold prW at h
  cases r with
  | true =>
    have := List.append_inj h (by rw [hb, hd])
    exact ⟨this.2, this.1⟩
  | false => exact List.append_inj h (by rw [ha, hc])
/-- Unlike leaves with one key above have a clash on the way. -/
theorem shw_some {po ps : Nat → List Int} {lo ls : List Int} (ho : Is32 lo) (hs : Is32 ls) (hne : lo ≠ ls) : ∀ (l : List (Bool × Nat × Nat)), (∀ j, j < l.length → (po j).length = 32) → (∀ j, j < l.length → (ps j).length = 32) → lds po lo l = lds ps ls l → ∃ c, shw po ps lo ls l = some c
  | [], _, _, h => absurd h hne
  | t :: l, h1, h2, h => by
    cases hl : shw po ps lo ls l with
    | some c => exact ⟨c, shw_found hl⟩
    | none =>
      have a1 := (lds32 (pk := po) ho l).1
      have a2 := (lds32 (pk := ps) hs l).1
      have b1 := h1 l.length (by simp)
      have b2 := h2 l.length (by simp)
      cases hc : clP (prW t.1 (lds po lo l) (po l.length)) (prW t.1 (lds ps ls l) (ps l.length)) with
      | true => exact ⟨_, shw_here hl hc⟩
      | false =>
        exfalso
        rw [lds_prW a1 b1, lds_prW a2 b2] at h
        have hlen1 := prW_len (r := t.1) a1 b1
        have hlen2 := prW_len (r := t.1) a2 b2
        have e : prW t.1 (lds po lo l) (po l.length) = prW t.1 (lds ps ls l) (ps l.length) := by
          unfold clP clB at hc
          rw [decide_eq_true h, Bool.and_true, Bool.not_eq_false', decide_eq_true_eq] at hc
          rw [← List.take_append_drop 32 (prW t.1 (lds po lo l) (po l.length)), hc.1, hc.2, List.take_append_drop]
        have e2 := prW_inj a1 b1 a2 b2 e
        obtain ⟨c, h3⟩ := shw_some ho hs hne l (fun j hj => h1 j (by simp; omega)) (fun j hj => h2 j (by simp; omega)) e2.1
        rw [hl] at h3
        cases h3
/-- The own proof of a leaf leads to the key of the list. -/
theorem own_lead {kf : Nat → List Int} {pk : Nat → List Int} : ∀ (n b i : Nat), i < n → (∀ j, j < n → (kf (b + j)).length = 32) → (∀ j, j < dN n i → pk j = keyAt (prf kf b n i) j) → ldN pk (kf (b + i)) n i = tkey kf b n := by
  intro n
  induction n using Nat.strongRecOn with
  | _ n ih =>
    intro b i hi hk hp
    by_cases h2 : n ≤ 1
    · obtain rfl : n = 1 := by omega
      obtain rfl : i = 0 := by omega
      rw [ldN_one h2, tkey_one, Nat.add_zero]
    · have a1 := half_pos n
      have a2 := half_lt (n := n) (by omega)
      rw [tkey_two _ _ _ (by omega)]
      by_cases h3 : i < half n
      · rw [dN_left (by omega) h3, prf_left (by omega) h3] at hp
        have hl := prf_len (kf := kf) (half n) b i h3 (fun j hj => hk j (by omega))
        have ht := tkey_len (kf := kf) (b := b + half n) (n := n - half n) (by omega) (fun j hj => by rw [Nat.add_assoc]; exact hk _ (by omega))
        rw [ldN_left (by omega) h3, ih _ a2 b i h3 (fun j hj => hk j (by omega)) (fun j hj => by
          rw [hp j (by omega)]
          unfold keyAt
          rw [List.drop_append_of_le_length (by omega), List.take_append_of_le_length (by rw [List.length_drop]; omega)]), hp _ (by omega)]
        congr 1
        unfold keyAt
        rw [List.drop_left' hl, List.take_of_length_le (by omega)]
      · rw [dN_right (by omega) h3, prf_right (by omega) h3] at hp
        have hl := prf_len (kf := kf) (n - half n) (b + half n) (i - half n) (by omega) (fun j hj => by rw [Nat.add_assoc]; exact hk _ (by omega))
        have ht := tkey_len (kf := kf) (b := b) (n := half n) a1 (fun j hj => hk j (by omega))
        have e := ih (n - half n) (by omega) (b + half n) (i - half n) (by omega) (fun j hj => by rw [Nat.add_assoc]; exact hk _ (by omega)) (fun j hj => by
          rw [hp j (by omega)]
          unfold keyAt
          rw [List.drop_append_of_le_length (by omega), List.take_append_of_le_length (by rw [List.length_drop]; omega)])
        rw [show b + half n + (i - half n) = b + i by omega] at e
        rw [ldN_right (by omega) h3, e, hp _ (by omega)]
        congr 1
        unfold keyAt
        rw [List.drop_left' hl, List.take_of_length_le (by omega)]
/-- What the specification shows: the lowest clash, or the topmost pairs, and whether there is a clash. -/
def shR (kf pk : Nat → List Int) (leaf : List Int) (b n i : Nat) : List Int × Bool :=
  if h : n ≤ 1 then (z128, false)
  else if i < half n then
    if (shR kf pk leaf b (half n) i).2 then shR kf pk leaf b (half n) i
    else (tkey kf b (half n) ++ (tkey kf (b + half n) (n - half n) ++ (ldN pk leaf (half n) i ++ pk (dN (half n) i))), clB (tkey kf b (half n)) (tkey kf (b + half n) (n - half n)) (ldN pk leaf (half n) i) (pk (dN (half n) i)))
  else
    if (shR kf pk leaf (b + half n) (n - half n) (i - half n)).2 then shR kf pk leaf (b + half n) (n - half n) (i - half n)
    else (tkey kf b (half n) ++ (tkey kf (b + half n) (n - half n) ++ (pk (dN (n - half n) (i - half n)) ++ ldN pk leaf (n - half n) (i - half n))), clB (tkey kf b (half n)) (tkey kf (b + half n) (n - half n)) (pk (dN (n - half n) (i - half n))) (ldN pk leaf (n - half n) (i - half n)))
termination_by n
decreasing_by
  · exact half_lt (by omega)
  · have := half_pos n; have := half_lt (n := n) (by omega); omega
theorem shR_one {kf pk : Nat → List Int} {leaf : List Int} {b n i : Nat} (h : n ≤ 1) : shR kf pk leaf b n i = (z128, false) := by rw [shR, dif_pos h]
theorem shR_left {kf pk : Nat → List Int} {leaf : List Int} {b n i : Nat} (h : 1 < n) (h1 : i < half n) : shR kf pk leaf b n i = if (shR kf pk leaf b (half n) i).2 then shR kf pk leaf b (half n) i else (tkey kf b (half n) ++ (tkey kf (b + half n) (n - half n) ++ (ldN pk leaf (half n) i ++ pk (dN (half n) i))), clB (tkey kf b (half n)) (tkey kf (b + half n) (n - half n)) (ldN pk leaf (half n) i) (pk (dN (half n) i))) := by
  rw [shR, dif_neg (by omega), if_pos h1]
theorem shR_right {kf pk : Nat → List Int} {leaf : List Int} {b n i : Nat} (h : 1 < n) (h1 : ¬ i < half n) : shR kf pk leaf b n i = if (shR kf pk leaf (b + half n) (n - half n) (i - half n)).2 then shR kf pk leaf (b + half n) (n - half n) (i - half n) else (tkey kf b (half n) ++ (tkey kf (b + half n) (n - half n) ++ (pk (dN (n - half n) (i - half n)) ++ ldN pk leaf (n - half n) (i - half n))), clB (tkey kf b (half n)) (tkey kf (b + half n) (n - half n)) (pk (dN (n - half n) (i - half n))) (ldN pk leaf (n - half n) (i - half n))) := by
  rw [shR, dif_neg (by omega), if_neg h1]
theorem clP_app {x y u v : List Int} (hx : x.length = 32) (hu : u.length = 32) : clP (x ++ y) (u ++ v) = clB x y u v := by
  unfold clP
  rw [List.take_left' hx, List.drop_left' hx, List.take_left' hu, List.drop_left' hu]
/-- Both ways to look for the clash come to the same. -/
theorem shw_shR {kf po pk : Nat → List Int} {leaf : List Int} (hl : Is32 leaf) : ∀ (n b i : Nat), i < n → (∀ j, j < n → (kf (b + j)).length = 32) → (∀ j, j < dN n i → po j = keyAt (prf kf b n i) j) → (∀ j, j < dN n i → (pk j).length = 32) →
    shw po pk (kf (b + i)) leaf (tns b n (b + i)) = if (shR kf pk leaf b n i).2 then some (shR kf pk leaf b n i).1 else none := by
  intro n
  induction n using Nat.strongRecOn with
  | _ n ih =>
    intro b i hi hk hp hs
    by_cases h2 : n ≤ 1
    · rw [tns_one h2, shR_one h2]
      rfl
    · have a1 := half_pos n
      have a2 := half_lt (n := n) (by omega)
      have hL := tkey_len (kf := kf) (b := b) (n := half n) a1 (fun j hj => hk j (by omega))
      have hR := tkey_len (kf := kf) (b := b + half n) (n := n - half n) (by omega) (fun j hj => by rw [Nat.add_assoc]; exact hk _ (by omega))
      by_cases h3 : i < half n
      · have hp0 := hp
        rw [dN_left (by omega) h3] at hp hs
        rw [prf_left (by omega) h3] at hp
        have hpl := prf_len (kf := kf) (half n) b i h3 (fun j hj => hk j (by omega))
        have hpo : ∀ j, j < dN (half n) i → po j = keyAt (prf kf b (half n) i) j := fun j hj => by
          rw [hp j (by omega)]
          unfold keyAt
          rw [List.drop_append_of_le_length (by omega), List.take_append_of_le_length (by rw [List.length_drop]; omega)]
        have htop : po (dN (half n) i) = tkey kf (b + half n) (n - half n) := by
          rw [hp _ (by omega)]
          unfold keyAt
          rw [List.drop_left' hpl, List.take_of_length_le (by omega)]
        have e0 : lds po (kf (b + i)) (tns b (half n) (b + i)) = tkey kf b (half n) := by
          rw [lds_tns _ _ _ _ _ (by omega), Nat.add_sub_cancel_left]
          exact own_lead (half n) b i h3 (fun j hj => hk j (by omega)) hpo
        have e1 : lds pk leaf (tns b (half n) (b + i)) = ldN pk leaf (half n) i := by
          rw [lds_tns _ _ _ _ _ (by omega), Nat.add_sub_cancel_left]
        have e2 : (tns b (half n) (b + i)).length = dN (half n) i := by
          rw [tns_dN _ _ _ (by omega), Nat.add_sub_cancel_left]
        have IH := ih (half n) a2 b i h3 (fun j hj => hk j (by omega)) hpo (fun j hj => hs j (by omega))
        have hw := (ldN32 (pk := pk) hl (half n) i).1
        rw [tns_left (by omega) (by omega), shR_left (by omega) h3, shw, IH]
        simp only [e0, e1, e2, htop]
        unfold prW
        simp only [Bool.false_eq_true, if_false, clP_app hL hw]
        cases hb : (shR kf pk leaf b (half n) i).2 with
        | true => simp only [hb, if_true]
        | false =>
          simp only [Bool.false_eq_true, if_false, List.append_assoc]
      · rw [dN_right (by omega) h3] at hp hs
        rw [prf_right (by omega) h3] at hp
        have hpl := prf_len (kf := kf) (n - half n) (b + half n) (i - half n) (by omega) (fun j hj => by rw [Nat.add_assoc]; exact hk _ (by omega))
        have hpo : ∀ j, j < dN (n - half n) (i - half n) → po j = keyAt (prf kf (b + half n) (n - half n) (i - half n)) j := fun j hj => by
          rw [hp j (by omega)]
          unfold keyAt
          rw [List.drop_append_of_le_length (by omega), List.take_append_of_le_length (by rw [List.length_drop]; omega)]
        have htop : po (dN (n - half n) (i - half n)) = tkey kf b (half n) := by
          rw [hp _ (by omega)]
          unfold keyAt
          rw [List.drop_left' hpl, List.take_of_length_le (by omega)]
        have ei : b + half n + (i - half n) = b + i := by omega
        have e0 : lds po (kf (b + i)) (tns (b + half n) (n - half n) (b + i)) = tkey kf (b + half n) (n - half n) := by
          rw [lds_tns _ _ _ _ _ (by omega), show b + i - (b + half n) = i - half n by omega, ← ei]
          exact own_lead (n - half n) (b + half n) (i - half n) (by omega) (fun j hj => by rw [Nat.add_assoc]; exact hk _ (by omega)) hpo
        have e1 : lds pk leaf (tns (b + half n) (n - half n) (b + i)) = ldN pk leaf (n - half n) (i - half n) := by
          rw [lds_tns _ _ _ _ _ (by omega), show b + i - (b + half n) = i - half n by omega]
        have e2 : (tns (b + half n) (n - half n) (b + i)).length = dN (n - half n) (i - half n) := by
          rw [tns_dN _ _ _ (by omega), show b + i - (b + half n) = i - half n by omega]
        have IH := ih (n - half n) (by omega) (b + half n) (i - half n) (by omega) (fun j hj => by rw [Nat.add_assoc]; exact hk _ (by omega)) hpo (fun j hj => hs j (by omega))
        rw [ei] at IH
        have hw := (ldN32 (pk := pk) hl (n - half n) (i - half n)).1
        have hq := hs (dN (n - half n) (i - half n)) (by omega)
        rw [tns_right (by omega) (by omega), shR_right (by omega) h3, shw, IH]
        simp only [e0, e1, e2, htop]
        unfold prW
        simp only [if_true, clP_app hL hq]
        cases hb : (shR kf pk leaf (b + half n) (n - half n) (i - half n)).2 with
        | true => simp only [hb, if_true]
        | false =>
          simp only [Bool.false_eq_true, if_false, List.append_assoc]
end Go.Proofs.Ytjijgckljjcfiaa
namespace Go.Proofs.Ytjijgckljjcfiaa
open Go.ChangeShapes Go.WideShapes Go.ChangeAt Go.RowKit
set_option linter.unusedVariables false
set_option linter.unusedSimpArgs false
theorem wpList_load_ints_v {P : Program} {ops : Array Oper} {rest : List Oper} {op : Oper} {a : Act} {w : World} {Q : Exit → Act → World → Prop} (hw : Region.wanted op (yielded ops a.tmps) = true) (ty : TypeId) (x : Operand) (ho : op.op = .load ty x)
    (b o : Nat) (hx : a.eval x = .pointer (some ⟨b, o, none⟩)) (κ : IntKind) (l : List Int) (d : TypeDesc) (hc : w.rangeAt b o (l.map (Value.int κ)))
    (hu : P.underlying ty = some d) (hd : d.isRow = true) (hi : (P.info? ty).map (·.size) = some l.length)
    (h : wpList P ops Q rest (a.put op.dst (.agg (ints κ l))) w) : wpList P ops Q (op :: rest) a w :=
  wpList_step fun _ hK => by rw [if_pos hw]; exact wp_load_mid ty x ho b o hx (l.map (Value.int κ)) d hc hu hd (by rw [List.length_map]; exact hi) (hK _ _ h)
set_option maxRecDepth 100000 in
set_option maxHeartbeats 4000000 in
theorem valid_spec (x y u v : List Int) (hx : Is32 x) (hy : Is32 y) (hu : Is32 u) (hv : Is32 v) (w : World) :
    Calls Try.prog 23 #[.agg (ints .u8 (x ++ (y ++ (u ++ v))))] w fun z w' => z = .returned (.bool (!decide (x = u ∧ y = v) && decide (nodeK x y = nodeK u v))) ∧ Below w.heap.size w w' := by
  have T1 := Lib.hid hx.1
  have T2 := Lib.hid hy.1
  have T3 := Lib.hid hu.1
  have T4 := Lib.hid hv.1
  have A0 := heap_alloc_last w (.cells (ints .u8 (x ++ (y ++ (u ++ v)))) 38)
  have B0 := Lib.hid ((Below.refl w.heap.size w).alloc (Nat.le_refl _) (.cells (ints .u8 (x ++ (y ++ (u ++ v)))) 38))
  have HR := Lib.hid (four_rng hx.1 hy.1 hu.1 hv.1 A0)
  have N1 := Lib.hid (fun W => l03node_spec x y hx.1 hx.2 hy.1 hy.2 W)
  have N2 := Lib.hid (fun W => l03node_spec u v hu.1 hu.2 hv.1 hv.2 W)
  have HE := Lib.hid (fun W => eqlIn2 (nodeK x y) (nodeK u v) (nodeK_len _ _) (nodeK_len _ _) W)
  have Q1 := Lib.hid (fun W => eqlIn2 x u hx.1 hu.1 W)
  have Q2 := Lib.hid (fun W => eqlIn2 y v hy.1 hv.1 W)
  generalize nodeK x y = p at N1 HE ⊢
  generalize nodeK u v = q at N2 HE ⊢
  generalize decide (p = q) = e at HE ⊢
  generalize x ++ (y ++ (u ++ v)) = c at A0 B0 HR ⊢
  obtain ⟨W0, hW0⟩ : ∃ W0, w.alloc (.cells (ints .u8 c) 38) = W0 := ⟨_, rfl⟩
  rw [hW0] at B0 HR
  clear A0 hx hy hu hv
  by_cases h1 : x = u
  · rw [decide_eq_true h1] at Q1
    by_cases h2 : y = v
    · rw [decide_eq_true h2] at Q2
      rw [decide_eq_true (show x = u ∧ y = v from ⟨h1, h2⟩), Bool.not_true, Bool.false_and]
      have hq1 := Q1.out
      have hq2 := Q2.out
      clear h1 h2
      go_enter Try.func23, Try.ntmps23
      go_upto_region 2 with (first | (refine wpList_load_ints rfl 28 (.tmp 4) rfl w.heap.size 0 rfl .u8 x _ HR.out.1 Try.underlying28 rfl (by rw [T1.out]; exact sizeKey) ?_) | (refine wpList_load_ints rfl 28 (.tmp 6) rfl w.heap.size 64 rfl .u8 u _ HR.out.2.2.1 Try.underlying28 rfl (by rw [T3.out]; exact sizeKey) ?_) | (refine wpList_load_ints_v (by rfl) 28 (.tmp 10) rfl w.heap.size 32 rfl .u8 y _ HR.out.2.1 Try.underlying28 rfl (by rw [T2.out]; exact sizeKey) ?_) | (refine wpList_load_ints_v (by rfl) 28 (.tmp 12) rfl w.heap.size 96 rfl .u8 v _ HR.out.2.2.2 Try.underlying28 rfl (by rw [T4.out]; exact sizeKey) ?_))
      clear hW0 hq1 hq2
      refine wp_region_held_drew (S := Below (W0).heap.size (W0)) (by kernel_rfl) ((Below.refl _ _).drew) (fun hS => ?_)
      refine take_at (i := 0) (v := .bool false) rfl rfl (by kernel_rfl) (by kernel_rfl) (by kernel_rfl) (fun _ _ _ h => h) (Or.inl ⟨by rfl, fun U hU => by go_simp⟩) hS ?_
      try simp only [List.setIfInBounds_toArray, List.set_cons_zero, List.set_cons_succ]
      refine take_at (i := 1) (v := .bool false) rfl rfl (by kernel_rfl) (by kernel_rfl) (by kernel_rfl) (fun _ _ _ h => h) (Or.inl ⟨by rfl, fun U hU => by go_simp⟩) hS ?_
      try simp only [List.setIfInBounds_toArray, List.set_cons_zero, List.set_cons_succ]
      refine take_at (i := 2) (v := undef) rfl rfl (by kernel_rfl) (by kernel_rfl) (by kernel_rfl) (fun _ _ _ h => h) (Or.inr ⟨by rfl, rfl⟩) hS ?_
      try simp only [List.setIfInBounds_toArray, List.set_cons_zero, List.set_cons_succ]
      refine take_at (i := 3) (v := undef) rfl rfl (by kernel_rfl) (by kernel_rfl) (by kernel_rfl) (fun _ _ _ h => h) (Or.inr ⟨by rfl, rfl⟩) hS ?_
      try simp only [List.setIfInBounds_toArray, List.set_cons_zero, List.set_cons_succ]
      refine take_at (i := 4) (v := undef) rfl rfl (by kernel_rfl) (by kernel_rfl) (by kernel_rfl) (fun _ _ _ h => h) (Or.inr ⟨by rfl, rfl⟩) hS ?_
      try simp only [List.setIfInBounds_toArray, List.set_cons_zero, List.set_cons_succ]
      refine take_at (i := 5) (v := undef) rfl rfl (by kernel_rfl) (by kernel_rfl) (by kernel_rfl) (fun _ _ _ h => h) (Or.inr ⟨by rfl, rfl⟩) hS ?_
      try simp only [List.setIfInBounds_toArray, List.set_cons_zero, List.set_cons_succ]
      refine take_at (i := 6) (v := undef) rfl rfl (by kernel_rfl) (by kernel_rfl) (by kernel_rfl) (fun _ _ _ h => h) (Or.inr ⟨by rfl, rfl⟩) hS ?_
      try simp only [List.setIfInBounds_toArray, List.set_cons_zero, List.set_cons_succ]
      refine take_at (i := 7) (v := undef) rfl rfl (by kernel_rfl) (by kernel_rfl) (by kernel_rfl) (fun _ _ _ h => h) (Or.inr ⟨by rfl, rfl⟩) hS ?_
      try simp only [List.setIfInBounds_toArray, List.set_cons_zero, List.set_cons_succ]
      refine take_at (i := 8) (v := undef) rfl rfl (by kernel_rfl) (by kernel_rfl) (by kernel_rfl) (fun _ _ _ h => h) (Or.inr ⟨by rfl, rfl⟩) hS ?_
      try simp only [List.setIfInBounds_toArray, List.set_cons_zero, List.set_cons_succ]
      refine take_at (i := 9) (v := undef) rfl rfl (by kernel_rfl) (by kernel_rfl) (by kernel_rfl) (fun _ _ _ h => h) (Or.inr ⟨by rfl, rfl⟩) hS ?_
      try simp only [List.setIfInBounds_toArray, List.set_cons_zero, List.set_cons_succ]
      refine take_at (i := 10) (v := undef) rfl rfl (by kernel_rfl) (by kernel_rfl) (by kernel_rfl) (fun _ _ _ h => h) (Or.inr ⟨by rfl, rfl⟩) hS ?_
      try simp only [List.setIfInBounds_toArray, List.set_cons_zero, List.set_cons_succ]
      refine take_at (i := 11) (v := undef) rfl rfl (by kernel_rfl) (by kernel_rfl) (by kernel_rfl) (fun _ _ _ h => h) (Or.inr ⟨by rfl, rfl⟩) hS ?_
      try simp only [List.setIfInBounds_toArray, List.set_cons_zero, List.set_cons_succ]
      refine take_at (i := 12) (v := undef) rfl rfl (by kernel_rfl) (by kernel_rfl) (by kernel_rfl) (fun _ _ _ h => h) (Or.inr ⟨by rfl, rfl⟩) hS ?_
      try simp only [List.setIfInBounds_toArray, List.set_cons_zero, List.set_cons_succ]
      refine take_at (i := 13) (v := .bool false) rfl rfl (by kernel_rfl) (by kernel_rfl) (by kernel_rfl) (fun _ _ _ h => h) (Or.inl ⟨by rfl, fun U hU => by go_simp⟩) hS ?_
      try simp only [List.setIfInBounds_toArray, List.set_cons_zero, List.set_cons_succ]
      refine take_at (i := 14) (v := .bool false) rfl rfl (by kernel_rfl) (by kernel_rfl) (by kernel_rfl) (fun _ _ _ h => h) (Or.inl ⟨by rfl, fun U hU => by go_simp⟩) hS ?_
      try simp only [List.setIfInBounds_toArray, List.set_cons_zero, List.set_cons_succ]
      refine wpAnyH_done (by kernel_rfl) ?_ _
      go_wp2_with fail
      go_ret
      exact ⟨rfl, B0.out.trans (hS.mono B0.out.size)⟩
    · rw [decide_eq_false h2] at Q2
      rw [decide_eq_false (show ¬ (x = u ∧ y = v) from fun h => h2 h.2), Bool.not_false, Bool.true_and]
      have hq1 := Q1.out
      have hq2 := Q2.out
      clear h1 h2
      go_enter Try.func23, Try.ntmps23
      go_upto_region 2 with (first | (refine wpList_load_ints rfl 28 (.tmp 4) rfl w.heap.size 0 rfl .u8 x _ HR.out.1 Try.underlying28 rfl (by rw [T1.out]; exact sizeKey) ?_) | (refine wpList_load_ints rfl 28 (.tmp 6) rfl w.heap.size 64 rfl .u8 u _ HR.out.2.2.1 Try.underlying28 rfl (by rw [T3.out]; exact sizeKey) ?_) | (refine wpList_load_ints_v (by rfl) 28 (.tmp 10) rfl w.heap.size 32 rfl .u8 y _ HR.out.2.1 Try.underlying28 rfl (by rw [T2.out]; exact sizeKey) ?_) | (refine wpList_load_ints_v (by rfl) 28 (.tmp 12) rfl w.heap.size 96 rfl .u8 v _ HR.out.2.2.2 Try.underlying28 rfl (by rw [T4.out]; exact sizeKey) ?_))
      clear hW0 hq1 hq2
      refine wp_region_held_drew (S := Below (W0).heap.size (W0)) (by kernel_rfl) ((Below.refl _ _).drew) (fun hS => ?_)
      refine take_at (i := 0) (v := .bool true) rfl rfl (by kernel_rfl) (by kernel_rfl) (by kernel_rfl) (fun _ _ _ h => h) (Or.inl ⟨by rfl, fun U hU => by go_simp⟩) hS ?_
      try simp only [List.setIfInBounds_toArray, List.set_cons_zero, List.set_cons_succ]
      refine take_at (i := 1) (v := .bool true) rfl rfl (by kernel_rfl) (by kernel_rfl) (by kernel_rfl) (fun _ _ _ h => h) (Or.inl ⟨by rfl, fun U hU => by go_simp⟩) hS ?_
      try simp only [List.setIfInBounds_toArray, List.set_cons_zero, List.set_cons_succ]
      refine take_at (i := 2) (v := .pointer (some ⟨w.heap.size, 0, none⟩)) rfl rfl (by kernel_rfl) (by kernel_rfl) (by kernel_rfl) (fun _ _ _ h => h) (Or.inl ⟨by rfl, fun U hU => by go_simp⟩) hS ?_
      try simp only [List.setIfInBounds_toArray, List.set_cons_zero, List.set_cons_succ]
      refine take_at (i := 3) (v := .agg (ints .u8 x)) rfl rfl (by kernel_rfl) (by kernel_rfl) (by kernel_rfl) (fun _ _ _ h => h) (yieldsIf_load_mid (by rfl) 28 _ rfl w.heap.size 0 rfl (x.map (Value.int .u8)) _ (fun U hU => rangeAt_below HR.out.1 hU) Try.underlying28 rfl (by rw [List.length_map, T1.out]; exact sizeKey)) hS ?_
      try simp only [List.setIfInBounds_toArray, List.set_cons_zero, List.set_cons_succ]
      refine take_at (i := 4) (v := .pointer (some ⟨w.heap.size, 32, none⟩)) rfl rfl (by kernel_rfl) (by kernel_rfl) (by kernel_rfl) (fun _ _ _ h => h) (Or.inl ⟨by rfl, fun U hU => by go_simp⟩) hS ?_
      try simp only [List.setIfInBounds_toArray, List.set_cons_zero, List.set_cons_succ]
      refine take_at (i := 5) (v := .agg (ints .u8 y)) rfl rfl (by kernel_rfl) (by kernel_rfl) (by kernel_rfl) (fun _ _ _ h => h) (yieldsIf_load_mid (by rfl) 28 _ rfl w.heap.size 32 rfl (y.map (Value.int .u8)) _ (fun U hU => rangeAt_below HR.out.2.1 hU) Try.underlying28 rfl (by rw [List.length_map, T2.out]; exact sizeKey)) hS ?_
      try simp only [List.setIfInBounds_toArray, List.set_cons_zero, List.set_cons_succ]
      refine take_at (i := 7) (v := .pointer (some ⟨w.heap.size, 64, none⟩)) rfl rfl (by kernel_rfl) (by kernel_rfl) (by kernel_rfl) (fun _ _ _ h => h) (Or.inl ⟨by rfl, fun U hU => by go_simp⟩) hS ?_
      try simp only [List.setIfInBounds_toArray, List.set_cons_zero, List.set_cons_succ]
      refine take_at (i := 8) (v := .agg (ints .u8 u)) rfl rfl (by kernel_rfl) (by kernel_rfl) (by kernel_rfl) (fun _ _ _ h => h) (yieldsIf_load_mid (by rfl) 28 _ rfl w.heap.size 64 rfl (u.map (Value.int .u8)) _ (fun U hU => rangeAt_below HR.out.2.2.1 hU) Try.underlying28 rfl (by rw [List.length_map, T3.out]; exact sizeKey)) hS ?_
      try simp only [List.setIfInBounds_toArray, List.set_cons_zero, List.set_cons_succ]
      refine take_at (i := 9) (v := .pointer (some ⟨w.heap.size, 96, none⟩)) rfl rfl (by kernel_rfl) (by kernel_rfl) (by kernel_rfl) (fun _ _ _ h => h) (Or.inl ⟨by rfl, fun U hU => by go_simp⟩) hS ?_
      try simp only [List.setIfInBounds_toArray, List.set_cons_zero, List.set_cons_succ]
      refine take_at (i := 10) (v := .agg (ints .u8 v)) rfl rfl (by kernel_rfl) (by kernel_rfl) (by kernel_rfl) (fun _ _ _ h => h) (yieldsIf_load_mid (by rfl) 28 _ rfl w.heap.size 96 rfl (v.map (Value.int .u8)) _ (fun U hU => rangeAt_below HR.out.2.2.2 hU) Try.underlying28 rfl (by rw [List.length_map, T4.out]; exact sizeKey)) hS ?_
      try simp only [List.setIfInBounds_toArray, List.set_cons_zero, List.set_cons_succ]
      refine wpAnyH_ready (rs := [6]) (by kernel_rfl) (by simp) ?_
      refine AllReadyH.cons rfl (fun KQ hK => ?_) AllReadyH.nil
      rw [if_pos (by rfl)]
      go_simp
      refine (N1.out _).mono ?_
      rintro e1 u1 ⟨rfl, hb⟩
      refine hK.out _ _ (below_call hS hS.size hb) (fun hS => ?_)
      clear hb hK
      refine wpAnyH_ready (rs := [11]) (by kernel_rfl) (by simp) ?_
      refine AllReadyH.cons rfl (fun KQ hK => ?_) AllReadyH.nil
      rw [if_pos (by rfl)]
      go_simp
      refine (N2.out _).mono ?_
      rintro e2 u2 ⟨rfl, hb⟩
      refine hK.out _ _ (below_call hS hS.size hb) (fun hS => ?_)
      clear hb hK
      refine take_at (i := 12) (v := .bool e) rfl rfl (by kernel_rfl) (by kernel_rfl) (by kernel_rfl) (fun _ _ _ h => h) (Or.inl ⟨by rfl, fun U hU => by have hq := HE.out U; go_simp⟩) hS ?_
      try simp only [List.setIfInBounds_toArray, List.set_cons_zero, List.set_cons_succ]
      refine take_at (i := 13) (v := .bool e) rfl rfl (by kernel_rfl) (by kernel_rfl) (by kernel_rfl) (fun _ _ _ h => h) (Or.inl ⟨by rfl, fun U hU => by go_simp⟩) hS ?_
      try simp only [List.setIfInBounds_toArray, List.set_cons_zero, List.set_cons_succ]
      refine take_at (i := 14) (v := .bool e) rfl rfl (by kernel_rfl) (by kernel_rfl) (by kernel_rfl) (fun _ _ _ h => h) (Or.inl ⟨by rfl, fun U hU => by go_simp⟩) hS ?_
      try simp only [List.setIfInBounds_toArray, List.set_cons_zero, List.set_cons_succ]
      refine wpAnyH_done (by kernel_rfl) ?_ _
      go_wp2_with fail
      go_ret
      exact ⟨rfl, B0.out.trans (hS.mono B0.out.size)⟩
  · rw [decide_eq_false h1] at Q1
    rw [decide_eq_false (show ¬ (x = u ∧ y = v) from fun h => h1 h.1), Bool.not_false, Bool.true_and]
    have hq1 := Q1.out
    clear h1
    go_enter Try.func23, Try.ntmps23
    go_upto_region 2 with (first | (refine wpList_load_ints rfl 28 (.tmp 4) rfl w.heap.size 0 rfl .u8 x _ HR.out.1 Try.underlying28 rfl (by rw [T1.out]; exact sizeKey) ?_) | (refine wpList_load_ints rfl 28 (.tmp 6) rfl w.heap.size 64 rfl .u8 u _ HR.out.2.2.1 Try.underlying28 rfl (by rw [T3.out]; exact sizeKey) ?_))
    clear hW0 hq1
    refine wp_region_held_drew (S := Below (W0).heap.size (W0)) (by kernel_rfl) ((Below.refl _ _).drew) (fun hS => ?_)
    refine take_at (i := 0) (v := .bool true) rfl rfl (by kernel_rfl) (by kernel_rfl) (by kernel_rfl) (fun _ _ _ h => h) (Or.inl ⟨by rfl, fun U hU => by go_simp⟩) hS ?_
    try simp only [List.setIfInBounds_toArray, List.set_cons_zero, List.set_cons_succ]
    refine take_at (i := 1) (v := .bool true) rfl rfl (by kernel_rfl) (by kernel_rfl) (by kernel_rfl) (fun _ _ _ h => h) (Or.inl ⟨by rfl, fun U hU => by go_simp⟩) hS ?_
    try simp only [List.setIfInBounds_toArray, List.set_cons_zero, List.set_cons_succ]
    refine take_at (i := 2) (v := .pointer (some ⟨w.heap.size, 0, none⟩)) rfl rfl (by kernel_rfl) (by kernel_rfl) (by kernel_rfl) (fun _ _ _ h => h) (Or.inl ⟨by rfl, fun U hU => by go_simp⟩) hS ?_
    try simp only [List.setIfInBounds_toArray, List.set_cons_zero, List.set_cons_succ]
    refine take_at (i := 3) (v := .agg (ints .u8 x)) rfl rfl (by kernel_rfl) (by kernel_rfl) (by kernel_rfl) (fun _ _ _ h => h) (yieldsIf_load_mid (by rfl) 28 _ rfl w.heap.size 0 rfl (x.map (Value.int .u8)) _ (fun U hU => rangeAt_below HR.out.1 hU) Try.underlying28 rfl (by rw [List.length_map, T1.out]; exact sizeKey)) hS ?_
    try simp only [List.setIfInBounds_toArray, List.set_cons_zero, List.set_cons_succ]
    refine take_at (i := 4) (v := .pointer (some ⟨w.heap.size, 32, none⟩)) rfl rfl (by kernel_rfl) (by kernel_rfl) (by kernel_rfl) (fun _ _ _ h => h) (Or.inl ⟨by rfl, fun U hU => by go_simp⟩) hS ?_
    try simp only [List.setIfInBounds_toArray, List.set_cons_zero, List.set_cons_succ]
    refine take_at (i := 5) (v := .agg (ints .u8 y)) rfl rfl (by kernel_rfl) (by kernel_rfl) (by kernel_rfl) (fun _ _ _ h => h) (yieldsIf_load_mid (by rfl) 28 _ rfl w.heap.size 32 rfl (y.map (Value.int .u8)) _ (fun U hU => rangeAt_below HR.out.2.1 hU) Try.underlying28 rfl (by rw [List.length_map, T2.out]; exact sizeKey)) hS ?_
    try simp only [List.setIfInBounds_toArray, List.set_cons_zero, List.set_cons_succ]
    refine take_at (i := 7) (v := .pointer (some ⟨w.heap.size, 64, none⟩)) rfl rfl (by kernel_rfl) (by kernel_rfl) (by kernel_rfl) (fun _ _ _ h => h) (Or.inl ⟨by rfl, fun U hU => by go_simp⟩) hS ?_
    try simp only [List.setIfInBounds_toArray, List.set_cons_zero, List.set_cons_succ]
    refine take_at (i := 8) (v := .agg (ints .u8 u)) rfl rfl (by kernel_rfl) (by kernel_rfl) (by kernel_rfl) (fun _ _ _ h => h) (yieldsIf_load_mid (by rfl) 28 _ rfl w.heap.size 64 rfl (u.map (Value.int .u8)) _ (fun U hU => rangeAt_below HR.out.2.2.1 hU) Try.underlying28 rfl (by rw [List.length_map, T3.out]; exact sizeKey)) hS ?_
    try simp only [List.setIfInBounds_toArray, List.set_cons_zero, List.set_cons_succ]
    refine take_at (i := 9) (v := .pointer (some ⟨w.heap.size, 96, none⟩)) rfl rfl (by kernel_rfl) (by kernel_rfl) (by kernel_rfl) (fun _ _ _ h => h) (Or.inl ⟨by rfl, fun U hU => by go_simp⟩) hS ?_
    try simp only [List.setIfInBounds_toArray, List.set_cons_zero, List.set_cons_succ]
    refine take_at (i := 10) (v := .agg (ints .u8 v)) rfl rfl (by kernel_rfl) (by kernel_rfl) (by kernel_rfl) (fun _ _ _ h => h) (yieldsIf_load_mid (by rfl) 28 _ rfl w.heap.size 96 rfl (v.map (Value.int .u8)) _ (fun U hU => rangeAt_below HR.out.2.2.2 hU) Try.underlying28 rfl (by rw [List.length_map, T4.out]; exact sizeKey)) hS ?_
    try simp only [List.setIfInBounds_toArray, List.set_cons_zero, List.set_cons_succ]
    refine wpAnyH_ready (rs := [6]) (by kernel_rfl) (by simp) ?_
    refine AllReadyH.cons rfl (fun KQ hK => ?_) AllReadyH.nil
    rw [if_pos (by rfl)]
    go_simp
    refine (N1.out _).mono ?_
    rintro e1 u1 ⟨rfl, hb⟩
    refine hK.out _ _ (below_call hS hS.size hb) (fun hS => ?_)
    clear hb hK
    refine wpAnyH_ready (rs := [11]) (by kernel_rfl) (by simp) ?_
    refine AllReadyH.cons rfl (fun KQ hK => ?_) AllReadyH.nil
    rw [if_pos (by rfl)]
    go_simp
    refine (N2.out _).mono ?_
    rintro e2 u2 ⟨rfl, hb⟩
    refine hK.out _ _ (below_call hS hS.size hb) (fun hS => ?_)
    clear hb hK
    refine take_at (i := 12) (v := .bool e) rfl rfl (by kernel_rfl) (by kernel_rfl) (by kernel_rfl) (fun _ _ _ h => h) (Or.inl ⟨by rfl, fun U hU => by have hq := HE.out U; go_simp⟩) hS ?_
    try simp only [List.setIfInBounds_toArray, List.set_cons_zero, List.set_cons_succ]
    refine take_at (i := 13) (v := .bool e) rfl rfl (by kernel_rfl) (by kernel_rfl) (by kernel_rfl) (fun _ _ _ h => h) (Or.inl ⟨by rfl, fun U hU => by go_simp⟩) hS ?_
    try simp only [List.setIfInBounds_toArray, List.set_cons_zero, List.set_cons_succ]
    refine take_at (i := 14) (v := .bool e) rfl rfl (by kernel_rfl) (by kernel_rfl) (by kernel_rfl) (fun _ _ _ h => h) (Or.inl ⟨by rfl, fun U hU => by go_simp⟩) hS ?_
    try simp only [List.setIfInBounds_toArray, List.set_cons_zero, List.set_cons_succ]
    refine wpAnyH_done (by kernel_rfl) ?_ _
    go_wp2_with fail
    go_ret
    exact ⟨rfl, B0.out.trans (hS.mono B0.out.size)⟩
set_option maxHeartbeats 1000000 in
theorem same_spec (a b : Option Addr) (n m ca cb : Nat) (fl gl : List Int) (hn : n ≤ 1048576) (hm : m ≤ 1048576) (w : World) (hr : RdK w a n fl) (hs : RdK w b m gl) :
    Calls Try.prog 28 #[.slice a n ca, .slice b m cb] w fun e w' => e = .returned (.bool (decide (fl = gl))) ∧ Below w.heap.size w w' := by
  have H := Lib.hid (lists_spec a b n m ca cb fl gl hn hm w hr hs)
  clear hr hs
  generalize decide (fl = gl) = d at H ⊢
  go_enter Try.func28, Try.ntmps28
  go_wp2_with fail
  refine H.out.mono ?_
  rintro e w1 ⟨rfl, hb⟩
  have B := Lib.hid hb
  clear hb
  go_wp2_with fail
  go_ret
  exact ⟨rfl, B.out⟩
end Go.Proofs.Ytjijgckljjcfiaa
namespace Go.Proofs.Ytjijgckljjcfiaa
open Go.ChangeShapes Go.WideShapes Go.ChangeAt Go.RowKit
set_option linter.unusedVariables false
set_option linter.unusedSimpArgs false
theorem yields_built {P : Program} {ops : Array Oper} {S : World → Prop} {op : Oper} {a : Act} (hw : Region.wanted op (yielded ops a.tmps) = true) (t : TypeId) (parts : Array (Nat × Operand)) (cells : Array Value) (ho : op.op = .build t parts)
    (hb : P.built t (parts.map fun (i, x) => (i, a.eval x)).toList = some cells) : YieldsIf P ops S op (.agg cells) a :=
  .inl ⟨hw, fun w hS => by
    unfold execOp
    simp only [ho, Sem.run_bind, run_build w t _ cells hb, Result.andThen_ok, Sem.run_pure]⟩
def clE (n m : Nat) (fl gl : List Int) : Int := if 256 < n ∨ 256 < m then 3 else if n ≠ m ∨ n = 0 ∨ tkey (keyAt fl) 0 n ≠ tkey (keyAt gl) 0 n then 4 else if fl = gl then 6 else 0
def clV (n m : Nat) (fl gl : List Int) : List Int := if 256 < n ∨ 256 < m then z128 else if n ≠ m ∨ n = 0 ∨ tkey (keyAt fl) 0 n ≠ tkey (keyAt gl) 0 n then z128 else if fl = gl then z128 else clK fl gl 0 n
theorem clV_size {n m : Nat} {fl gl : List Int} (hf : fl.length = 32 * n) (hg : gl.length = 32 * m) (fb : ∀ z ∈ fl, 0 ≤ z ∧ z ≤ 255) (gb : ∀ z ∈ gl, 0 ≤ z ∧ z ≤ 255) : ∃ x y u v, clV n m fl gl = x ++ (y ++ (u ++ v)) ∧ x.length = 32 ∧ y.length = 32 ∧ u.length = 32 ∧ v.length = 32 := by
  have h0 : ∃ x y u v : List Int, z128 = x ++ (y ++ (u ++ v)) ∧ x.length = 32 ∧ y.length = 32 ∧ u.length = 32 ∧ v.length = 32 := ⟨z32, z32, z32, z32, by decide, by decide, by decide, by decide, by decide⟩
  unfold clV
  split
  · exact h0
  · split
    · exact h0
    · split
      · exact h0
      · rename_i h1 h2 h3
        have e1 : n = m := Classical.byContradiction (fun e => h2 (Or.inl e))
        have e2 : ¬ n = 0 := fun e => h2 (Or.inr (Or.inl e))
        have e3 : tkey (keyAt fl) 0 n = tkey (keyAt gl) 0 n := Classical.byContradiction (fun e => h2 (Or.inr (Or.inr e)))
        subst e1
        obtain ⟨x, y, u, v, hc, hx, hy, hu, hv, _⟩ := clK_is hf hg fb gb n 0 (by omega) ⟨by omega, e3, by rw [subK_all hf, subK_all hg]; exact h3⟩
        exact ⟨x, y, u, v, hc, hx.1, hy.1, hu.1, hv.1⟩
end Go.Proofs.Ytjijgckljjcfiaa
namespace Go.Proofs.Ytjijgckljjcfiaa
open Go.ChangeShapes Go.WideShapes Go.ChangeAt Go.RowKit
set_option linter.unusedVariables false
set_option linter.unusedSimpArgs false
theorem built_half0 {P : Program} {t : TypeId} {fs : Array Field} {zz : Array Value} (hu : P.underlying t = some (.struct fs)) (hi : ((P.info? t).bind (·.zero)).map (fun z => z.cells) = some zz) (hsz : zz.size = 128)
    (hp : fs.toList.mapM (fun f => (P.info? f.type).map fun i => (f.offset, i.size)) = some [(0, 32), (32, 32), (64, 32), (96, 32)]) (u v r : Array Value) (su : u.size = 32) (sv : v.size = 32) (hr : r.size = 64) (hz : ∀ j, j < 64 → zz[64 + j]? = r[j]?) :
    P.built t [(0, .agg u), (1, .agg v)] = some (u ++ (v ++ r)) := by
  cases hq : P.info? t with
  | none => simp [hq] at hi
  | some it =>
    cases hz0 : it.zero with
    | none => simp [hq, hz0] at hi
    | some z =>
      have hs : z.cells = zz := by simpa [hq, hz0] using hi
      unfold Program.built
      simp only [hq, hu, hz0, hp, hs]
      rw [fill_step _ _ u 0 0 _ (by simp [su]) (by omega), fill_step _ _ v 1 32 _ (by simp [sv]) (by rw [fill_size]; omega)]
      rw [Instr.fill]
      congr 1
      apply Array.ext_getElem?
      intro i
      rw [fill_fold 32 v _ (by rw [fill_size]; omega), fill_fold 0 u _ (by omega), Array.getElem?_append, Array.getElem?_append, su, sv]
      by_cases h1 : i < 32
      · rw [if_neg (by omega), if_pos (by omega), if_pos h1, Nat.sub_zero]
      · by_cases h2 : i < 64
        · rw [if_pos (by omega), if_neg h1, if_pos (by omega)]
        · rw [if_neg (by omega), if_neg (by omega), if_neg h1, if_neg (by omega), show i - 32 - 32 = i - 64 by omega]
          by_cases h3 : i < 128
          · rw [← hz (i - 64) (by omega), show 64 + (i - 64) = i by omega]
          · rw [Array.getElem?_eq_none (by omega), Array.getElem?_eq_none (by omega)]
theorem zeroHalf : ∀ j : Nat, j < 64 → (ints .u8 z128)[64 + j]? = (ints .u8 z64)[j]? := by
  intro j hj
  simp only [ints, List.getElem?_toArray, List.getElem?_map]
  rw [show z128[64 + j]? = z64[j]? from by
    unfold z128 z64
    rw [List.getElem?_replicate, List.getElem?_replicate, if_pos (by omega), if_pos hj]]
set_option maxRecDepth 100000 in
theorem zeroClash : ((Try.prog.info? 38).bind (·.zero)).map (fun z => z.cells) = some (ints .u8 z128) := by rw [z128_ints]; kernel_rfl
theorem built_half (x y : List Int) (hx : x.length = 32) (hy : y.length = 32) : Try.prog.built 38 [(0, .agg (ints .u8 x)), (1, .agg (ints .u8 y))] = some (ints .u8 (x ++ (y ++ z64))) := by
  rw [ints_app, ints_app]
  exact built_half0 Try.underlying38 zeroClash (by rw [ints_size]; rfl) (by kernel_rfl) _ _ _ (by rw [ints_size, hx]) (by rw [ints_size, hy]) (by rw [ints_size]; rfl) zeroHalf
theorem setsL_mid : ∀ (vs m a b : List Int), m.length = vs.length → setsL (a ++ (m ++ b)) a.length vs = a ++ (vs ++ b)
  | [], [], _, _, _ => rfl
  | [], _ :: _, _, _, h => by simp at h
  | _ :: _, [], _, _, h => by simp at h
  | v :: vs, c :: m, a, b, h => by
    have e : (a ++ (c :: m ++ b)).set a.length v = (a ++ [v]) ++ (m ++ b) := by simp [List.set_append]
    show setsL ((a ++ (c :: m ++ b)).set a.length v) (a.length + 1) vs = _
    have := setsL_mid vs m (a ++ [v]) b (by simpa using h)
    rw [List.length_append, List.length_singleton] at this
    rw [e, this]
    simp
/-- A key written over the third or the fourth part. -/
theorem sets_third (x y u v k : List Int) (hx : x.length = 32) (hy : y.length = 32) (hu : u.length = 32) (hk : k.length = 32) : setsL (x ++ (y ++ (u ++ v))) 64 k = x ++ (y ++ (k ++ v)) := by
  have := setsL_mid k u (x ++ y) v (by rw [hu, hk])
  rwa [List.length_append, hx, hy, List.append_assoc, List.append_assoc] at this
theorem sets_fourth (x y u v k : List Int) (hx : x.length = 32) (hy : y.length = 32) (hu : u.length = 32) (hv : v.length = 32) (hk : k.length = 32) : setsL (x ++ (y ++ (u ++ v))) 96 k = x ++ (y ++ (u ++ k)) := by
  have := setsL_mid k v (x ++ (y ++ u)) [] (by rw [hv, hk])
  rw [List.length_append, List.length_append, hx, hy, hu, List.append_nil, List.append_nil] at this
  simpa using this
theorem results_cct {P : Program} {fn : Func} {p q v : Tmp} {ty tz : TypeId} (h : fn.results = #[.cell p ty, .cell q tz, .tmp v]) (tmps : Array Value) (w : World) (g k : Nat) (t t' : TypeId) (cs ds : Array Value) (fr fs : Nat × Nat) (d d' : TypeDesc)
    (hp : tmps.getD p undef = .pointer (some ⟨g, 0, none⟩)) (hg : w.heap[g]? = some (.cells cs t fr)) (hq : tmps.getD q undef = .pointer (some ⟨k, 0, none⟩)) (hk : w.heap[k]? = some (.cells ds t' fs))
    (hu : P.underlying ty = some d) (hd : (match d with | .struct _ | .array _ _ => true | _ => false) = true) (hi : (P.info? ty).map (·.size) = some cs.size)
    (hu' : P.underlying tz = some d') (hd' : (match d' with | .struct _ | .array _ _ => true | _ => false) = true) (hi' : (P.info? tz).map (·.size) = some ds.size) :
    (results fn tmps).run P w = .ok (.tuple #[.agg cs, .agg ds, tmps.getD v undef]) w := by
  have hp' : tmps[p]?.getD undef = .pointer (some ⟨g, 0, none⟩) := by simpa using hp
  have hq' : tmps[q]?.getD undef = .pointer (some ⟨k, 0, none⟩) := by simpa using hq
  simp [results, h, hp', hq', asAddr, run_loadVar_row w g t ty cs fr d hg hu hd hi, run_loadVar_row w k t' tz ds fs d' hk hu' hd' hi']
theorem shR_len {kf pk : Nat → List Int} {leaf : List Int} (hl : Is32 leaf) : ∀ (n b i : Nat), i < n → (∀ j, j < n → Is32 (kf (b + j))) → (∀ j, j < dN n i → Is32 (pk j)) → ∃ x y u v, (shR kf pk leaf b n i).1 = x ++ (y ++ (u ++ v)) ∧ Is32 x ∧ Is32 y ∧ Is32 u ∧ Is32 v := by
  intro n
  induction n using Nat.strongRecOn with
  | _ n ih =>
    intro b i hi hk hs
    by_cases h2 : n ≤ 1
    · rw [shR_one h2]
      have hz : Is32 z32 := ⟨rfl, by decide⟩
      exact ⟨z32, z32, z32, z32, by decide, hz, hz, hz, hz⟩
    · have a1 := half_pos n
      have a2 := half_lt (n := n) (by omega)
      have t1 : Is32 (tkey kf b (half n)) := ⟨tkey_len a1 (fun j hj => (hk j (by omega)).1), tkey_range a1 (fun j hj => (hk j (by omega)).2)⟩
      have t2 : Is32 (tkey kf (b + half n) (n - half n)) := ⟨tkey_len (by omega) (fun j hj => by rw [Nat.add_assoc]; exact (hk _ (by omega)).1), tkey_range (by omega) (fun j hj => by rw [Nat.add_assoc]; exact (hk _ (by omega)).2)⟩
      by_cases h3 : i < half n
      · rw [dN_left (by omega) h3] at hs
        rw [shR_left (by omega) h3]
        split
        · exact ih _ a2 b i h3 (fun j hj => hk j (by omega)) (fun j hj => hs j (by omega))
        · exact ⟨_, _, _, _, rfl, t1, t2, ldN32 hl _ _, hs _ (by omega)⟩
      · rw [dN_right (by omega) h3] at hs
        rw [shR_right (by omega) h3]
        split
        · exact ih _ (by omega) _ _ (by omega) (fun j hj => by rw [Nat.add_assoc]; exact hk _ (by omega)) (fun j hj => hs j (by omega))
        · exact ⟨_, _, _, _, rfl, t1, t2, hs _ (by omega), ldN32 hl _ _⟩
theorem shR_congr {kf pk qk : Nat → List Int} {leaf : List Int} : ∀ (n b i : Nat), (∀ j, j < dN n i → pk j = qk j) → shR kf pk leaf b n i = shR kf qk leaf b n i := by
  intro n
  induction n using Nat.strongRecOn with
  | _ n ih =>
    intro b i h
    by_cases h2 : n ≤ 1
    · rw [shR_one h2, shR_one h2]
    · have a1 := half_pos n
      have a2 := half_lt (n := n) (by omega)
      by_cases h3 : i < half n
      · rw [dN_left (by omega) h3] at h
        rw [shR_left (by omega) h3, shR_left (by omega) h3, ih _ a2 b i (fun j hj => h j (by omega)), ldN_congr _ _ (fun j hj => h j (by omega)), h _ (by omega)]
      · rw [dN_right (by omega) h3] at h
        rw [shR_right (by omega) h3, shR_right (by omega) h3, ih _ (by omega) (b + half n) (i - half n) (fun j hj => h j (by omega)), ldN_congr _ _ (fun j hj => h j (by omega)), h _ (by omega)]
theorem wp_store_intsS {P : Program} {op : Oper} {a : Act} {w : World} {K : Act → World → Prop} {Q : Exit → Act → World → Prop} (ty : TypeId) (x y : Operand) (ho : op.op = .store ty x y)
    (b o : Nat) (κ : IntKind) (l : List Int) (hx : a.eval x = .pointer (some ⟨b, o, none⟩)) (hy : a.eval y = .agg (ints κ l))
    (ht : w.there b o l.length) (hi : (P.info? ty).map (·.size) = some l.length)
    (h : K (a.put op.dst undef) (w.setCells b o (l.map (Value.int κ)))) : op.wp P a w K Q :=
  wp_store_mid ty x y ho b o (ints κ l) hx hy (by rw [ints_size]; exact ht) (by rw [ints_size]; exact hi) (ints_one κ l) h
set_option maxRecDepth 100000 in
set_option maxHeartbeats 16000000 in
theorem shown_spec (w0 : World) (la lo N : Nat) (fl : List Int) (hN : N ≤ 1048575) (hra : RdK w0 (some ⟨la, lo, none⟩) N fl) (fb : ∀ z ∈ fl, 0 ≤ z ∧ z ≤ 255) (leaf : List Int) (hl : Is32 leaf) (cp : Nat) (hcp : cp ≤ maxLen) :
    ∀ (n b i k cl : Nat) (pa : Option Addr) (gl : List Int) (w : World), i < n → b + n ≤ N → n ≤ cl → cl ≤ maxLen → k = dN n i → k ≤ cp → (∀ z ∈ gl, 0 ≤ z ∧ z ≤ 255) → RdK w pa k gl → Below w0.heap.size w0 w →
    Calls Try.prog 87 #[.slice (some ⟨la, lo + b * 32, none⟩) n cl, .int .i64 (i : Int), .agg (ints .u8 leaf), .slice pa k cp] w fun e w' => e = .returned (.tuple #[.agg (ints .u8 (shR (keyAt fl) (keyAt gl) leaf b n i).1), .agg (ints .u8 (ldN (keyAt gl) leaf n i)), .bool (shR (keyAt fl) (keyAt gl) leaf b n i).2]) ∧ Below w.heap.size w w' := by
  have Hz := Lib.hid z128_ints
  have Hy := Lib.hid z32_ints
  have HLL := Lib.hid hl.1
  unfold maxLen at hcp
  intro n
  induction n using Nat.strongRecOn with
  | _ n ih =>
    intro b i k cl pa gl w hi hbn hcl hcm hk hkc gb hr hw0
    unfold maxLen at hcm
    have A0 := Lib.hid (heap3_0 w (.cells (ints .u8 leaf) 28) (.cells (ints .u8 z128) 38) (.cells (ints .u8 z32) 28))
    have A8 := Lib.hid (heap3_1 w (.cells (ints .u8 leaf) 28) (.cells (ints .u8 z128) 38) (.cells (ints .u8 z32) 28))
    have A9 := Lib.hid (heap3_2 w (.cells (ints .u8 leaf) 28) (.cells (ints .u8 z128) 38) (.cells (ints .u8 z32) 28))
    have B0 := Lib.hid ((((Below.refl w.heap.size w).alloc (Nat.le_refl _) (.cells (ints .u8 leaf) 28)).alloc (by simp) (.cells (ints .u8 z128) 38)).alloc (by simp; omega) (.cells (ints .u8 z32) 28))
    obtain ⟨W0, hW0⟩ : ∃ W0, ((w.alloc (.cells (ints .u8 leaf) 28)).alloc (.cells (ints .u8 z128) 38)).alloc (.cells (ints .u8 z32) 28) = W0 := ⟨_, rfl⟩
    have HS0 : Hid (W0.heap.size = w.heap.size + 3) := Lib.hid (by rw [← hW0]; simp)
    rw [hW0] at A0 A8 A9 B0
    rw [Hz.out, Hy.out] at hW0
    by_cases h2 : n = 1
    · subst h2
      rw [shR_one (Nat.le_refl 1), ldN_one (Nat.le_refl 1)]
      go_enter Try.func87, Try.ntmps87
      go_upto_region 3 with fail
      clear hW0
      refine wp_region_held_drew (S := fun U => U.heap[w.heap.size]? = some (.cells (ints .u8 leaf) 28) ∧ Below w.heap.size w U) (by kernel_rfl) ⟨A0.out, B0.out.drew⟩ (fun hS => ?_)
      have h8 : (W0.drew).heap[w.heap.size + 1]? = some (.cells (ints .u8 z128) 38) := A8.out
      have h9 : (W0.drew).heap[w.heap.size + 1 + 1]? = some (.cells (ints .u8 z32) 28) := A9.out
      refine take_at (i := 0) (v := .agg Try.zeroCells38) rfl rfl (by kernel_rfl) (by kernel_rfl) (by kernel_rfl) (fun _ _ _ h => h) (yields_built (by rfl) 38 _ Try.zeroCells38 rfl (by kernel_rfl)) hS ?_
      try simp only [List.setIfInBounds_toArray, List.set_cons_zero, List.set_cons_succ]
      refine take_at (i := 1) (v := .agg (ints .u8 leaf)) rfl rfl (by kernel_rfl) (by kernel_rfl) (by kernel_rfl) (fun _ _ _ h => h) (yields_row (by rfl) 28 _ rfl w.heap.size rfl (ints .u8 leaf) 28 _ (fun U hU => hU.1) Try.underlying28 rfl (by rw [ints_size, HLL.out]; exact sizeKey)) hS ?_
      try simp only [List.setIfInBounds_toArray, List.set_cons_zero, List.set_cons_succ]
      refine wpAnyH_ready (rs := [2]) (by kernel_rfl) (by simp) ?_
      refine AllReadyH.cons rfl (fun KQ hK => ?_) AllReadyH.nil
      rw [if_pos (by rfl)]
      refine wp_store_row (o := ⟨none, _, _, _, _, _⟩) 38 _ _ rfl (w.heap.size + 1) (Try.zeroCells38) rfl rfl 38 (ints .u8 z128) h8 (by rw [← Hz.out, ints_size]; exact sizeClash) (by rw [← Hz.out]) (by rw [← Hz.out]; exact ints_one _ _) ?_
      simp only [Act.put]
      have h9 := (setRow_other _ _ _ Try.zeroCells38 (show w.heap.size + 1 + 1 ≠ w.heap.size + 1 by omega)).trans h9
      have h8 := setRow_heap _ _ (ints .u8 z128) Try.zeroCells38 _ _ h8
      refine hK.out _ _ ⟨(setRow_other _ _ _ _ (by omega)).trans hS.1, Below.setRow hS.2 (by omega) _⟩ (fun hS => ?_)
      clear hK
      refine wpAnyH_ready (rs := [3]) (by kernel_rfl) (by simp) ?_
      refine AllReadyH.cons rfl (fun KQ hK => ?_) AllReadyH.nil
      rw [if_pos (by rfl)]
      refine wp_store_row (o := ⟨none, _, _, _, _, _⟩) 28 _ _ rfl (w.heap.size + 1 + 1) (ints .u8 leaf) rfl rfl 28 (ints .u8 z32) h9 (by rw [ints_size, HLL.out]; exact sizeKey) (by rw [ints_size, ints_size, HLL.out]; rfl) (ints_one _ _) ?_
      simp only [Act.put]
      have h8 := (setRow_other _ _ _ (ints .u8 leaf) (show w.heap.size + 1 ≠ w.heap.size + 1 + 1 by omega)).trans h8
      have h9 := setRow_heap _ _ (ints .u8 z32) (ints .u8 leaf) _ _ h9
      refine hK.out _ _ ⟨(setRow_other _ _ _ _ (by omega)).trans hS.1, Below.setRow hS.2 (by omega) _⟩ (fun hS => ?_)
      clear hK
      refine take_at (i := 4) (v := .bool false) rfl rfl (by kernel_rfl) (by kernel_rfl) (by kernel_rfl) (fun _ _ _ h => h) (Or.inl ⟨by rfl, fun U hU => by go_simp⟩) hS ?_
      try simp only [List.setIfInBounds_toArray, List.set_cons_zero, List.set_cons_succ]
      refine wpAnyH_done (by kernel_rfl) ?_ _
      go_wp2_with fail
      refine bodyPost_ret (results_cct rfl _ _ (w.heap.size + 1) (w.heap.size + 1 + 1) 38 28 Try.zeroCells38 (ints .u8 leaf) (0, 0) (0, 0) _ _ rfl h8 rfl h9 Try.underlying38 rfl (by rw [← Hz.out, ints_size]; exact sizeClash) Try.underlying28 rfl (by rw [ints_size, HLL.out]; exact sizeKey)) rfl ⟨by rw [Hz.out]; rfl, ?_⟩
      exact hS.2
    · have hm1 := half_pos n
      have hm2 := half_lt (n := n) (by omega)
      have Hhalf := Lib.hid (fun W => half_spec n (by omega) (by omega) W)
      have c1 : ¬ (n : Int) = 1 := by omega
      have c1' : ((n : Int) == 1) = false := beq_eq_false_iff_ne.2 c1
      have c2 : (n : Int) ≤ 1048575 := by omega
      have c3 : (0 : Int) ≤ (i : Int) := by omega
      have c4 : (i : Int) < (n : Int) := by omega
      have S1 := Lib.hid (fun U (hU : Below w.heap.size w U) => part_spec la lo N cl b (half n) fl (by omega) (by omega) (by omega) (by omega) (by unfold maxLen; omega) fb U (hra.below (hw0.trans (hU.mono hw0.size))))
      have S2 := Lib.hid (fun U (hU : Below w.heap.size w U) => by
        have := part_spec la lo N (cl - half n) (b + half n) (n - half n) fl (by omega) (by omega) (by omega) (by omega) (by unfold maxLen; omega) fb U (hra.below (hw0.trans (hU.mono hw0.size)))
        rwa [show lo + (b + half n) * 32 = lo + b * 32 + half n * 32 by omega] at this)
      have T1 := Lib.hid (tkey32 (b := b) hra.1 fb (show 1 ≤ half n by omega) (by omega))
      have T2 := Lib.hid (tkey32 (b := b + half n) hra.1 fb (show 1 ≤ n - half n by omega) (by omega))
      by_cases h3 : i < half n
      · rw [dN_left (by omega) h3] at hk
        rw [ldN_left (by omega) h3, shR_left (by omega) h3]
        generalize hj : dN (half n) i = j at hk ⊢
        have hjb : j ≤ 1048575 := by have := dN_le (half n) (i); omega
        subst hk
        obtain ⟨pb, po, rfl⟩ := hr.form (by omega)
        have HKEY := Lib.hid (hr.key j (by omega))
        have HKX : Hid (Is32 (keyAt gl j)) := Lib.hid ⟨keyAt_len hr.1 (show j < j + 1 by omega), keyAt_range gb j⟩
        have HIH := Lib.hid (fun U (hU : Below w.heap.size w U) => by
          have := ih (half n) (by omega) (b) (i) j (cl) (some ⟨pb, po, none⟩) (gl.take (32 * j)) U (by omega) (by omega) (by omega) (by unfold maxLen; omega) hj.symm (by omega) (fun z hz => gb z (List.mem_of_mem_take hz)) ((hr.below hU).take (by omega)) (hw0.trans (hU.mono hw0.size))
          rwa [ldN_congr (pk := keyAt (gl.take (32 * j))) (qk := keyAt gl) (half n) (i) (fun m hm => keyAt_take (by omega)), shR_congr (pk := keyAt (gl.take (32 * j))) (qk := keyAt gl) (half n) (b) (i) (fun m hm => keyAt_take (by omega))] at this)
        have HLD : Hid (Is32 (ldN (keyAt gl) leaf (half n) (i))) := Lib.hid (ldN32 hl _ _)
        obtain ⟨sx, sy, su, sv, hsc, hsx, hsy, hsu, hsv⟩ := shR_len (kf := keyAt fl) (pk := keyAt gl) hl (half n) (b) (i) (by omega) (fun m hm => ⟨keyAt_len hra.1 (by omega), keyAt_range fb _⟩) (fun m hm => ⟨keyAt_len hr.1 (by omega), keyAt_range gb _⟩)
        have HSL : Hid ((shR (keyAt fl) (keyAt gl) leaf (b) (half n) (i)).1.length = 128) := Lib.hid (by rw [hsc]; exact four_len hsx.1 hsy.1 hsu.1 hsv.1)
        obtain ⟨c0, f0, hcf⟩ : ∃ c0 f0, shR (keyAt fl) (keyAt gl) leaf (b) (half n) (i) = (c0, f0) := ⟨_, _, rfl⟩
        rw [hcf] at HIH HSL ⊢
        clear hsc hsx hsy hsu hsv sx sy su sv ih hra fb hr gb hw0 hcf
        simp only at HIH HSL
        have HB2 := Lib.hid (built_half (tkey (keyAt fl) b (half n)) (tkey (keyAt fl) (b + half n) (n - half n)) T1.out.1 T2.out.1)
        generalize tkey (keyAt fl) b (half n) = x at S1 T1 HB2 ⊢
        generalize tkey (keyAt fl) (b + half n) (n - half n) = y at S2 T2 HB2 ⊢
        generalize ldN (keyAt gl) leaf (half n) (i) = ld at HIH HLD ⊢
        generalize keyAt gl j = kx at HKEY HKX ⊢
        generalize half n = m at *
        have Hnd := Lib.hid (fun W => l03node_spec ld kx HLD.out.1 HLD.out.2 HKX.out.1 HKX.out.2 W)
        have HVC : Hid (∀ W : World, Calls Try.prog 23 #[.agg (ints .u8 (x ++ (y ++ (ld ++ kx))))] W fun z w' => z = .returned (.bool (clB x y ld kx)) ∧ Below W.heap.size W w') := Lib.hid (fun W => valid_spec x y ld kx T1.out T2.out HLD.out HKX.out W)
        have HNL := Lib.hid (nodeK_len ld kx)
        have HC := Lib.hid (four_len T1.out.1 T2.out.1 HLD.out.1 HKX.out.1)
        have HZ2 : Hid (x ++ (y ++ z64) = x ++ (y ++ (z32 ++ z32))) := Lib.hid rfl
        have HLZ := Lib.hid (four_len T1.out.1 T2.out.1 z32_len z32_len)
        have HST := Lib.hid (sets_third x y z32 z32 ld T1.out.1 T2.out.1 z32_len HLD.out.1)
        have HSF := Lib.hid (sets_fourth x y ld z32 kx T1.out.1 T2.out.1 HLD.out.1 z32_len HKX.out.1)
        generalize nodeK ld kx = nk at Hnd HNL ⊢
        generalize clB x y ld kx = vb at HVC ⊢
        have d1 :  (i : Int) < (m : Int) := by omega
        have d3 : (j : Int) + 1 ≤ (cp : Int) := by omega
        have d4 : (j : Int) ≤ (cp : Int) := by omega
        have d5 : j ≤ cp := by omega
        have d6 : (0 : Int) ≤ (j : Int) := by omega
        have d7 : (j : Int) ≤ 1048575 := by omega
        have d8 : j < j + 1 := by omega
        have d14 : ¬ (j : Int) + 1 ≤ (j : Int) := by omega
        have d9 : ¬ cp < j := by omega
        have d10 : (0 : Int) ≤ (m : Int) := by omega
        have d11 : (m : Int) < (n : Int) := by omega
        have d12 : (n : Int) ≤ (cl : Int) := by omega
        have d13 : (m : Int) ≤ (cl : Int) := by omega
        have d15 : m ≤ cl := by omega
        have d16 : ¬ cl < m := by omega
        have d17 : ¬ n < m := by omega
        have d18 : ¬ cl = m := by omega
        have d19 : (m : Int) ≤ (n : Int) := by omega
        have d20 : m < n := by omega
        have d21 : (m : Int) < (cl : Int) := by omega
        have d22 : m < cl := by omega
        clear hj
        go_enter Try.func87, Try.ntmps87
        go_wp2_with fail
        clear hW0
        refine (Hhalf.out _).mono ?_
        rintro e w1 ⟨rfl, rfl⟩
        go_upto_region 6 with fail
        go_cut [14] (fun s14 wx => ∃ g : Nat, s14 = .pointer (some ⟨g, 0, none⟩) ∧ W0.heap.size ≤ g ∧ wx.heap[g]? = some (.cells (ints .u8 (x ++ (y ++ z64))) 38) ∧ Below W0.heap.size W0 wx)
        case first =>
          refine wp_region_held_drew (S := Below (W0).heap.size (W0)) (by kernel_rfl) ((Below.refl _ _).drew) (fun hS => ?_)
          refine take_at (i := 0) (v := .slice (some ⟨la, lo + b * 32, none⟩) n cl) rfl rfl (by kernel_rfl) (by kernel_rfl) (by kernel_rfl) (fun _ _ _ h => h) (Or.inl ⟨by rfl, fun U hU => by go_simp⟩) hS ?_
          try simp only [List.setIfInBounds_toArray, List.set_cons_zero, List.set_cons_succ]
          refine take_at (i := 1) (v := .int .i64 (m : Int)) rfl rfl (by kernel_rfl) (by kernel_rfl) (by kernel_rfl) (fun _ _ _ h => h) (Or.inl ⟨by rfl, fun U hU => by go_simp⟩) hS ?_
          try simp only [List.setIfInBounds_toArray, List.set_cons_zero, List.set_cons_succ]
          refine take_at (i := 2) (v := .slice (some ⟨la, lo + b * 32, none⟩) m cl) rfl rfl (by kernel_rfl) (by kernel_rfl) (by kernel_rfl) (fun _ _ _ h => h) (Or.inl ⟨by rfl, fun U hU => by go_simp⟩) hS ?_
          try simp only [List.setIfInBounds_toArray, List.set_cons_zero, List.set_cons_succ]
          refine take_at (i := 4) (v := .slice (some ⟨la, lo + b * 32, none⟩) n cl) rfl rfl (by kernel_rfl) (by kernel_rfl) (by kernel_rfl) (fun _ _ _ h => h) (Or.inl ⟨by rfl, fun U hU => by go_simp⟩) hS ?_
          try simp only [List.setIfInBounds_toArray, List.set_cons_zero, List.set_cons_succ]
          refine take_at (i := 5) (v := .int .i64 (m : Int)) rfl rfl (by kernel_rfl) (by kernel_rfl) (by kernel_rfl) (fun _ _ _ h => h) (Or.inl ⟨by rfl, fun U hU => by go_simp⟩) hS ?_
          try simp only [List.setIfInBounds_toArray, List.set_cons_zero, List.set_cons_succ]
          refine take_at (i := 6) (v := .slice (some ⟨la, lo + b * 32 + m * 32, none⟩) (n - m) (cl - m)) rfl rfl (by kernel_rfl) (by kernel_rfl) (by kernel_rfl) (fun _ _ _ h => h) (Or.inl ⟨by rfl, fun U hU => by go_simp⟩) hS ?_
          try simp only [List.setIfInBounds_toArray, List.set_cons_zero, List.set_cons_succ]
          refine wpAnyH_ready (rs := [3, 9]) (by kernel_rfl) (by simp) ?_
          refine AllReadyH.cons rfl (fun KQ hK => ?_) (AllReadyH.cons rfl (fun KQ hK => ?_) AllReadyH.nil)
          · rw [if_pos (by rfl)]
            go_simp
            refine (S1.out _ (B0.out.trans (hS.mono B0.out.size))).mono ?_
            rintro e u0 ⟨rfl, hb⟩
            refine hK.out _ _ (below_call hS hS.size hb) (fun hS => ?_)
            clear hb hK
            refine wpAnyH_ready (rs := [7, 9]) (by kernel_rfl) (by simp) ?_
            refine AllReadyH.cons rfl (fun KQ hK => ?_) (AllReadyH.cons rfl (fun KQ hK => ?_) AllReadyH.nil)
            · rw [if_pos (by rfl)]
              go_simp
              refine (S2.out _ (B0.out.trans (hS.mono B0.out.size))).mono ?_
              rintro e u1 ⟨rfl, hb⟩
              refine hK.out _ _ (below_call hS hS.size hb) (fun hS => ?_)
              clear hb hK
              refine take_at (i := 8) (v := .agg (ints .u8 (x ++ (y ++ z64)))) rfl rfl (by kernel_rfl) (by kernel_rfl) (by kernel_rfl) (fun _ _ _ h => h) (yields_built (by rfl) 38 _ (ints .u8 (x ++ (y ++ z64))) rfl (by simp only [List.map_toArray, List.map_cons, List.map_nil]; exact HB2.out)) hS ?_
              try simp only [List.setIfInBounds_toArray, List.set_cons_zero, List.set_cons_succ]
              refine wpAnyH_ready (rs := [9]) (by kernel_rfl) (by simp) ?_
              refine AllReadyH.cons rfl (fun KQ hK => ?_) AllReadyH.nil
              rw [if_pos (by rfl)]
              go_simp
              have hg := new_block (t := 38) Hz.out hS
              have hgg := hS.size
              refine hK.out _ _ (hS.alloc hS.size _) (fun hS => ?_)
              clear hK
              refine wpAnyH_ready (rs := [10]) (by kernel_rfl) (by simp) ?_
              refine AllReadyH.cons rfl (fun KQ hK => ?_) AllReadyH.nil
              rw [if_pos (by rfl)]
              refine wp_store_row (o := ⟨none, _, _, _, _, _⟩) 38 _ _ rfl _ (ints .u8 (x ++ (y ++ z64))) rfl rfl 38 (ints .u8 z128) hg (by rw [HZ2.out, ints_size, HLZ.out]; exact sizeClash) (by rw [HZ2.out, ints_size, ints_size, HLZ.out]; rfl) (ints_one _ _) ?_
              simp only [Act.put]
              refine hK.out _ _ (Below.setRow hS hgg _) (fun hS => ?_)
              clear hK
              refine wpAnyH_done (by kernel_rfl) ?_ _
              go_wp2_with fail
              go_meet
              exact ⟨_, rfl, hgg, setRow_heap _ _ _ _ _ _ hg, hS⟩
            · rw [if_pos (by rfl)]
              go_simp
              have hg := new_block (t := 38) Hz.out hS
              have hgg := hS.size
              refine hK.out _ _ (hS.alloc hS.size _) (fun hS => ?_)
              clear hK
              refine wpAnyH_ready (rs := [7]) (by kernel_rfl) (by simp) ?_
              refine AllReadyH.cons rfl (fun KQ hK => ?_) AllReadyH.nil
              rw [if_pos (by rfl)]
              go_simp
              refine (S2.out _ (B0.out.trans (hS.mono B0.out.size))).mono ?_
              rintro e u1 ⟨rfl, hb⟩
              have hg := keep_block hg hb
              refine hK.out _ _ (below_call hS hS.size hb) (fun hS => ?_)
              clear hb hK
              refine take_at (i := 8) (v := .agg (ints .u8 (x ++ (y ++ z64)))) rfl rfl (by kernel_rfl) (by kernel_rfl) (by kernel_rfl) (fun _ _ _ h => h) (yields_built (by rfl) 38 _ (ints .u8 (x ++ (y ++ z64))) rfl (by simp only [List.map_toArray, List.map_cons, List.map_nil]; exact HB2.out)) hS ?_
              try simp only [List.setIfInBounds_toArray, List.set_cons_zero, List.set_cons_succ]
              refine wpAnyH_ready (rs := [10]) (by kernel_rfl) (by simp) ?_
              refine AllReadyH.cons rfl (fun KQ hK => ?_) AllReadyH.nil
              rw [if_pos (by rfl)]
              refine wp_store_row (o := ⟨none, _, _, _, _, _⟩) 38 _ _ rfl _ (ints .u8 (x ++ (y ++ z64))) rfl rfl 38 (ints .u8 z128) hg (by rw [HZ2.out, ints_size, HLZ.out]; exact sizeClash) (by rw [HZ2.out, ints_size, ints_size, HLZ.out]; rfl) (ints_one _ _) ?_
              simp only [Act.put]
              refine hK.out _ _ (Below.setRow hS hgg _) (fun hS => ?_)
              clear hK
              refine wpAnyH_done (by kernel_rfl) ?_ _
              go_wp2_with fail
              go_meet
              exact ⟨_, rfl, hgg, setRow_heap _ _ _ _ _ _ hg, hS⟩
          · rw [if_pos (by rfl)]
            go_simp
            have hg := new_block (t := 38) Hz.out hS
            have hgg := hS.size
            refine hK.out _ _ (hS.alloc hS.size _) (fun hS => ?_)
            clear hK
            refine wpAnyH_ready (rs := [3]) (by kernel_rfl) (by simp) ?_
            refine AllReadyH.cons rfl (fun KQ hK => ?_) AllReadyH.nil
            rw [if_pos (by rfl)]
            go_simp
            refine (S1.out _ (B0.out.trans (hS.mono B0.out.size))).mono ?_
            rintro e u0 ⟨rfl, hb⟩
            have hg := keep_block hg hb
            refine hK.out _ _ (below_call hS hS.size hb) (fun hS => ?_)
            clear hb hK
            refine wpAnyH_ready (rs := [7]) (by kernel_rfl) (by simp) ?_
            refine AllReadyH.cons rfl (fun KQ hK => ?_) AllReadyH.nil
            rw [if_pos (by rfl)]
            go_simp
            refine (S2.out _ (B0.out.trans (hS.mono B0.out.size))).mono ?_
            rintro e u1 ⟨rfl, hb⟩
            have hg := keep_block hg hb
            refine hK.out _ _ (below_call hS hS.size hb) (fun hS => ?_)
            clear hb hK
            refine take_at (i := 8) (v := .agg (ints .u8 (x ++ (y ++ z64)))) rfl rfl (by kernel_rfl) (by kernel_rfl) (by kernel_rfl) (fun _ _ _ h => h) (yields_built (by rfl) 38 _ (ints .u8 (x ++ (y ++ z64))) rfl (by simp only [List.map_toArray, List.map_cons, List.map_nil]; exact HB2.out)) hS ?_
            try simp only [List.setIfInBounds_toArray, List.set_cons_zero, List.set_cons_succ]
            refine wpAnyH_ready (rs := [10]) (by kernel_rfl) (by simp) ?_
            refine AllReadyH.cons rfl (fun KQ hK => ?_) AllReadyH.nil
            rw [if_pos (by rfl)]
            refine wp_store_row (o := ⟨none, _, _, _, _, _⟩) 38 _ _ rfl _ (ints .u8 (x ++ (y ++ z64))) rfl rfl 38 (ints .u8 z128) hg (by rw [HZ2.out, ints_size, HLZ.out]; exact sizeClash) (by rw [HZ2.out, ints_size, ints_size, HLZ.out]; rfl) (ints_one _ _) ?_
            simp only [Act.put]
            refine hK.out _ _ (Below.setRow hS hgg _) (fun hS => ?_)
            clear hK
            refine wpAnyH_done (by kernel_rfl) ?_ _
            go_wp2_with fail
            go_meet
            exact ⟨_, rfl, hgg, setRow_heap _ _ _ _ _ _ hg, hS⟩
        case rest =>
          obtain ⟨g, rfl, hgg, hG, hBX⟩ := hcut
          have HG0 : Hid (w.heap.size + 3 ≤ g) := Lib.hid (by have := HS0.out; omega)
          have GW : Hid (g < wc.heap.size) := Lib.hid (Array.getElem?_eq_some_iff.1 hG).1
          have L1 := laid_below wc (ints .u8 z128) (ints .u8 z128) 38
          have B1 := Lib.hid (below_call (below_call B0.out B0.out.size hBX) (below_call B0.out B0.out.size hBX).size L1)
          have P0 := Lib.hid (keep_block (keep_block A0.out hBX) L1)
          have P8 := Lib.hid (keep_block (keep_block A8.out hBX) L1)
          have P9 := Lib.hid (keep_block (keep_block A9.out hBX) L1)
          have G1 := Lib.hid (keep_block hG L1)
          have E1 := Lib.hid (laid_new wc (ints .u8 z128) (ints .u8 z128) 38)
          rw [HZ2.out] at G1
          clear hG hBX hgg L1
          rw [Hz.out] at B1 P0 P8 P9 G1 E1
          go_upto_region 10 with (refine wpList_store_row rfl 38 (.tmp 15) _ rfl wc.heap.size Try.zeroCells38 rfl rfl 38 Try.zeroCells38 (heap_alloc_last _ _) (by rw [← Hz.out, ints_size]; exact sizeClash) (by rw [← Hz.out]) (by rw [← Hz.out]; exact ints_one _ _) ?_)
          try simp only [Act.put, List.setIfInBounds_toArray, List.set_cons_zero, List.set_cons_succ]
          rw [← Hz.out] at B1 P0 P8 P9 G1 E1 ⊢
          generalize (wc.alloc (.cells (ints .u8 z128) 38)).setRow wc.heap.size (ints .u8 z128) = W1 at B1 P0 P8 P9 G1 E1 ⊢
          have GW5 : Hid (g < wc.heap.size) := GW
          generalize wc.heap.size = g5 at GW GW5 E1 ⊢
          go_cut [16] (fun s16 wx => s16 = .bool f0 ∧ wx.heap[g5]? = some (.cells (ints .u8 c0) 38) ∧ wx.heap[g]? = some (.cells (ints .u8 (x ++ (y ++ (ld ++ z32)))) 38) ∧ wx.heap[w.heap.size + 1]? = some (.cells (ints .u8 z128) 38) ∧ wx.heap[w.heap.size + 1 + 1]? = some (.cells (ints .u8 z32) 28) ∧ Below w.heap.size w wx)
          case first =>
            refine wp_region_held_drew (S := fun U => U.heap[w.heap.size]? = some (.cells (ints .u8 leaf) 28) ∧ Below w.heap.size w U) (by kernel_rfl) ⟨P0.out, B1.out.drew⟩ (fun hS => ?_)
            have h8 : (W1.drew).heap[w.heap.size + 1]? = some (.cells (ints .u8 z128) 38) := P8.out
            have h9 : (W1.drew).heap[w.heap.size + 1 + 1]? = some (.cells (ints .u8 z32) 28) := P9.out
            have hg : (W1.drew).heap[g]? = some (.cells (ints .u8 (x ++ (y ++ (z32 ++ z32)))) 38) := G1.out
            have h5 : (W1.drew).heap[g5]? = some (.cells (ints .u8 z128) 38) := E1.out
            refine take_at (i := 0) (v := .slice (some ⟨la, lo + b * 32, none⟩) n cl) rfl rfl (by kernel_rfl) (by kernel_rfl) (by kernel_rfl) (fun _ _ _ h => h) (Or.inl ⟨by rfl, fun U hU => by go_simp⟩) hS ?_
            try simp only [List.setIfInBounds_toArray, List.set_cons_zero, List.set_cons_succ]
            refine take_at (i := 1) (v := .int .i64 (m : Int)) rfl rfl (by kernel_rfl) (by kernel_rfl) (by kernel_rfl) (fun _ _ _ h => h) (Or.inl ⟨by rfl, fun U hU => by go_simp⟩) hS ?_
            try simp only [List.setIfInBounds_toArray, List.set_cons_zero, List.set_cons_succ]
            refine take_at (i := 2) (v := .slice (some ⟨la, lo + b * 32, none⟩) m cl) rfl rfl (by kernel_rfl) (by kernel_rfl) (by kernel_rfl) (fun _ _ _ h => h) (Or.inl ⟨by rfl, fun U hU => by go_simp⟩) hS ?_
            try simp only [List.setIfInBounds_toArray, List.set_cons_zero, List.set_cons_succ]
            refine take_at (i := 3) (v := .int .i64 (i : Int)) rfl rfl (by kernel_rfl) (by kernel_rfl) (by kernel_rfl) (fun _ _ _ h => h) (Or.inl ⟨by rfl, fun U hU => by go_simp⟩) hS ?_
            try simp only [List.setIfInBounds_toArray, List.set_cons_zero, List.set_cons_succ]
            refine take_at (i := 4) (v := .agg (ints .u8 leaf)) rfl rfl (by kernel_rfl) (by kernel_rfl) (by kernel_rfl) (fun _ _ _ h => h) (yields_row (by rfl) 28 _ rfl w.heap.size rfl (ints .u8 leaf) 28 _ (fun U hU => hU.1) Try.underlying28 rfl (by rw [ints_size, HLL.out]; exact sizeKey)) hS ?_
            try simp only [List.setIfInBounds_toArray, List.set_cons_zero, List.set_cons_succ]
            refine take_at (i := 5) (v := .slice (some ⟨pb, po, none⟩) (j + 1) cp) rfl rfl (by kernel_rfl) (by kernel_rfl) (by kernel_rfl) (fun _ _ _ h => h) (Or.inl ⟨by rfl, fun U hU => by go_simp⟩) hS ?_
            try simp only [List.setIfInBounds_toArray, List.set_cons_zero, List.set_cons_succ]
            refine take_at (i := 6) (v := .int .i64 (j : Int)) rfl rfl (by kernel_rfl) (by kernel_rfl) (by kernel_rfl) (fun _ _ _ h => h) (Or.inl ⟨by rfl, fun U hU => by go_simp⟩) hS ?_
            try simp only [List.setIfInBounds_toArray, List.set_cons_zero, List.set_cons_succ]
            refine take_at (i := 7) (v := .slice (some ⟨pb, po, none⟩) j cp) rfl rfl (by kernel_rfl) (by kernel_rfl) (by kernel_rfl) (fun _ _ _ h => h) (Or.inl ⟨by rfl, fun U hU => by go_simp⟩) hS ?_
            try simp only [List.setIfInBounds_toArray, List.set_cons_zero, List.set_cons_succ]
            refine wpAnyH_ready (rs := [8]) (by kernel_rfl) (by simp) ?_
            refine AllReadyH.cons rfl (fun KQ hK => ?_) AllReadyH.nil
            rw [if_pos (by rfl)]
            go_simp
            refine (HIH.out _ hS.2).mono ?_
            rintro e u1 ⟨rfl, hb⟩
            have h8 := keep_block h8 hb
            have h9 := keep_block h9 hb
            have hg := keep_block hg hb
            have h5 := keep_block h5 hb
            refine hK.out _ _ ⟨keep_block hS.1 hb, below_call hS.2 hS.2.size hb⟩ (fun hS => ?_)
            clear hb hK
            refine take_at (i := 9) (v := .tuple #[.agg (ints .u8 c0), .agg (ints .u8 ld), .bool f0]) rfl rfl (by kernel_rfl) (by kernel_rfl) (by kernel_rfl) (fun _ _ _ h => h) (Or.inl ⟨by rfl, fun U hU => by go_simp⟩) hS ?_
            try simp only [List.setIfInBounds_toArray, List.set_cons_zero, List.set_cons_succ]
            refine take_at (i := 10) (v := .agg (ints .u8 c0)) rfl rfl (by kernel_rfl) (by kernel_rfl) (by kernel_rfl) (fun _ _ _ h => h) (Or.inl ⟨by rfl, fun U hU => by go_simp⟩) hS ?_
            try simp only [List.setIfInBounds_toArray, List.set_cons_zero, List.set_cons_succ]
            refine take_at (i := 11) (v := .agg (ints .u8 ld)) rfl rfl (by kernel_rfl) (by kernel_rfl) (by kernel_rfl) (fun _ _ _ h => h) (Or.inl ⟨by rfl, fun U hU => by go_simp⟩) hS ?_
            try simp only [List.setIfInBounds_toArray, List.set_cons_zero, List.set_cons_succ]
            refine take_at (i := 12) (v := .bool f0) rfl rfl (by kernel_rfl) (by kernel_rfl) (by kernel_rfl) (fun _ _ _ h => h) (Or.inl ⟨by rfl, fun U hU => by go_simp⟩) hS ?_
            try simp only [List.setIfInBounds_toArray, List.set_cons_zero, List.set_cons_succ]
            have hn := HG0.out
            have hm := GW5.out
            refine wpAnyH_ready (rs := [13]) (by kernel_rfl) (by simp) ?_
            refine AllReadyH.cons rfl (fun KQ hK => ?_) AllReadyH.nil
            rw [if_pos (by rfl)]
            refine wp_store_row (o := ⟨none, _, _, _, _, _⟩) 38 _ _ rfl g5 (ints .u8 c0) rfl rfl 38 (ints .u8 z128) h5 (by rw [ints_size, HSL.out]; exact sizeClash) (by rw [ints_size, ints_size, HSL.out]; rfl) (ints_one _ _) ?_
            simp only [Act.put]
            have h8 := (setRow_other _ _ _ (ints .u8 c0) (show w.heap.size + 1 ≠ g5 by omega)).trans h8
            have h9 := (setRow_other _ _ _ (ints .u8 c0) (show w.heap.size + 1 + 1 ≠ g5 by omega)).trans h9
            have hg := (setRow_other _ _ _ (ints .u8 c0) (show g ≠ g5 by omega)).trans hg
            have h5 := setRow_heap _ _ (ints .u8 z128) (ints .u8 c0) _ _ h5
            refine hK.out _ _ ⟨(setRow_other _ _ _ _ (by omega)).trans hS.1, Below.setRow hS.2 (by omega) _⟩ (fun hS => ?_)
            clear hK
            refine take_at (i := 14) (v := .pointer (some ⟨g, 64, none⟩)) rfl rfl (by kernel_rfl) (by kernel_rfl) (by kernel_rfl) (fun _ _ _ h => h) (Or.inl ⟨by rfl, fun U hU => by go_simp⟩) hS ?_
            try simp only [List.setIfInBounds_toArray, List.set_cons_zero, List.set_cons_succ]
            refine wpAnyH_ready (rs := [15]) (by kernel_rfl) (by simp) ?_
            refine AllReadyH.cons rfl (fun KQ hK => ?_) AllReadyH.nil
            rw [if_pos (by rfl)]
            refine wp_store_intsS (op := ⟨none, _, _, _, _, _⟩) 28 _ _ rfl g 64 .u8 ld rfl rfl (there_row hg (by rw [HLZ.out, HLD.out.1]; omega)) (by rw [HLD.out.1]; exact sizeKey) ?_
            simp only [Act.put]
            have h8 := (heap_setCells_far (show w.heap.size + 1 ≠ g by omega) (ld.map (Value.int .u8)) 64 _).trans h8
            have h9 := (heap_setCells_far (show w.heap.size + 1 + 1 ≠ g by omega) (ld.map (Value.int .u8)) 64 _).trans h9
            have h5 := (heap_setCells_far (show g5 ≠ g by omega) (ld.map (Value.int .u8)) 64 _).trans h5
            have hg := heap_setCells_ints ld 64 _ _ hg
            rw [HST.out] at hg
            refine hK.out _ _ ⟨(heap_setCells_far (by omega) _ _ _).trans hS.1, below_setCells_k (by omega) _ _ _ hS.2⟩ (fun hS => ?_)
            clear hK
            refine take_at (i := 16) (v := .bool f0) rfl rfl (by kernel_rfl) (by kernel_rfl) (by kernel_rfl) (fun _ _ _ h => h) (Or.inl ⟨by rfl, fun U hU => by go_simp⟩) hS ?_
            try simp only [List.setIfInBounds_toArray, List.set_cons_zero, List.set_cons_succ]
            refine wpAnyH_done (by kernel_rfl) ?_ _
            go_wp2_with fail
            go_meet
            exact ⟨rfl, h5, hg, h8, h9, hS.2⟩
          case rest =>
            obtain ⟨rfl, h5, hg, h8, h9, hB⟩ := hcut
            have hn := HG0.out
            have hm := GW5.out
            have HNM : Hid (w.heap.size + 3 ≤ g ∧ g < g5) := Lib.hid ⟨hn, hm⟩
            have G3 := heap_setCells_ints kx 96 _ _ hg
            rw [HSF.out] at G3
            have GG := Lib.hid G3
            have E3 := Lib.hid ((heap_setCells_far (show g5 ≠ g by omega) (kx.map (Value.int .u8)) 96 _).trans h5)
            have P83 := Lib.hid ((heap_setCells_far (show w.heap.size + 1 ≠ g by omega) (kx.map (Value.int .u8)) 96 _).trans h8)
            have P93 := Lib.hid ((heap_setCells_far (show w.heap.size + 1 + 1 ≠ g by omega) (kx.map (Value.int .u8)) 96 _).trans h9)
            have B3 := Lib.hid (below_setCells_k (show w.heap.size ≤ g by omega) (kx.map (Value.int .u8)) 96 _ hB)
            have HGC := Lib.hid hg
            have HBC := Lib.hid hB
            have HHL : Hid ((((x ++ (y ++ (ld ++ z32)))) : List Int).length = 128) := Lib.hid (four_len T1.out.1 T2.out.1 HLD.out.1 z32_len)
            clear G3 h5 hg h8 h9 hB hn hm
            go_upto_region 14 with (first | (refine wpList_load_ints rfl 28 (.tmp 58) rfl pb (po + j * 32) rfl .u8 kx _ (rangeAt_below HKEY.out HBC.out) Try.underlying28 rfl (by rw [HKX.out.1]; exact sizeKey) ?_) | (refine wpList_store_ints rfl 28 _ _ rfl g 96 .u8 kx rfl rfl (there_row HGC.out (by rw [HHL.out, HKX.out.1]; omega)) (by rw [HKX.out.1]; exact sizeKey) ?_))
            try simp only [Act.put, List.setIfInBounds_toArray, List.set_cons_zero, List.set_cons_succ]
            clear HGC HBC
            generalize wc.setCells g 96 (kx.map (Value.int .u8)) = W3 at GG E3 P83 P93 B3 ⊢
            have HRR := Lib.hid (four_rng T1.out.1 T2.out.1 HLD.out.1 HKX.out.1 GG.out)
            go_wp2_with (first | (refine wpList_load_ints rfl 28 (.tmp 82) rfl g 64 rfl .u8 ld _ HRR.out.2.2.1 Try.underlying28 rfl (by rw [HLD.out.1]; exact sizeKey) ?_) | (refine wpList_load_ints rfl 28 (.tmp 84) rfl g 96 rfl .u8 kx _ HRR.out.2.2.2 Try.underlying28 rfl (by rw [HKX.out.1]; exact sizeKey) ?_))
            refine (Hnd.out _).mono ?_
            rintro e w4 ⟨rfl, hb⟩
            have L4 := laid_below w4 (ints .u8 z32) (ints .u8 nk) 28
            have BW := hb.trans (L4.mono hb.size)
            have N4 := Lib.hid (laid_new w4 (ints .u8 z32) (ints .u8 nk) 28)
            have G4 := Lib.hid (keep_block GG.out BW)
            have E4 := Lib.hid (keep_block E3.out BW)
            have P84 := Lib.hid (keep_block P83.out BW)
            have P94 := Lib.hid (keep_block P93.out BW)
            have B4 := Lib.hid (below_call B3.out B3.out.size BW)
            have HN7 : Hid (g5 < w4.heap.size) := Lib.hid (by have h := (Array.getElem?_eq_some_iff.1 E3.out).1; have := hb.size; omega)
            clear L4 BW hb HRR GG E3 P83 P93 B3
            rw [Hy.out] at N4 G4 E4 P84 P94 B4
            cases f0 with
            | true =>
              go_upto_region 16 with (refine wpList_store_row rfl 28 (.tmp 17) _ rfl w4.heap.size (ints .u8 nk) rfl rfl 28 (ints .u8 z32) (by rw [Hy.out]; exact heap_alloc_last _ _) (by rw [ints_size, HNL.out]; exact sizeKey) (by rw [ints_size, ints_size, HNL.out]; rfl) (ints_one _ _) ?_)
              rw [← Hy.out] at N4 G4 E4 P84 P94 B4 ⊢
              generalize (w4.alloc (.cells (ints .u8 z32) 28)).setRow w4.heap.size (ints .u8 nk) = W5 at N4 G4 E4 P84 P94 B4 ⊢
              generalize w4.heap.size = g7 at N4 HN7 ⊢
              have hn := HNM.out
              have hm := HN7.out
              have h8 : (W5.drew).heap[w.heap.size + 1]? = some (.cells (ints .u8 z128) 38) := P84.out
              have h9 : (W5.drew).heap[w.heap.size + 1 + 1]? = some (.cells (ints .u8 z32) 28) := P94.out
              refine wp_region_held_drew (S := fun U => U.heap[g5]? = some (.cells (ints .u8 c0) 38) ∧ U.heap[g7]? = some (.cells (ints .u8 nk) 28) ∧ Below w.heap.size w U) (by kernel_rfl) ⟨E4.out, N4.out, B4.out.drew⟩ (fun hS => ?_)
              refine take_at (i := 0) (v := .agg (ints .u8 c0)) rfl rfl (by kernel_rfl) (by kernel_rfl) (by kernel_rfl) (fun _ _ _ h => h) (yields_row (by rfl) 38 _ rfl g5 rfl (ints .u8 c0) 38 _ (fun U hU => hU.1) Try.underlying38 rfl (by rw [ints_size, HSL.out]; exact sizeClash)) hS ?_
              try simp only [List.setIfInBounds_toArray, List.set_cons_zero, List.set_cons_succ]
              refine take_at (i := 1) (v := .agg (ints .u8 nk)) rfl rfl (by kernel_rfl) (by kernel_rfl) (by kernel_rfl) (fun _ _ _ h => h) (yields_row (by rfl) 28 _ rfl g7 rfl (ints .u8 nk) 28 _ (fun U hU => hU.2.1) Try.underlying28 rfl (by rw [ints_size, HNL.out]; exact sizeKey)) hS ?_
              try simp only [List.setIfInBounds_toArray, List.set_cons_zero, List.set_cons_succ]
              refine wpAnyH_ready (rs := [2]) (by kernel_rfl) (by simp) ?_
              refine AllReadyH.cons rfl (fun KQ hK => ?_) AllReadyH.nil
              rw [if_pos (by rfl)]
              refine wp_store_row (o := ⟨none, _, _, _, _, _⟩) 38 _ _ rfl (w.heap.size + 1) (ints .u8 c0) rfl rfl 38 (ints .u8 z128) h8 (by rw [ints_size, HSL.out]; exact sizeClash) (by rw [ints_size, ints_size, HSL.out]; rfl) (ints_one _ _) ?_
              simp only [Act.put]
              have h9 := (setRow_other _ _ _ (ints .u8 c0) (show w.heap.size + 1 + 1 ≠ w.heap.size + 1 by omega)).trans h9
              have h8 := setRow_heap _ _ (ints .u8 z128) (ints .u8 c0) _ _ h8
              refine hK.out _ _ ⟨(setRow_other _ _ _ _ (by omega)).trans hS.1, (setRow_other _ _ _ _ (by omega)).trans hS.2.1, Below.setRow hS.2.2 (by omega) _⟩ (fun hS => ?_)
              clear hK
              refine wpAnyH_ready (rs := [3]) (by kernel_rfl) (by simp) ?_
              refine AllReadyH.cons rfl (fun KQ hK => ?_) AllReadyH.nil
              rw [if_pos (by rfl)]
              refine wp_store_row (o := ⟨none, _, _, _, _, _⟩) 28 _ _ rfl (w.heap.size + 1 + 1) (ints .u8 nk) rfl rfl 28 (ints .u8 z32) h9 (by rw [ints_size, HNL.out]; exact sizeKey) (by rw [ints_size, ints_size, HNL.out]; rfl) (ints_one _ _) ?_
              simp only [Act.put]
              have h8 := (setRow_other _ _ _ (ints .u8 nk) (show w.heap.size + 1 ≠ w.heap.size + 1 + 1 by omega)).trans h8
              have h9 := setRow_heap _ _ (ints .u8 z32) (ints .u8 nk) _ _ h9
              refine hK.out _ _ ⟨(setRow_other _ _ _ _ (by omega)).trans hS.1, (setRow_other _ _ _ _ (by omega)).trans hS.2.1, Below.setRow hS.2.2 (by omega) _⟩ (fun hS => ?_)
              clear hK
              refine take_at (i := 4) (v := .bool true) rfl rfl (by kernel_rfl) (by kernel_rfl) (by kernel_rfl) (fun _ _ _ h => h) (Or.inl ⟨by rfl, fun U hU => by go_simp⟩) hS ?_
              try simp only [List.setIfInBounds_toArray, List.set_cons_zero, List.set_cons_succ]
              refine wpAnyH_done (by kernel_rfl) ?_ _
              go_wp2_with fail
              refine bodyPost_ret (results_cct rfl _ _ (w.heap.size + 1) (w.heap.size + 1 + 1) 38 28 (ints .u8 c0) (ints .u8 nk) (0, 0) (0, 0) _ _ rfl h8 rfl h9 Try.underlying38 rfl (by rw [ints_size, HSL.out]; exact sizeClash) Try.underlying28 rfl (by rw [ints_size, HNL.out]; exact sizeKey)) rfl ⟨rfl, ?_⟩
              exact hS.2.2
            | false =>
              go_upto_region 17 with (refine wpList_store_row rfl 28 (.tmp 17) _ rfl w4.heap.size (ints .u8 nk) rfl rfl 28 (ints .u8 z32) (by rw [Hy.out]; exact heap_alloc_last _ _) (by rw [ints_size, HNL.out]; exact sizeKey) (by rw [ints_size, ints_size, HNL.out]; rfl) (ints_one _ _) ?_)
              rw [← Hy.out] at N4 G4 E4 P84 P94 B4 ⊢
              generalize (w4.alloc (.cells (ints .u8 z32) 28)).setRow w4.heap.size (ints .u8 nk) = W5 at N4 G4 E4 P84 P94 B4 ⊢
              generalize w4.heap.size = g7 at N4 HN7 ⊢
              have hn := HNM.out
              have hm := HN7.out
              have h8 : (W5.drew).heap[w.heap.size + 1]? = some (.cells (ints .u8 z128) 38) := P84.out
              have h9 : (W5.drew).heap[w.heap.size + 1 + 1]? = some (.cells (ints .u8 z32) 28) := P94.out
              refine wp_region_held_drew (S := fun U => U.heap[g]? = some (.cells (ints .u8 (x ++ (y ++ (ld ++ kx)))) 38) ∧ U.heap[g7]? = some (.cells (ints .u8 nk) 28) ∧ Below w.heap.size w U) (by kernel_rfl) ⟨G4.out, N4.out, B4.out.drew⟩ (fun hS => ?_)
              refine take_at (i := 0) (v := .agg (ints .u8 (x ++ (y ++ (ld ++ kx))))) rfl rfl (by kernel_rfl) (by kernel_rfl) (by kernel_rfl) (fun _ _ _ h => h) (yields_row (by rfl) 38 _ rfl g rfl (ints .u8 (x ++ (y ++ (ld ++ kx)))) 38 _ (fun U hU => hU.1) Try.underlying38 rfl (by rw [ints_size, HC.out]; exact sizeClash)) hS ?_
              try simp only [List.setIfInBounds_toArray, List.set_cons_zero, List.set_cons_succ]
              refine take_at (i := 1) (v := .agg (ints .u8 nk)) rfl rfl (by kernel_rfl) (by kernel_rfl) (by kernel_rfl) (fun _ _ _ h => h) (yields_row (by rfl) 28 _ rfl g7 rfl (ints .u8 nk) 28 _ (fun U hU => hU.2.1) Try.underlying28 rfl (by rw [ints_size, HNL.out]; exact sizeKey)) hS ?_
              try simp only [List.setIfInBounds_toArray, List.set_cons_zero, List.set_cons_succ]
              refine take_at (i := 2) (v := .agg (ints .u8 (x ++ (y ++ (ld ++ kx))))) rfl rfl (by kernel_rfl) (by kernel_rfl) (by kernel_rfl) (fun _ _ _ h => h) (yields_row (by rfl) 38 _ rfl g rfl (ints .u8 (x ++ (y ++ (ld ++ kx)))) 38 _ (fun U hU => hU.1) Try.underlying38 rfl (by rw [ints_size, HC.out]; exact sizeClash)) hS ?_
              try simp only [List.setIfInBounds_toArray, List.set_cons_zero, List.set_cons_succ]
              refine wpAnyH_ready (rs := [3]) (by kernel_rfl) (by simp) ?_
              refine AllReadyH.cons rfl (fun KQ hK => ?_) AllReadyH.nil
              rw [if_pos (by rfl)]
              go_simp
              refine (HVC.out _).mono ?_
              rintro e u1 ⟨rfl, hb⟩
              have h8 := keep_block h8 hb
              have h9 := keep_block h9 hb
              refine hK.out _ _ ⟨keep_block hS.1 hb, keep_block hS.2.1 hb, below_call hS.2.2 hS.2.2.size hb⟩ (fun hS => ?_)
              clear hb hK
              refine wpAnyH_ready (rs := [4]) (by kernel_rfl) (by simp) ?_
              refine AllReadyH.cons rfl (fun KQ hK => ?_) AllReadyH.nil
              rw [if_pos (by rfl)]
              refine wp_store_row (o := ⟨none, _, _, _, _, _⟩) 38 _ _ rfl (w.heap.size + 1) (ints .u8 (x ++ (y ++ (ld ++ kx)))) rfl rfl 38 (ints .u8 z128) h8 (by rw [ints_size, HC.out]; exact sizeClash) (by rw [ints_size, ints_size, HC.out]; rfl) (ints_one _ _) ?_
              simp only [Act.put]
              have h9 := (setRow_other _ _ _ (ints .u8 (x ++ (y ++ (ld ++ kx)))) (show w.heap.size + 1 + 1 ≠ w.heap.size + 1 by omega)).trans h9
              have h8 := setRow_heap _ _ (ints .u8 z128) (ints .u8 (x ++ (y ++ (ld ++ kx)))) _ _ h8
              refine hK.out _ _ ⟨(setRow_other _ _ _ _ (by omega)).trans hS.1, (setRow_other _ _ _ _ (by omega)).trans hS.2.1, Below.setRow hS.2.2 (by omega) _⟩ (fun hS => ?_)
              clear hK
              refine wpAnyH_ready (rs := [5]) (by kernel_rfl) (by simp) ?_
              refine AllReadyH.cons rfl (fun KQ hK => ?_) AllReadyH.nil
              rw [if_pos (by rfl)]
              refine wp_store_row (o := ⟨none, _, _, _, _, _⟩) 28 _ _ rfl (w.heap.size + 1 + 1) (ints .u8 nk) rfl rfl 28 (ints .u8 z32) h9 (by rw [ints_size, HNL.out]; exact sizeKey) (by rw [ints_size, ints_size, HNL.out]; rfl) (ints_one _ _) ?_
              simp only [Act.put]
              have h8 := (setRow_other _ _ _ (ints .u8 nk) (show w.heap.size + 1 ≠ w.heap.size + 1 + 1 by omega)).trans h8
              have h9 := setRow_heap _ _ (ints .u8 z32) (ints .u8 nk) _ _ h9
              refine hK.out _ _ ⟨(setRow_other _ _ _ _ (by omega)).trans hS.1, (setRow_other _ _ _ _ (by omega)).trans hS.2.1, Below.setRow hS.2.2 (by omega) _⟩ (fun hS => ?_)
              clear hK
              refine take_at (i := 6) (v := .bool vb) rfl rfl (by kernel_rfl) (by kernel_rfl) (by kernel_rfl) (fun _ _ _ h => h) (Or.inl ⟨by rfl, fun U hU => by go_simp⟩) hS ?_
              try simp only [List.setIfInBounds_toArray, List.set_cons_zero, List.set_cons_succ]
              refine wpAnyH_done (by kernel_rfl) ?_ _
              go_wp2_with fail
              refine bodyPost_ret (results_cct rfl _ _ (w.heap.size + 1) (w.heap.size + 1 + 1) 38 28 (ints .u8 (x ++ (y ++ (ld ++ kx)))) (ints .u8 nk) (0, 0) (0, 0) _ _ rfl h8 rfl h9 Try.underlying38 rfl (by rw [ints_size, HC.out]; exact sizeClash) Try.underlying28 rfl (by rw [ints_size, HNL.out]; exact sizeKey)) rfl ⟨rfl, ?_⟩
              exact hS.2.2
      · rw [dN_right (by omega) h3] at hk
        rw [ldN_right (by omega) h3, shR_right (by omega) h3]
        generalize hj : dN (n - half n) (i - half n) = j at hk ⊢
        have hjb : j ≤ 1048575 := by have := dN_le (n - half n) (i - half n); omega
        subst hk
        obtain ⟨pb, po, rfl⟩ := hr.form (by omega)
        have HKEY := Lib.hid (hr.key j (by omega))
        have HKX : Hid (Is32 (keyAt gl j)) := Lib.hid ⟨keyAt_len hr.1 (show j < j + 1 by omega), keyAt_range gb j⟩
        have HIH := Lib.hid (fun U (hU : Below w.heap.size w U) => by
          have := ih (n - half n) (by omega) (b + half n) (i - half n) j (cl - half n) (some ⟨pb, po, none⟩) (gl.take (32 * j)) U (by omega) (by omega) (by omega) (by unfold maxLen; omega) hj.symm (by omega) (fun z hz => gb z (List.mem_of_mem_take hz)) ((hr.below hU).take (by omega)) (hw0.trans (hU.mono hw0.size))
          rwa [ldN_congr (pk := keyAt (gl.take (32 * j))) (qk := keyAt gl) (n - half n) (i - half n) (fun m hm => keyAt_take (by omega)), shR_congr (pk := keyAt (gl.take (32 * j))) (qk := keyAt gl) (n - half n) (b + half n) (i - half n) (fun m hm => keyAt_take (by omega)), show lo + (b + half n) * 32 = lo + b * 32 + half n * 32 by omega] at this)
        have HLD : Hid (Is32 (ldN (keyAt gl) leaf (n - half n) (i - half n))) := Lib.hid (ldN32 hl _ _)
        obtain ⟨sx, sy, su, sv, hsc, hsx, hsy, hsu, hsv⟩ := shR_len (kf := keyAt fl) (pk := keyAt gl) hl (n - half n) (b + half n) (i - half n) (by omega) (fun m hm => ⟨keyAt_len hra.1 (by omega), keyAt_range fb _⟩) (fun m hm => ⟨keyAt_len hr.1 (by omega), keyAt_range gb _⟩)
        have HSL : Hid ((shR (keyAt fl) (keyAt gl) leaf (b + half n) (n - half n) (i - half n)).1.length = 128) := Lib.hid (by rw [hsc]; exact four_len hsx.1 hsy.1 hsu.1 hsv.1)
        obtain ⟨c0, f0, hcf⟩ : ∃ c0 f0, shR (keyAt fl) (keyAt gl) leaf (b + half n) (n - half n) (i - half n) = (c0, f0) := ⟨_, _, rfl⟩
        rw [hcf] at HIH HSL ⊢
        clear hsc hsx hsy hsu hsv sx sy su sv ih hra fb hr gb hw0 hcf
        simp only at HIH HSL
        have HB2 := Lib.hid (built_half (tkey (keyAt fl) b (half n)) (tkey (keyAt fl) (b + half n) (n - half n)) T1.out.1 T2.out.1)
        generalize tkey (keyAt fl) b (half n) = x at S1 T1 HB2 ⊢
        generalize tkey (keyAt fl) (b + half n) (n - half n) = y at S2 T2 HB2 ⊢
        generalize ldN (keyAt gl) leaf (n - half n) (i - half n) = ld at HIH HLD ⊢
        generalize keyAt gl j = kx at HKEY HKX ⊢
        have hnn : ((i - half n : Nat) : Int) = (i : Int) - (half n : Nat) := by omega
        rw [hnn] at HIH
        clear hnn
        have hwr : IntKind.i64.wrap ((i : Int) - ((half n : Nat) : Int)) = (i : Int) - ((half n : Nat) : Int) := by rw [IntKind.wrap_i64]; omega
        generalize half n = m at *
        have Hnd := Lib.hid (fun W => l03node_spec kx ld HKX.out.1 HKX.out.2 HLD.out.1 HLD.out.2 W)
        have HVC : Hid (∀ W : World, Calls Try.prog 23 #[.agg (ints .u8 (x ++ (y ++ (kx ++ ld))))] W fun z w' => z = .returned (.bool (clB x y kx ld)) ∧ Below W.heap.size W w') := Lib.hid (fun W => valid_spec x y kx ld T1.out T2.out HKX.out HLD.out W)
        have HNL := Lib.hid (nodeK_len kx ld)
        have HC := Lib.hid (four_len T1.out.1 T2.out.1 HKX.out.1 HLD.out.1)
        have HZ2 : Hid (x ++ (y ++ z64) = x ++ (y ++ (z32 ++ z32))) := Lib.hid rfl
        have HLZ := Lib.hid (four_len T1.out.1 T2.out.1 z32_len z32_len)
        have HST := Lib.hid (sets_fourth x y z32 z32 ld T1.out.1 T2.out.1 z32_len z32_len HLD.out.1)
        have HSF := Lib.hid (sets_third x y z32 ld kx T1.out.1 T2.out.1 z32_len HKX.out.1)
        generalize nodeK kx ld = nk at Hnd HNL ⊢
        generalize clB x y kx ld = vb at HVC ⊢
        have d1 : ¬ (i : Int) < (m : Int) := by omega
        have d3 : (j : Int) + 1 ≤ (cp : Int) := by omega
        have d4 : (j : Int) ≤ (cp : Int) := by omega
        have d5 : j ≤ cp := by omega
        have d6 : (0 : Int) ≤ (j : Int) := by omega
        have d7 : (j : Int) ≤ 1048575 := by omega
        have d8 : j < j + 1 := by omega
        have d14 : ¬ (j : Int) + 1 ≤ (j : Int) := by omega
        have d9 : ¬ cp < j := by omega
        have d10 : (0 : Int) ≤ (m : Int) := by omega
        have d11 : (m : Int) < (n : Int) := by omega
        have d12 : (n : Int) ≤ (cl : Int) := by omega
        have d13 : (m : Int) ≤ (cl : Int) := by omega
        have d15 : m ≤ cl := by omega
        have d16 : ¬ cl < m := by omega
        have d17 : ¬ n < m := by omega
        have d18 : ¬ cl = m := by omega
        have d19 : (m : Int) ≤ (n : Int) := by omega
        have d20 : m < n := by omega
        have d21 : (m : Int) < (cl : Int) := by omega
        have d22 : m < cl := by omega
        clear hj
        go_enter Try.func87, Try.ntmps87
        go_wp2_with fail
        clear hW0
        refine (Hhalf.out _).mono ?_
        rintro e w1 ⟨rfl, rfl⟩
        go_upto_region 6 with fail
        go_cut [14] (fun s14 wx => ∃ g : Nat, s14 = .pointer (some ⟨g, 0, none⟩) ∧ W0.heap.size ≤ g ∧ wx.heap[g]? = some (.cells (ints .u8 (x ++ (y ++ z64))) 38) ∧ Below W0.heap.size W0 wx)
        case first =>
          refine wp_region_held_drew (S := Below (W0).heap.size (W0)) (by kernel_rfl) ((Below.refl _ _).drew) (fun hS => ?_)
          refine take_at (i := 0) (v := .slice (some ⟨la, lo + b * 32, none⟩) n cl) rfl rfl (by kernel_rfl) (by kernel_rfl) (by kernel_rfl) (fun _ _ _ h => h) (Or.inl ⟨by rfl, fun U hU => by go_simp⟩) hS ?_
          try simp only [List.setIfInBounds_toArray, List.set_cons_zero, List.set_cons_succ]
          refine take_at (i := 1) (v := .int .i64 (m : Int)) rfl rfl (by kernel_rfl) (by kernel_rfl) (by kernel_rfl) (fun _ _ _ h => h) (Or.inl ⟨by rfl, fun U hU => by go_simp⟩) hS ?_
          try simp only [List.setIfInBounds_toArray, List.set_cons_zero, List.set_cons_succ]
          refine take_at (i := 2) (v := .slice (some ⟨la, lo + b * 32, none⟩) m cl) rfl rfl (by kernel_rfl) (by kernel_rfl) (by kernel_rfl) (fun _ _ _ h => h) (Or.inl ⟨by rfl, fun U hU => by go_simp⟩) hS ?_
          try simp only [List.setIfInBounds_toArray, List.set_cons_zero, List.set_cons_succ]
          refine take_at (i := 4) (v := .slice (some ⟨la, lo + b * 32, none⟩) n cl) rfl rfl (by kernel_rfl) (by kernel_rfl) (by kernel_rfl) (fun _ _ _ h => h) (Or.inl ⟨by rfl, fun U hU => by go_simp⟩) hS ?_
          try simp only [List.setIfInBounds_toArray, List.set_cons_zero, List.set_cons_succ]
          refine take_at (i := 5) (v := .int .i64 (m : Int)) rfl rfl (by kernel_rfl) (by kernel_rfl) (by kernel_rfl) (fun _ _ _ h => h) (Or.inl ⟨by rfl, fun U hU => by go_simp⟩) hS ?_
          try simp only [List.setIfInBounds_toArray, List.set_cons_zero, List.set_cons_succ]
          refine take_at (i := 6) (v := .slice (some ⟨la, lo + b * 32 + m * 32, none⟩) (n - m) (cl - m)) rfl rfl (by kernel_rfl) (by kernel_rfl) (by kernel_rfl) (fun _ _ _ h => h) (Or.inl ⟨by rfl, fun U hU => by go_simp⟩) hS ?_
          try simp only [List.setIfInBounds_toArray, List.set_cons_zero, List.set_cons_succ]
          refine wpAnyH_ready (rs := [3, 9]) (by kernel_rfl) (by simp) ?_
          refine AllReadyH.cons rfl (fun KQ hK => ?_) (AllReadyH.cons rfl (fun KQ hK => ?_) AllReadyH.nil)
          · rw [if_pos (by rfl)]
            go_simp
            refine (S1.out _ (B0.out.trans (hS.mono B0.out.size))).mono ?_
            rintro e u0 ⟨rfl, hb⟩
            refine hK.out _ _ (below_call hS hS.size hb) (fun hS => ?_)
            clear hb hK
            refine wpAnyH_ready (rs := [7, 9]) (by kernel_rfl) (by simp) ?_
            refine AllReadyH.cons rfl (fun KQ hK => ?_) (AllReadyH.cons rfl (fun KQ hK => ?_) AllReadyH.nil)
            · rw [if_pos (by rfl)]
              go_simp
              refine (S2.out _ (B0.out.trans (hS.mono B0.out.size))).mono ?_
              rintro e u1 ⟨rfl, hb⟩
              refine hK.out _ _ (below_call hS hS.size hb) (fun hS => ?_)
              clear hb hK
              refine take_at (i := 8) (v := .agg (ints .u8 (x ++ (y ++ z64)))) rfl rfl (by kernel_rfl) (by kernel_rfl) (by kernel_rfl) (fun _ _ _ h => h) (yields_built (by rfl) 38 _ (ints .u8 (x ++ (y ++ z64))) rfl (by simp only [List.map_toArray, List.map_cons, List.map_nil]; exact HB2.out)) hS ?_
              try simp only [List.setIfInBounds_toArray, List.set_cons_zero, List.set_cons_succ]
              refine wpAnyH_ready (rs := [9]) (by kernel_rfl) (by simp) ?_
              refine AllReadyH.cons rfl (fun KQ hK => ?_) AllReadyH.nil
              rw [if_pos (by rfl)]
              go_simp
              have hg := new_block (t := 38) Hz.out hS
              have hgg := hS.size
              refine hK.out _ _ (hS.alloc hS.size _) (fun hS => ?_)
              clear hK
              refine wpAnyH_ready (rs := [10]) (by kernel_rfl) (by simp) ?_
              refine AllReadyH.cons rfl (fun KQ hK => ?_) AllReadyH.nil
              rw [if_pos (by rfl)]
              refine wp_store_row (o := ⟨none, _, _, _, _, _⟩) 38 _ _ rfl _ (ints .u8 (x ++ (y ++ z64))) rfl rfl 38 (ints .u8 z128) hg (by rw [HZ2.out, ints_size, HLZ.out]; exact sizeClash) (by rw [HZ2.out, ints_size, ints_size, HLZ.out]; rfl) (ints_one _ _) ?_
              simp only [Act.put]
              refine hK.out _ _ (Below.setRow hS hgg _) (fun hS => ?_)
              clear hK
              refine wpAnyH_done (by kernel_rfl) ?_ _
              go_wp2_with fail
              go_meet
              exact ⟨_, rfl, hgg, setRow_heap _ _ _ _ _ _ hg, hS⟩
            · rw [if_pos (by rfl)]
              go_simp
              have hg := new_block (t := 38) Hz.out hS
              have hgg := hS.size
              refine hK.out _ _ (hS.alloc hS.size _) (fun hS => ?_)
              clear hK
              refine wpAnyH_ready (rs := [7]) (by kernel_rfl) (by simp) ?_
              refine AllReadyH.cons rfl (fun KQ hK => ?_) AllReadyH.nil
              rw [if_pos (by rfl)]
              go_simp
              refine (S2.out _ (B0.out.trans (hS.mono B0.out.size))).mono ?_
              rintro e u1 ⟨rfl, hb⟩
              have hg := keep_block hg hb
              refine hK.out _ _ (below_call hS hS.size hb) (fun hS => ?_)
              clear hb hK
              refine take_at (i := 8) (v := .agg (ints .u8 (x ++ (y ++ z64)))) rfl rfl (by kernel_rfl) (by kernel_rfl) (by kernel_rfl) (fun _ _ _ h => h) (yields_built (by rfl) 38 _ (ints .u8 (x ++ (y ++ z64))) rfl (by simp only [List.map_toArray, List.map_cons, List.map_nil]; exact HB2.out)) hS ?_
              try simp only [List.setIfInBounds_toArray, List.set_cons_zero, List.set_cons_succ]
              refine wpAnyH_ready (rs := [10]) (by kernel_rfl) (by simp) ?_
              refine AllReadyH.cons rfl (fun KQ hK => ?_) AllReadyH.nil
              rw [if_pos (by rfl)]
              refine wp_store_row (o := ⟨none, _, _, _, _, _⟩) 38 _ _ rfl _ (ints .u8 (x ++ (y ++ z64))) rfl rfl 38 (ints .u8 z128) hg (by rw [HZ2.out, ints_size, HLZ.out]; exact sizeClash) (by rw [HZ2.out, ints_size, ints_size, HLZ.out]; rfl) (ints_one _ _) ?_
              simp only [Act.put]
              refine hK.out _ _ (Below.setRow hS hgg _) (fun hS => ?_)
              clear hK
              refine wpAnyH_done (by kernel_rfl) ?_ _
              go_wp2_with fail
              go_meet
              exact ⟨_, rfl, hgg, setRow_heap _ _ _ _ _ _ hg, hS⟩
          · rw [if_pos (by rfl)]
            go_simp
            have hg := new_block (t := 38) Hz.out hS
            have hgg := hS.size
            refine hK.out _ _ (hS.alloc hS.size _) (fun hS => ?_)
            clear hK
            refine wpAnyH_ready (rs := [3]) (by kernel_rfl) (by simp) ?_
            refine AllReadyH.cons rfl (fun KQ hK => ?_) AllReadyH.nil
            rw [if_pos (by rfl)]
            go_simp
            refine (S1.out _ (B0.out.trans (hS.mono B0.out.size))).mono ?_
            rintro e u0 ⟨rfl, hb⟩
            have hg := keep_block hg hb
            refine hK.out _ _ (below_call hS hS.size hb) (fun hS => ?_)
            clear hb hK
            refine wpAnyH_ready (rs := [7]) (by kernel_rfl) (by simp) ?_
            refine AllReadyH.cons rfl (fun KQ hK => ?_) AllReadyH.nil
            rw [if_pos (by rfl)]
            go_simp
            refine (S2.out _ (B0.out.trans (hS.mono B0.out.size))).mono ?_
            rintro e u1 ⟨rfl, hb⟩
            have hg := keep_block hg hb
            refine hK.out _ _ (below_call hS hS.size hb) (fun hS => ?_)
            clear hb hK
            refine take_at (i := 8) (v := .agg (ints .u8 (x ++ (y ++ z64)))) rfl rfl (by kernel_rfl) (by kernel_rfl) (by kernel_rfl) (fun _ _ _ h => h) (yields_built (by rfl) 38 _ (ints .u8 (x ++ (y ++ z64))) rfl (by simp only [List.map_toArray, List.map_cons, List.map_nil]; exact HB2.out)) hS ?_
            try simp only [List.setIfInBounds_toArray, List.set_cons_zero, List.set_cons_succ]
            refine wpAnyH_ready (rs := [10]) (by kernel_rfl) (by simp) ?_
            refine AllReadyH.cons rfl (fun KQ hK => ?_) AllReadyH.nil
            rw [if_pos (by rfl)]
            refine wp_store_row (o := ⟨none, _, _, _, _, _⟩) 38 _ _ rfl _ (ints .u8 (x ++ (y ++ z64))) rfl rfl 38 (ints .u8 z128) hg (by rw [HZ2.out, ints_size, HLZ.out]; exact sizeClash) (by rw [HZ2.out, ints_size, ints_size, HLZ.out]; rfl) (ints_one _ _) ?_
            simp only [Act.put]
            refine hK.out _ _ (Below.setRow hS hgg _) (fun hS => ?_)
            clear hK
            refine wpAnyH_done (by kernel_rfl) ?_ _
            go_wp2_with fail
            go_meet
            exact ⟨_, rfl, hgg, setRow_heap _ _ _ _ _ _ hg, hS⟩
        case rest =>
          obtain ⟨g, rfl, hgg, hG, hBX⟩ := hcut
          have HG0 : Hid (w.heap.size + 3 ≤ g) := Lib.hid (by have := HS0.out; omega)
          have GW : Hid (g < wc.heap.size) := Lib.hid (Array.getElem?_eq_some_iff.1 hG).1
          have L1 := laid_below wc (ints .u8 z128) (ints .u8 z128) 38
          have B1 := Lib.hid (below_call (below_call B0.out B0.out.size hBX) (below_call B0.out B0.out.size hBX).size L1)
          have P0 := Lib.hid (keep_block (keep_block A0.out hBX) L1)
          have P8 := Lib.hid (keep_block (keep_block A8.out hBX) L1)
          have P9 := Lib.hid (keep_block (keep_block A9.out hBX) L1)
          have G1 := Lib.hid (keep_block hG L1)
          have E1 := Lib.hid (laid_new wc (ints .u8 z128) (ints .u8 z128) 38)
          rw [HZ2.out] at G1
          clear hG hBX hgg L1
          rw [Hz.out] at B1 P0 P8 P9 G1 E1
          go_upto_region 12 with (refine wpList_store_row rfl 38 (.tmp 15) _ rfl wc.heap.size Try.zeroCells38 rfl rfl 38 Try.zeroCells38 (heap_alloc_last _ _) (by rw [← Hz.out, ints_size]; exact sizeClash) (by rw [← Hz.out]) (by rw [← Hz.out]; exact ints_one _ _) ?_)
          try simp only [Act.put, List.setIfInBounds_toArray, List.set_cons_zero, List.set_cons_succ]
          rw [← Hz.out] at B1 P0 P8 P9 G1 E1 ⊢
          generalize (wc.alloc (.cells (ints .u8 z128) 38)).setRow wc.heap.size (ints .u8 z128) = W1 at B1 P0 P8 P9 G1 E1 ⊢
          have GW5 : Hid (g < wc.heap.size) := GW
          generalize wc.heap.size = g5 at GW GW5 E1 ⊢
          go_cut [16] (fun s16 wx => s16 = .bool f0 ∧ wx.heap[g5]? = some (.cells (ints .u8 c0) 38) ∧ wx.heap[g]? = some (.cells (ints .u8 (x ++ (y ++ (z32 ++ ld)))) 38) ∧ wx.heap[w.heap.size + 1]? = some (.cells (ints .u8 z128) 38) ∧ wx.heap[w.heap.size + 1 + 1]? = some (.cells (ints .u8 z32) 28) ∧ Below w.heap.size w wx)
          case first =>
            refine wp_region_held_drew (S := fun U => U.heap[w.heap.size]? = some (.cells (ints .u8 leaf) 28) ∧ Below w.heap.size w U) (by kernel_rfl) ⟨P0.out, B1.out.drew⟩ (fun hS => ?_)
            have h8 : (W1.drew).heap[w.heap.size + 1]? = some (.cells (ints .u8 z128) 38) := P8.out
            have h9 : (W1.drew).heap[w.heap.size + 1 + 1]? = some (.cells (ints .u8 z32) 28) := P9.out
            have hg : (W1.drew).heap[g]? = some (.cells (ints .u8 (x ++ (y ++ (z32 ++ z32)))) 38) := G1.out
            have h5 : (W1.drew).heap[g5]? = some (.cells (ints .u8 z128) 38) := E1.out
            refine take_at (i := 0) (v := .slice (some ⟨la, lo + b * 32, none⟩) n cl) rfl rfl (by kernel_rfl) (by kernel_rfl) (by kernel_rfl) (fun _ _ _ h => h) (Or.inl ⟨by rfl, fun U hU => by go_simp⟩) hS ?_
            try simp only [List.setIfInBounds_toArray, List.set_cons_zero, List.set_cons_succ]
            refine take_at (i := 1) (v := .int .i64 (m : Int)) rfl rfl (by kernel_rfl) (by kernel_rfl) (by kernel_rfl) (fun _ _ _ h => h) (Or.inl ⟨by rfl, fun U hU => by go_simp⟩) hS ?_
            try simp only [List.setIfInBounds_toArray, List.set_cons_zero, List.set_cons_succ]
            refine take_at (i := 2) (v := .slice (some ⟨la, lo + b * 32 + m * 32, none⟩) (n - m) (cl - m)) rfl rfl (by kernel_rfl) (by kernel_rfl) (by kernel_rfl) (fun _ _ _ h => h) (Or.inl ⟨by rfl, fun U hU => by go_simp⟩) hS ?_
            try simp only [List.setIfInBounds_toArray, List.set_cons_zero, List.set_cons_succ]
            refine take_at (i := 3) (v := .int .i64 (i : Int)) rfl rfl (by kernel_rfl) (by kernel_rfl) (by kernel_rfl) (fun _ _ _ h => h) (Or.inl ⟨by rfl, fun U hU => by go_simp⟩) hS ?_
            try simp only [List.setIfInBounds_toArray, List.set_cons_zero, List.set_cons_succ]
            refine take_at (i := 4) (v := .int .i64 (m : Int)) rfl rfl (by kernel_rfl) (by kernel_rfl) (by kernel_rfl) (fun _ _ _ h => h) (Or.inl ⟨by rfl, fun U hU => by go_simp⟩) hS ?_
            try simp only [List.setIfInBounds_toArray, List.set_cons_zero, List.set_cons_succ]
            refine take_at (i := 5) (v := .int .i64 ((i : Int) - (m : Int))) rfl rfl (by kernel_rfl) (by kernel_rfl) (by kernel_rfl) (fun _ _ _ h => h) (Or.inl ⟨by rfl, fun U hU => by go_simp⟩) hS ?_
            try simp only [List.setIfInBounds_toArray, List.set_cons_zero, List.set_cons_succ]
            refine take_at (i := 6) (v := .agg (ints .u8 leaf)) rfl rfl (by kernel_rfl) (by kernel_rfl) (by kernel_rfl) (fun _ _ _ h => h) (yields_row (by rfl) 28 _ rfl w.heap.size rfl (ints .u8 leaf) 28 _ (fun U hU => hU.1) Try.underlying28 rfl (by rw [ints_size, HLL.out]; exact sizeKey)) hS ?_
            try simp only [List.setIfInBounds_toArray, List.set_cons_zero, List.set_cons_succ]
            refine take_at (i := 7) (v := .slice (some ⟨pb, po, none⟩) (j + 1) cp) rfl rfl (by kernel_rfl) (by kernel_rfl) (by kernel_rfl) (fun _ _ _ h => h) (Or.inl ⟨by rfl, fun U hU => by go_simp⟩) hS ?_
            try simp only [List.setIfInBounds_toArray, List.set_cons_zero, List.set_cons_succ]
            refine take_at (i := 8) (v := .int .i64 (j : Int)) rfl rfl (by kernel_rfl) (by kernel_rfl) (by kernel_rfl) (fun _ _ _ h => h) (Or.inl ⟨by rfl, fun U hU => by go_simp⟩) hS ?_
            try simp only [List.setIfInBounds_toArray, List.set_cons_zero, List.set_cons_succ]
            refine take_at (i := 9) (v := .slice (some ⟨pb, po, none⟩) j cp) rfl rfl (by kernel_rfl) (by kernel_rfl) (by kernel_rfl) (fun _ _ _ h => h) (Or.inl ⟨by rfl, fun U hU => by go_simp⟩) hS ?_
            try simp only [List.setIfInBounds_toArray, List.set_cons_zero, List.set_cons_succ]
            refine wpAnyH_ready (rs := [10]) (by kernel_rfl) (by simp) ?_
            refine AllReadyH.cons rfl (fun KQ hK => ?_) AllReadyH.nil
            rw [if_pos (by rfl)]
            go_simp
            refine (HIH.out _ hS.2).mono ?_
            rintro e u1 ⟨rfl, hb⟩
            have h8 := keep_block h8 hb
            have h9 := keep_block h9 hb
            have hg := keep_block hg hb
            have h5 := keep_block h5 hb
            refine hK.out _ _ ⟨keep_block hS.1 hb, below_call hS.2 hS.2.size hb⟩ (fun hS => ?_)
            clear hb hK
            refine take_at (i := 11) (v := .tuple #[.agg (ints .u8 c0), .agg (ints .u8 ld), .bool f0]) rfl rfl (by kernel_rfl) (by kernel_rfl) (by kernel_rfl) (fun _ _ _ h => h) (Or.inl ⟨by rfl, fun U hU => by go_simp⟩) hS ?_
            try simp only [List.setIfInBounds_toArray, List.set_cons_zero, List.set_cons_succ]
            refine take_at (i := 12) (v := .agg (ints .u8 c0)) rfl rfl (by kernel_rfl) (by kernel_rfl) (by kernel_rfl) (fun _ _ _ h => h) (Or.inl ⟨by rfl, fun U hU => by go_simp⟩) hS ?_
            try simp only [List.setIfInBounds_toArray, List.set_cons_zero, List.set_cons_succ]
            refine take_at (i := 13) (v := .agg (ints .u8 ld)) rfl rfl (by kernel_rfl) (by kernel_rfl) (by kernel_rfl) (fun _ _ _ h => h) (Or.inl ⟨by rfl, fun U hU => by go_simp⟩) hS ?_
            try simp only [List.setIfInBounds_toArray, List.set_cons_zero, List.set_cons_succ]
            refine take_at (i := 14) (v := .bool f0) rfl rfl (by kernel_rfl) (by kernel_rfl) (by kernel_rfl) (fun _ _ _ h => h) (Or.inl ⟨by rfl, fun U hU => by go_simp⟩) hS ?_
            try simp only [List.setIfInBounds_toArray, List.set_cons_zero, List.set_cons_succ]
            have hn := HG0.out
            have hm := GW5.out
            refine wpAnyH_ready (rs := [15]) (by kernel_rfl) (by simp) ?_
            refine AllReadyH.cons rfl (fun KQ hK => ?_) AllReadyH.nil
            rw [if_pos (by rfl)]
            refine wp_store_row (o := ⟨none, _, _, _, _, _⟩) 38 _ _ rfl g5 (ints .u8 c0) rfl rfl 38 (ints .u8 z128) h5 (by rw [ints_size, HSL.out]; exact sizeClash) (by rw [ints_size, ints_size, HSL.out]; rfl) (ints_one _ _) ?_
            simp only [Act.put]
            have h8 := (setRow_other _ _ _ (ints .u8 c0) (show w.heap.size + 1 ≠ g5 by omega)).trans h8
            have h9 := (setRow_other _ _ _ (ints .u8 c0) (show w.heap.size + 1 + 1 ≠ g5 by omega)).trans h9
            have hg := (setRow_other _ _ _ (ints .u8 c0) (show g ≠ g5 by omega)).trans hg
            have h5 := setRow_heap _ _ (ints .u8 z128) (ints .u8 c0) _ _ h5
            refine hK.out _ _ ⟨(setRow_other _ _ _ _ (by omega)).trans hS.1, Below.setRow hS.2 (by omega) _⟩ (fun hS => ?_)
            clear hK
            refine take_at (i := 16) (v := .pointer (some ⟨g, 96, none⟩)) rfl rfl (by kernel_rfl) (by kernel_rfl) (by kernel_rfl) (fun _ _ _ h => h) (Or.inl ⟨by rfl, fun U hU => by go_simp⟩) hS ?_
            try simp only [List.setIfInBounds_toArray, List.set_cons_zero, List.set_cons_succ]
            refine wpAnyH_ready (rs := [17]) (by kernel_rfl) (by simp) ?_
            refine AllReadyH.cons rfl (fun KQ hK => ?_) AllReadyH.nil
            rw [if_pos (by rfl)]
            refine wp_store_intsS (op := ⟨none, _, _, _, _, _⟩) 28 _ _ rfl g 96 .u8 ld rfl rfl (there_row hg (by rw [HLZ.out, HLD.out.1]; omega)) (by rw [HLD.out.1]; exact sizeKey) ?_
            simp only [Act.put]
            have h8 := (heap_setCells_far (show w.heap.size + 1 ≠ g by omega) (ld.map (Value.int .u8)) 96 _).trans h8
            have h9 := (heap_setCells_far (show w.heap.size + 1 + 1 ≠ g by omega) (ld.map (Value.int .u8)) 96 _).trans h9
            have h5 := (heap_setCells_far (show g5 ≠ g by omega) (ld.map (Value.int .u8)) 96 _).trans h5
            have hg := heap_setCells_ints ld 96 _ _ hg
            rw [HST.out] at hg
            refine hK.out _ _ ⟨(heap_setCells_far (by omega) _ _ _).trans hS.1, below_setCells_k (by omega) _ _ _ hS.2⟩ (fun hS => ?_)
            clear hK
            refine take_at (i := 18) (v := .bool f0) rfl rfl (by kernel_rfl) (by kernel_rfl) (by kernel_rfl) (fun _ _ _ h => h) (Or.inl ⟨by rfl, fun U hU => by go_simp⟩) hS ?_
            try simp only [List.setIfInBounds_toArray, List.set_cons_zero, List.set_cons_succ]
            refine wpAnyH_done (by kernel_rfl) ?_ _
            go_wp2_with fail
            go_meet
            exact ⟨rfl, h5, hg, h8, h9, hS.2⟩
          case rest =>
            obtain ⟨rfl, h5, hg, h8, h9, hB⟩ := hcut
            have hn := HG0.out
            have hm := GW5.out
            have HNM : Hid (w.heap.size + 3 ≤ g ∧ g < g5) := Lib.hid ⟨hn, hm⟩
            have G3 := heap_setCells_ints kx 64 _ _ hg
            rw [HSF.out] at G3
            have GG := Lib.hid G3
            have E3 := Lib.hid ((heap_setCells_far (show g5 ≠ g by omega) (kx.map (Value.int .u8)) 64 _).trans h5)
            have P83 := Lib.hid ((heap_setCells_far (show w.heap.size + 1 ≠ g by omega) (kx.map (Value.int .u8)) 64 _).trans h8)
            have P93 := Lib.hid ((heap_setCells_far (show w.heap.size + 1 + 1 ≠ g by omega) (kx.map (Value.int .u8)) 64 _).trans h9)
            have B3 := Lib.hid (below_setCells_k (show w.heap.size ≤ g by omega) (kx.map (Value.int .u8)) 64 _ hB)
            have HGC := Lib.hid hg
            have HBC := Lib.hid hB
            have HHL : Hid ((((x ++ (y ++ (z32 ++ ld)))) : List Int).length = 128) := Lib.hid (four_len T1.out.1 T2.out.1 z32_len HLD.out.1)
            clear G3 h5 hg h8 h9 hB hn hm
            go_upto_region 14 with (first | (refine wpList_load_ints rfl 28 (.tmp 79) rfl pb (po + j * 32) rfl .u8 kx _ (rangeAt_below HKEY.out HBC.out) Try.underlying28 rfl (by rw [HKX.out.1]; exact sizeKey) ?_) | (refine wpList_store_ints rfl 28 _ _ rfl g 64 .u8 kx rfl rfl (there_row HGC.out (by rw [HHL.out, HKX.out.1]; omega)) (by rw [HKX.out.1]; exact sizeKey) ?_))
            try simp only [Act.put, List.setIfInBounds_toArray, List.set_cons_zero, List.set_cons_succ]
            clear HGC HBC
            generalize wc.setCells g 64 (kx.map (Value.int .u8)) = W3 at GG E3 P83 P93 B3 ⊢
            have HRR := Lib.hid (four_rng T1.out.1 T2.out.1 HKX.out.1 HLD.out.1 GG.out)
            go_wp2_with (first | (refine wpList_load_ints rfl 28 (.tmp 82) rfl g 64 rfl .u8 kx _ HRR.out.2.2.1 Try.underlying28 rfl (by rw [HKX.out.1]; exact sizeKey) ?_) | (refine wpList_load_ints rfl 28 (.tmp 84) rfl g 96 rfl .u8 ld _ HRR.out.2.2.2 Try.underlying28 rfl (by rw [HLD.out.1]; exact sizeKey) ?_))
            refine (Hnd.out _).mono ?_
            rintro e w4 ⟨rfl, hb⟩
            have L4 := laid_below w4 (ints .u8 z32) (ints .u8 nk) 28
            have BW := hb.trans (L4.mono hb.size)
            have N4 := Lib.hid (laid_new w4 (ints .u8 z32) (ints .u8 nk) 28)
            have G4 := Lib.hid (keep_block GG.out BW)
            have E4 := Lib.hid (keep_block E3.out BW)
            have P84 := Lib.hid (keep_block P83.out BW)
            have P94 := Lib.hid (keep_block P93.out BW)
            have B4 := Lib.hid (below_call B3.out B3.out.size BW)
            have HN7 : Hid (g5 < w4.heap.size) := Lib.hid (by have h := (Array.getElem?_eq_some_iff.1 E3.out).1; have := hb.size; omega)
            clear L4 BW hb HRR GG E3 P83 P93 B3
            rw [Hy.out] at N4 G4 E4 P84 P94 B4
            cases f0 with
            | true =>
              go_upto_region 16 with (refine wpList_store_row rfl 28 (.tmp 17) _ rfl w4.heap.size (ints .u8 nk) rfl rfl 28 (ints .u8 z32) (by rw [Hy.out]; exact heap_alloc_last _ _) (by rw [ints_size, HNL.out]; exact sizeKey) (by rw [ints_size, ints_size, HNL.out]; rfl) (ints_one _ _) ?_)
              rw [← Hy.out] at N4 G4 E4 P84 P94 B4 ⊢
              generalize (w4.alloc (.cells (ints .u8 z32) 28)).setRow w4.heap.size (ints .u8 nk) = W5 at N4 G4 E4 P84 P94 B4 ⊢
              generalize w4.heap.size = g7 at N4 HN7 ⊢
              have hn := HNM.out
              have hm := HN7.out
              have h8 : (W5.drew).heap[w.heap.size + 1]? = some (.cells (ints .u8 z128) 38) := P84.out
              have h9 : (W5.drew).heap[w.heap.size + 1 + 1]? = some (.cells (ints .u8 z32) 28) := P94.out
              refine wp_region_held_drew (S := fun U => U.heap[g5]? = some (.cells (ints .u8 c0) 38) ∧ U.heap[g7]? = some (.cells (ints .u8 nk) 28) ∧ Below w.heap.size w U) (by kernel_rfl) ⟨E4.out, N4.out, B4.out.drew⟩ (fun hS => ?_)
              refine take_at (i := 0) (v := .agg (ints .u8 c0)) rfl rfl (by kernel_rfl) (by kernel_rfl) (by kernel_rfl) (fun _ _ _ h => h) (yields_row (by rfl) 38 _ rfl g5 rfl (ints .u8 c0) 38 _ (fun U hU => hU.1) Try.underlying38 rfl (by rw [ints_size, HSL.out]; exact sizeClash)) hS ?_
              try simp only [List.setIfInBounds_toArray, List.set_cons_zero, List.set_cons_succ]
              refine take_at (i := 1) (v := .agg (ints .u8 nk)) rfl rfl (by kernel_rfl) (by kernel_rfl) (by kernel_rfl) (fun _ _ _ h => h) (yields_row (by rfl) 28 _ rfl g7 rfl (ints .u8 nk) 28 _ (fun U hU => hU.2.1) Try.underlying28 rfl (by rw [ints_size, HNL.out]; exact sizeKey)) hS ?_
              try simp only [List.setIfInBounds_toArray, List.set_cons_zero, List.set_cons_succ]
              refine wpAnyH_ready (rs := [2]) (by kernel_rfl) (by simp) ?_
              refine AllReadyH.cons rfl (fun KQ hK => ?_) AllReadyH.nil
              rw [if_pos (by rfl)]
              refine wp_store_row (o := ⟨none, _, _, _, _, _⟩) 38 _ _ rfl (w.heap.size + 1) (ints .u8 c0) rfl rfl 38 (ints .u8 z128) h8 (by rw [ints_size, HSL.out]; exact sizeClash) (by rw [ints_size, ints_size, HSL.out]; rfl) (ints_one _ _) ?_
              simp only [Act.put]
              have h9 := (setRow_other _ _ _ (ints .u8 c0) (show w.heap.size + 1 + 1 ≠ w.heap.size + 1 by omega)).trans h9
              have h8 := setRow_heap _ _ (ints .u8 z128) (ints .u8 c0) _ _ h8
              refine hK.out _ _ ⟨(setRow_other _ _ _ _ (by omega)).trans hS.1, (setRow_other _ _ _ _ (by omega)).trans hS.2.1, Below.setRow hS.2.2 (by omega) _⟩ (fun hS => ?_)
              clear hK
              refine wpAnyH_ready (rs := [3]) (by kernel_rfl) (by simp) ?_
              refine AllReadyH.cons rfl (fun KQ hK => ?_) AllReadyH.nil
              rw [if_pos (by rfl)]
              refine wp_store_row (o := ⟨none, _, _, _, _, _⟩) 28 _ _ rfl (w.heap.size + 1 + 1) (ints .u8 nk) rfl rfl 28 (ints .u8 z32) h9 (by rw [ints_size, HNL.out]; exact sizeKey) (by rw [ints_size, ints_size, HNL.out]; rfl) (ints_one _ _) ?_
              simp only [Act.put]
              have h8 := (setRow_other _ _ _ (ints .u8 nk) (show w.heap.size + 1 ≠ w.heap.size + 1 + 1 by omega)).trans h8
              have h9 := setRow_heap _ _ (ints .u8 z32) (ints .u8 nk) _ _ h9
              refine hK.out _ _ ⟨(setRow_other _ _ _ _ (by omega)).trans hS.1, (setRow_other _ _ _ _ (by omega)).trans hS.2.1, Below.setRow hS.2.2 (by omega) _⟩ (fun hS => ?_)
              clear hK
              refine take_at (i := 4) (v := .bool true) rfl rfl (by kernel_rfl) (by kernel_rfl) (by kernel_rfl) (fun _ _ _ h => h) (Or.inl ⟨by rfl, fun U hU => by go_simp⟩) hS ?_
              try simp only [List.setIfInBounds_toArray, List.set_cons_zero, List.set_cons_succ]
              refine wpAnyH_done (by kernel_rfl) ?_ _
              go_wp2_with fail
              refine bodyPost_ret (results_cct rfl _ _ (w.heap.size + 1) (w.heap.size + 1 + 1) 38 28 (ints .u8 c0) (ints .u8 nk) (0, 0) (0, 0) _ _ rfl h8 rfl h9 Try.underlying38 rfl (by rw [ints_size, HSL.out]; exact sizeClash) Try.underlying28 rfl (by rw [ints_size, HNL.out]; exact sizeKey)) rfl ⟨rfl, ?_⟩
              exact hS.2.2
            | false =>
              go_upto_region 17 with (refine wpList_store_row rfl 28 (.tmp 17) _ rfl w4.heap.size (ints .u8 nk) rfl rfl 28 (ints .u8 z32) (by rw [Hy.out]; exact heap_alloc_last _ _) (by rw [ints_size, HNL.out]; exact sizeKey) (by rw [ints_size, ints_size, HNL.out]; rfl) (ints_one _ _) ?_)
              rw [← Hy.out] at N4 G4 E4 P84 P94 B4 ⊢
              generalize (w4.alloc (.cells (ints .u8 z32) 28)).setRow w4.heap.size (ints .u8 nk) = W5 at N4 G4 E4 P84 P94 B4 ⊢
              generalize w4.heap.size = g7 at N4 HN7 ⊢
              have hn := HNM.out
              have hm := HN7.out
              have h8 : (W5.drew).heap[w.heap.size + 1]? = some (.cells (ints .u8 z128) 38) := P84.out
              have h9 : (W5.drew).heap[w.heap.size + 1 + 1]? = some (.cells (ints .u8 z32) 28) := P94.out
              refine wp_region_held_drew (S := fun U => U.heap[g]? = some (.cells (ints .u8 (x ++ (y ++ (kx ++ ld)))) 38) ∧ U.heap[g7]? = some (.cells (ints .u8 nk) 28) ∧ Below w.heap.size w U) (by kernel_rfl) ⟨G4.out, N4.out, B4.out.drew⟩ (fun hS => ?_)
              refine take_at (i := 0) (v := .agg (ints .u8 (x ++ (y ++ (kx ++ ld))))) rfl rfl (by kernel_rfl) (by kernel_rfl) (by kernel_rfl) (fun _ _ _ h => h) (yields_row (by rfl) 38 _ rfl g rfl (ints .u8 (x ++ (y ++ (kx ++ ld)))) 38 _ (fun U hU => hU.1) Try.underlying38 rfl (by rw [ints_size, HC.out]; exact sizeClash)) hS ?_
              try simp only [List.setIfInBounds_toArray, List.set_cons_zero, List.set_cons_succ]
              refine take_at (i := 1) (v := .agg (ints .u8 nk)) rfl rfl (by kernel_rfl) (by kernel_rfl) (by kernel_rfl) (fun _ _ _ h => h) (yields_row (by rfl) 28 _ rfl g7 rfl (ints .u8 nk) 28 _ (fun U hU => hU.2.1) Try.underlying28 rfl (by rw [ints_size, HNL.out]; exact sizeKey)) hS ?_
              try simp only [List.setIfInBounds_toArray, List.set_cons_zero, List.set_cons_succ]
              refine take_at (i := 2) (v := .agg (ints .u8 (x ++ (y ++ (kx ++ ld))))) rfl rfl (by kernel_rfl) (by kernel_rfl) (by kernel_rfl) (fun _ _ _ h => h) (yields_row (by rfl) 38 _ rfl g rfl (ints .u8 (x ++ (y ++ (kx ++ ld)))) 38 _ (fun U hU => hU.1) Try.underlying38 rfl (by rw [ints_size, HC.out]; exact sizeClash)) hS ?_
              try simp only [List.setIfInBounds_toArray, List.set_cons_zero, List.set_cons_succ]
              refine wpAnyH_ready (rs := [3]) (by kernel_rfl) (by simp) ?_
              refine AllReadyH.cons rfl (fun KQ hK => ?_) AllReadyH.nil
              rw [if_pos (by rfl)]
              go_simp
              refine (HVC.out _).mono ?_
              rintro e u1 ⟨rfl, hb⟩
              have h8 := keep_block h8 hb
              have h9 := keep_block h9 hb
              refine hK.out _ _ ⟨keep_block hS.1 hb, keep_block hS.2.1 hb, below_call hS.2.2 hS.2.2.size hb⟩ (fun hS => ?_)
              clear hb hK
              refine wpAnyH_ready (rs := [4]) (by kernel_rfl) (by simp) ?_
              refine AllReadyH.cons rfl (fun KQ hK => ?_) AllReadyH.nil
              rw [if_pos (by rfl)]
              refine wp_store_row (o := ⟨none, _, _, _, _, _⟩) 38 _ _ rfl (w.heap.size + 1) (ints .u8 (x ++ (y ++ (kx ++ ld)))) rfl rfl 38 (ints .u8 z128) h8 (by rw [ints_size, HC.out]; exact sizeClash) (by rw [ints_size, ints_size, HC.out]; rfl) (ints_one _ _) ?_
              simp only [Act.put]
              have h9 := (setRow_other _ _ _ (ints .u8 (x ++ (y ++ (kx ++ ld)))) (show w.heap.size + 1 + 1 ≠ w.heap.size + 1 by omega)).trans h9
              have h8 := setRow_heap _ _ (ints .u8 z128) (ints .u8 (x ++ (y ++ (kx ++ ld)))) _ _ h8
              refine hK.out _ _ ⟨(setRow_other _ _ _ _ (by omega)).trans hS.1, (setRow_other _ _ _ _ (by omega)).trans hS.2.1, Below.setRow hS.2.2 (by omega) _⟩ (fun hS => ?_)
              clear hK
              refine wpAnyH_ready (rs := [5]) (by kernel_rfl) (by simp) ?_
              refine AllReadyH.cons rfl (fun KQ hK => ?_) AllReadyH.nil
              rw [if_pos (by rfl)]
              refine wp_store_row (o := ⟨none, _, _, _, _, _⟩) 28 _ _ rfl (w.heap.size + 1 + 1) (ints .u8 nk) rfl rfl 28 (ints .u8 z32) h9 (by rw [ints_size, HNL.out]; exact sizeKey) (by rw [ints_size, ints_size, HNL.out]; rfl) (ints_one _ _) ?_
              simp only [Act.put]
              have h8 := (setRow_other _ _ _ (ints .u8 nk) (show w.heap.size + 1 ≠ w.heap.size + 1 + 1 by omega)).trans h8
              have h9 := setRow_heap _ _ (ints .u8 z32) (ints .u8 nk) _ _ h9
              refine hK.out _ _ ⟨(setRow_other _ _ _ _ (by omega)).trans hS.1, (setRow_other _ _ _ _ (by omega)).trans hS.2.1, Below.setRow hS.2.2 (by omega) _⟩ (fun hS => ?_)
              clear hK
              refine take_at (i := 6) (v := .bool vb) rfl rfl (by kernel_rfl) (by kernel_rfl) (by kernel_rfl) (fun _ _ _ h => h) (Or.inl ⟨by rfl, fun U hU => by go_simp⟩) hS ?_
              try simp only [List.setIfInBounds_toArray, List.set_cons_zero, List.set_cons_succ]
              refine wpAnyH_done (by kernel_rfl) ?_ _
              go_wp2_with fail
              refine bodyPost_ret (results_cct rfl _ _ (w.heap.size + 1) (w.heap.size + 1 + 1) 38 28 (ints .u8 (x ++ (y ++ (kx ++ ld)))) (ints .u8 nk) (0, 0) (0, 0) _ _ rfl h8 rfl h9 Try.underlying38 rfl (by rw [ints_size, HC.out]; exact sizeClash) Try.underlying28 rfl (by rw [ints_size, HNL.out]; exact sizeKey)) rfl ⟨rfl, ?_⟩
              exact hS.2.2
end Go.Proofs.Ytjijgckljjcfiaa
namespace Go.Proofs.Ytjijgckljjcfiaa
open Go.ChangeShapes Go.WideShapes Go.ChangeAt Go.RowKit
set_option linter.unusedVariables false
set_option linter.unusedSimpArgs false
theorem wpList_load_row_g2 {P : Program} {ops : Array Oper} {rest : List Oper} {o : Oper} {a : Act} {w : World} {Q : Exit → Act → World → Prop} (hw : Region.wanted o (yielded ops a.tmps) = true) (ty : TypeId) (x : Operand) (ho : o.op = .load ty x)
    (g : Nat) (hx : a.eval x = .pointer (some ⟨g, 0, none⟩)) (t : TypeId) (cs : Array Value) (fr : Nat × Nat) (d : TypeDesc) (hg : w.heap[g]? = some (.cells cs t fr))
    (hu : P.underlying ty = some d) (hd : (match d with | .struct _ | .array _ _ => true | _ => false) = true) (hi : (P.info? ty).map (·.size) = some cs.size)
    (h : wpList P ops Q rest (a.put o.dst (.agg cs)) w) : wpList P ops Q (o :: rest) a w :=
  wpList_step fun _ hK => by rw [if_pos hw]; exact wp_load_row ty x ho g hx t cs fr d hg hu hd hi (hK _ _ h)
set_option maxRecDepth 100000 in
set_option maxHeartbeats 4000000 in
theorem cp_impl (root : List Int) (n i : Int) (leaf : List Int) (a : Option Addr) (P cap : Nat) (fl : List Int) (hR : root.length = 32) (hl : Is32 leaf) (hP : P ≤ 1048576) (hc : P ≤ cap) (hm : cap ≤ maxLen) (fb : ∀ z ∈ fl, 0 ≤ z ∧ z ≤ 255) (w : World) (hr : RdK w a P fl) :
    Calls Try.prog 21 #[.agg (ints .u8 root), .int .i64 n, .int .i64 i, .agg (ints .u8 leaf), .slice a P cap] w fun e w' => e = .returned (.tuple #[.bool (cpV root n i leaf P fl), .int .i64 (cpE n i P)]) ∧ Below w.heap.size w w' := by
  unfold cpV cpE
  have Hz := Lib.hid z32_ints
  have A0 := Lib.hid (heap_alloc2_old w (.cells (ints .u8 root) 28) (.cells (ints .u8 leaf) 28))
  have A1 := Lib.hid (heap_alloc2_new w (.cells (ints .u8 root) 28) (.cells (ints .u8 leaf) 28))
  have B0 := Lib.hid (((Below.refl w.heap.size w).alloc (Nat.le_refl _) (.cells (ints .u8 root) 28)).alloc (by simp) (.cells (ints .u8 leaf) 28))
  obtain ⟨W0, hW0⟩ : ∃ W0, (w.alloc (.cells (ints .u8 root) 28)).alloc (.cells (ints .u8 leaf) 28) = W0 := ⟨_, rfl⟩
  rw [hW0] at A0 A1 B0
  have HR := Lib.hid (hr.below B0.out)
  have HRL := Lib.hid hR
  have HLL := Lib.hid hl.1
  by_cases h : 256 < P
  · rw [if_pos h, if_pos h]
    have k1 : (256 : Int) < (P : Int) := by omega
    go_enter Try.func21, Try.ntmps21
    go_wp2_with fail
    go_ret2
    exact ⟨rfl, B0.out⟩
  · rw [if_neg h, if_neg h]
    have k1 : ¬ (256 : Int) < (P : Int) := by omega
    by_cases hC : isLf n i
    · rw [if_pos hC, if_pos hC]
      have Hlf := Lib.hid (fun U => leaf_yes n i hC U)
      have q1 := hC.1
      have q2 := hC.2.1
      have q3 := hC.2.2
      obtain ⟨n', rfl⟩ := Int.eq_ofNat_of_zero_le (show 0 ≤ n by omega)
      obtain ⟨i', rfl⟩ := Int.eq_ofNat_of_zero_le (show 0 ≤ i by omega)
      rw [Int.toNat_natCast, Int.toNat_natCast]
      have HT := Lib.hid (tns_dN n' 0 i' (Nat.zero_le _))
      have HL := Lib.hid (lds_tns (keyAt fl) leaf n' 0 i' (Nat.zero_le _))
      rw [Nat.sub_zero] at HT HL
      have HV := Lib.hid (ldN32 (pk := keyAt fl) hl n' i')
      by_cases hPd : P = dN n' i'
      · have Hp := Lib.hid (fun U (hU : Below W0.heap.size W0 U) => pairs_yes n' i' (by omega) (by omega) leaf hl a P cap fl fb (by rw [HT.out]; exact hPd) U (HR.out.below hU))
        rw [HL.out] at Hp
        rw [decide_eq_true hPd, Bool.true_and]
        generalize ldN (keyAt fl) leaf n' i' = V at Hp HV ⊢
        generalize tns 0 n' i' = L at Hp
        have Heq := Lib.hid (fun W => eqlIn2 V root HV.out.1 HRL.out W)
        generalize decide (V = root) = bb at Heq ⊢
        have heq := fun U => Heq.out U
        clear hC hr fb hl hR HT HL hPd
        go_enter Try.func21, Try.ntmps21
        go_wp2_with fail
        refine (Hlf.out _).mono ?_
        rintro x w5 ⟨rfl, rfl⟩
        go_wp2_with (refine wpList_load_row rfl 28 _ rfl (w.heap.size + 1) rfl 28 (ints .u8 leaf) (0, 0) _ A1.out Try.underlying28 rfl (by rw [ints_size, HLL.out]; exact sizeKey) ?_)
        refine (Hp.out _ (Below.refl _ _)).mono ?_
        rintro x w5 ⟨v5, rfl, ho, hb⟩
        have B5 := Lib.hid (below_call B0.out B0.out.size hb)
        have A05 := Lib.hid (keep_block A0.out hb)
        clear ho hb
        have LA := laid_below w5 (ints .u8 z32) (ints .u8 V) 28
        have B6 := Lib.hid (below_call B5.out B5.out.size LA)
        have A06 := Lib.hid (keep_block A05.out LA)
        have F6 := Lib.hid (laid_new w5 (ints .u8 z32) (ints .u8 V) 28)
        have HS6 : Hid (((w5.alloc (.cells (ints .u8 z32) 28)).setRow w5.heap.size (ints .u8 V)) = ((w5.alloc (.cells (ints .u8 z32) 28)).setRow w5.heap.size (ints .u8 V))) := Lib.hid rfl
        clear LA
        rw [Hz.out] at A06 F6
        go_wp2_with (first | (refine wpList_store_row rfl 28 _ _ rfl w5.heap.size (ints .u8 V) rfl rfl 28 (ints .u8 z32) (by rw [Hz.out]; exact heap_alloc_last _ _) (by rw [ints_size, HV.out.1]; exact sizeKey) (by rw [ints_size, ints_size, HV.out.1]; rfl) (ints_one _ _) ?_) | (refine wpList_load_row_g2 (by rfl) 28 (.tmp 13) rfl (w5.heap.size) rfl 28 (ints .u8 V) (0, 0) _ F6.out Try.underlying28 rfl (by rw [ints_size, HV.out.1]; exact sizeKey) ?_) | (refine wpList_load_row_g2 (by rfl) 28 (.tmp 5) rfl (w.heap.size) rfl 28 (ints .u8 root) (0, 0) _ A06.out Try.underlying28 rfl (by rw [ints_size, HRL.out]; exact sizeKey) ?_))
        go_ret2
        rw [← Hz.out]
        exact ⟨rfl, B6.out⟩
      · have Hp := Lib.hid (fun U => pairs_no n' i' (by omega) (by omega) leaf a P cap hP (by rw [HT.out]; exact hPd) U)
        rw [decide_eq_false hPd, Bool.false_and]
        clear hC hr fb hl hR HT HL hPd HV
        go_enter Try.func21, Try.ntmps21
        go_wp2_with fail
        refine (Hlf.out _).mono ?_
        rintro x w5 ⟨rfl, rfl⟩
        go_wp2_with (refine wpList_load_row rfl 28 _ rfl (w.heap.size + 1) rfl 28 (ints .u8 leaf) (0, 0) _ A1.out Try.underlying28 rfl (by rw [ints_size, HLL.out]; exact sizeKey) ?_)
        refine (Hp.out _).mono ?_
        rintro x w5 ⟨rfl, hb⟩
        have B5 := Lib.hid (below_call B0.out B0.out.size hb)
        clear hb
        have LA := laid_below w5 (ints .u8 z32) (ints .u8 z32) 28
        have B6 := Lib.hid (below_call B5.out B5.out.size LA)
        clear LA
        go_wp2_with (refine wpList_store_row rfl 28 _ _ rfl w5.heap.size (ints .u8 z32) rfl rfl 28 (ints .u8 z32) (by rw [Hz.out]; exact heap_alloc_last _ _) (by kernel_rfl) rfl (ints_one _ _) ?_)
        go_ret2
        rw [← Hz.out]
        exact ⟨rfl, B6.out⟩
    · rw [if_neg hC, if_neg hC]
      have Hlf := Lib.hid (fun U => leaf_no n i hC U)
      go_enter Try.func21, Try.ntmps21
      go_wp2_with fail
      refine (Hlf.out _).mono ?_
      rintro x w5 ⟨rfl, rfl⟩
      go_wp2_with fail
      go_ret2
      exact ⟨rfl, B0.out⟩
end Go.Proofs.Ytjijgckljjcfiaa
namespace Go.Proofs.Ytjijgckljjcfiaa
open Go.ChangeShapes Go.WideShapes Go.ChangeAt Go.RowKit
set_option linter.unusedVariables false
set_option linter.unusedSimpArgs false
/-- What ClashOfProof answers: the code and the two pairs. -/
def spE (n : Nat) (i : Int) (leaf : List Int) (P : Nat) (fl gl : List Int) : Int :=
  if 256 < n ∨ 256 < P then 3 else if 0 ≤ i ∧ i < (n : Int) then (if P = dN n i.toNat ∧ ldN (keyAt gl) leaf n i.toNat = tkey (keyAt fl) 0 n then (if leaf = keyAt fl i.toNat then 6 else 0) else 4) else 2
def spV (n : Nat) (i : Int) (leaf : List Int) (P : Nat) (fl gl : List Int) : List Int :=
  if 256 < n ∨ 256 < P then z128 else if 0 ≤ i ∧ i < (n : Int) then (if P = dN n i.toNat ∧ ldN (keyAt gl) leaf n i.toNat = tkey (keyAt fl) 0 n then (if leaf = keyAt fl i.toNat then z128 else (shR (keyAt fl) (keyAt gl) leaf 0 n i.toNat).1) else z128) else z128
set_option maxRecDepth 100000 in
set_option maxHeartbeats 8000000 in
theorem sp_spec (a b : Option Addr) (n P ca cb : Nat) (i : Int) (leaf fl gl : List Int) (hn0 : n ≤ 1048576) (hP : P ≤ 1048576) (hca : n ≤ ca) (hcb : P ≤ cb) (hma : ca ≤ maxLen) (hmb : cb ≤ maxLen) (hl : Is32 leaf) (fb : ∀ z ∈ fl, 0 ≤ z ∧ z ≤ 255) (gb : ∀ z ∈ gl, 0 ≤ z ∧ z ≤ 255) (w : World) (hr : RdK w a n fl) (hs : RdK w b P gl) :
    Calls Try.prog 36 #[.slice a n ca, .int .i64 i, .agg (ints .u8 leaf), .slice b P cb] w fun e w' => e = .returned (.tuple #[.agg (ints .u8 (spV n i leaf P fl gl)), .int .i64 (spE n i leaf P fl gl)]) ∧ Below w.heap.size w w' := by
  unfold spV spE
  have Hz := Lib.hid z128_ints
  have Hy := Lib.hid z32_ints
  have HLL := Lib.hid hl.1
  have A0 := Lib.hid (heap_alloc2_old w (.cells (ints .u8 leaf) 28) (.cells (ints .u8 z128) 38))
  have A1 := Lib.hid (heap_alloc2_new w (.cells (ints .u8 leaf) 28) (.cells (ints .u8 z128) 38))
  have B0 := Lib.hid (((Below.refl w.heap.size w).alloc (Nat.le_refl _) (.cells (ints .u8 leaf) 28)).alloc (by simp) (.cells (ints .u8 z128) 38))
  obtain ⟨W0, hW0⟩ : ∃ W0, (w.alloc (.cells (ints .u8 leaf) 28)).alloc (.cells (ints .u8 z128) 38) = W0 := ⟨_, rfl⟩
  rw [hW0] at A0 A1 B0
  rw [Hz.out] at hW0
  have n0 : (0 : Int) ≤ (n : Int) := by omega
  have n1 : (n : Int) ≤ 1048576 := by omega
  have m0 : (0 : Int) ≤ (P : Int) := by omega
  have m1 : (P : Int) ≤ 1048576 := by omega
  by_cases h : 256 < n ∨ 256 < P
  · rw [if_pos h, if_pos h]
    by_cases h1 : 256 < n
    · have k1 : (256 : Int) < (n : Int) := by omega
      go_enter Try.func36, Try.ntmps36
      go_wp2_with (refine wpList_store_row rfl 38 _ _ rfl (w.heap.size + 1) Try.zeroCells38 rfl rfl 38 (ints .u8 z128) A1.out (by rw [← Hz.out, ints_size]; exact sizeClash) (by rw [← Hz.out]) (by rw [← Hz.out]; exact ints_one _ _) ?_)
      refine bodyPost_ret (results_cell2_row rfl _ _ (w.heap.size + 1) 38 Try.zeroCells38 (0, 0) _ rfl (setRow_heap _ _ (ints .u8 z128) _ _ _ A1.out) Try.underlying38 rfl (by rw [← Hz.out, ints_size]; exact sizeClash)) rfl ⟨by rw [Hz.out]; rfl, ?_⟩
      exact Below.setRow B0.out (by omega) _
    · have k1 : ¬ (256 : Int) < (n : Int) := by omega
      have k2 : (256 : Int) < (P : Int) := by omega
      go_enter Try.func36, Try.ntmps36
      go_wp2_with (refine wpList_store_row rfl 38 _ _ rfl (w.heap.size + 1) Try.zeroCells38 rfl rfl 38 (ints .u8 z128) A1.out (by rw [← Hz.out, ints_size]; exact sizeClash) (by rw [← Hz.out]) (by rw [← Hz.out]; exact ints_one _ _) ?_)
      refine bodyPost_ret (results_cell2_row rfl _ _ (w.heap.size + 1) 38 Try.zeroCells38 (0, 0) _ rfl (setRow_heap _ _ (ints .u8 z128) _ _ _ A1.out) Try.underlying38 rfl (by rw [← Hz.out, ints_size]; exact sizeClash)) rfl ⟨by rw [Hz.out]; rfl, ?_⟩
      exact Below.setRow B0.out (by omega) _
  · rw [if_neg h, if_neg h]
    have hn : n ≤ 1048575 := by omega
    have k1 : ¬ (256 : Int) < (n : Int) := by omega
    have k2 : ¬ (256 : Int) < (P : Int) := by omega
    by_cases h2 : 0 ≤ i ∧ i < (n : Int)
    · rw [if_pos h2, if_pos h2]
      obtain ⟨j, rfl⟩ := Int.eq_ofNat_of_zero_le h2.1
      rw [Int.toNat_natCast]
      obtain ⟨aa, ao, rfl⟩ := hr.form (by omega)
      have Hin := Lib.hid (fun U => in_true (j : Int) 0 ((n : Int) - 1) h2.1 (by omega) U)
      have Hd := Lib.hid (fun U => depth_spec n j U (by omega) (by omega) (by omega))
      have HDL := Lib.hid (dN_le n j)
      have j0 : (0 : Int) ≤ (j : Int) := h2.1
      have j1 : (j : Int) < (n : Int) := h2.2
      have j2 : j < n := by omega
      have j3 : ¬ (n : Int) ≤ (j : Int) := by omega
      by_cases hPd : P = dN n j
      · have Hld := Lib.hid (fun U (hU : Below w.heap.size w U) => lead_spec leaf hl cb hmb n j P b gl U j2 hn hPd hcb gb (hs.below hU))
        have Hky := Lib.hid (fun U (hU : Below w.heap.size w U) => key_spec n aa ao ca fl U (by omega) (by omega) hca hma fb (hr.below hU))
        have Hsh := Lib.hid (fun U (hU : Below w.heap.size w U) => by
          have := shown_spec w aa ao n fl hn hr fb leaf hl cb hmb n 0 j P ca b gl U j2 (by omega) hca hma hPd hcb gb (hs.below hU) hU
          rwa [Nat.zero_mul, Nat.add_zero] at this)
        have HV := Lib.hid (ldN32 (pk := keyAt gl) hl n j)
        have HK := Lib.hid (tkey32 (b := 0) hr.1 fb (show 1 ≤ n by omega) (by omega))
        have HX : Hid ((keyAt fl j).length = 32) := Lib.hid (keyAt_len hr.1 j2)
        have HKEY := Lib.hid (hr.key j j2)
        have heq := fun U => eqlIn2 (ldN (keyAt gl) leaf n j) (tkey (keyAt fl) 0 n) HV.out.1 HK.out.1 U
        have Hq := Lib.hid (fun U => eqlIn2 leaf (keyAt fl j) hl.1 HX.out U)
        obtain ⟨sx, sy, su, sv, hsc, hsx, hsy, hsu, hsv⟩ := shR_len (kf := keyAt fl) (pk := keyAt gl) hl n 0 j j2 (fun m hm => ⟨keyAt_len hr.1 (by omega), keyAt_range fb _⟩) (fun m hm => ⟨keyAt_len hs.1 (by omega), keyAt_range gb _⟩)
        have HSL : Hid ((shR (keyAt fl) (keyAt gl) leaf 0 n j).1.length = 128) := Lib.hid (by rw [hsc]; exact four_len hsx.1 hsy.1 hsu.1 hsv.1)
        clear hsc hsx hsy hsu hsv sx sy su sv hr hs fb gb hl
        have hd2 : (P : Int) = ((dN n j : Nat) : Int) := by omega
        have e1 : (P = dN n j ∧ ldN (keyAt gl) leaf n j = tkey (keyAt fl) 0 n) = (ldN (keyAt gl) leaf n j = tkey (keyAt fl) 0 n) := propext ⟨fun h => h.2, fun h => ⟨hPd, h⟩⟩
        simp only [e1]
        rw [← hPd] at Hd
        clear e1 hPd hd2 HDL
        generalize (shR (keyAt fl) (keyAt gl) leaf 0 n j).1 = sc at Hsh HSL ⊢
        generalize (shR (keyAt fl) (keyAt gl) leaf 0 n j).2 = sf at Hsh
        generalize ldN (keyAt gl) leaf n j = ld at Hld Hsh HV heq ⊢
        generalize tkey (keyAt fl) 0 n = ky at Hky HK heq ⊢
        generalize keyAt fl j = kx at HX HKEY Hq ⊢
        by_cases he : ld = ky
        · rw [if_pos he, if_pos he]
          rw [decide_eq_true he] at heq
          clear he
          by_cases hx : leaf = kx
          · rw [if_pos hx, if_pos hx]
            rw [decide_eq_true hx] at Hq
            clear hx
            go_enter Try.func36, Try.ntmps36
            go_wp2_with fail
            refine (Hin.out _).mono ?_
            rintro x w3 ⟨rfl, rfl⟩
            go_wp2_with fail
            refine (Hd.out _).mono ?_
            rintro x w3 ⟨rfl, rfl⟩
            go_wp2_with (refine wpList_load_row_g2 (by rfl) 28 (.tmp 6) rfl (w.heap.size) rfl 28 (ints .u8 leaf) (0, 0) _ A0.out Try.underlying28 rfl (by rw [ints_size, HLL.out]; exact sizeKey) ?_)
            clear hW0
            refine (Hld.out _ B0.out).mono ?_
            rintro e w4 ⟨rfl, hb⟩
            have B4 := Lib.hid (below_call B0.out B0.out.size hb)
            have A04 := Lib.hid (keep_block A0.out hb)
            have A14 := Lib.hid (keep_block A1.out hb)
            clear hb
            go_wp2_with fail
            refine (Hky.out _ B4.out).mono ?_
            rintro e w5 ⟨rfl, hb⟩
            have B5 := Lib.hid (below_call B4.out B4.out.size hb)
            have A05 := Lib.hid (keep_block A04.out hb)
            have A15 := Lib.hid (keep_block A14.out hb)
            clear hb
            go_upto_region 8 with fail
            refine wp_region_held_drew (S := Below (w5).heap.size (w5)) (by kernel_rfl) ((Below.refl _ _).drew) (fun hS => ?_)
            refine take_at (i := 0) (v := .agg (ints .u8 leaf)) rfl rfl (by kernel_rfl) (by kernel_rfl) (by kernel_rfl) (fun _ _ _ h => h) (yields_box (by rfl) 28 _ rfl (w.heap.size) rfl _ 28 _ A05.out Try.underlying28 rfl (by rw [ints_size, HLL.out]; exact sizeKey)) hS ?_
            try simp only [List.setIfInBounds_toArray, List.set_cons_zero, List.set_cons_succ]
            refine take_at (i := 1) (v := .slice (some ⟨aa, ao, none⟩) n ca) rfl rfl (by kernel_rfl) (by kernel_rfl) (by kernel_rfl) (fun _ _ _ h => h) (Or.inl ⟨by rfl, fun U hU => by go_simp⟩) hS ?_
            try simp only [List.setIfInBounds_toArray, List.set_cons_zero, List.set_cons_succ]
            refine take_at (i := 2) (v := .int .i64 (j : Int)) rfl rfl (by kernel_rfl) (by kernel_rfl) (by kernel_rfl) (fun _ _ _ h => h) (Or.inl ⟨by rfl, fun U hU => by go_simp⟩) hS ?_
            try simp only [List.setIfInBounds_toArray, List.set_cons_zero, List.set_cons_succ]
            refine take_at (i := 3) (v := .pointer (some ⟨aa, ao + j * 32, none⟩)) rfl rfl (by kernel_rfl) (by kernel_rfl) (by kernel_rfl) (fun _ _ _ h => h) (Or.inl ⟨by rfl, fun U hU => by go_simp⟩) hS ?_
            try simp only [List.setIfInBounds_toArray, List.set_cons_zero, List.set_cons_succ]
            refine take_at (i := 4) (v := .agg (ints .u8 kx)) rfl rfl (by kernel_rfl) (by kernel_rfl) (by kernel_rfl) (fun _ _ _ h => h) (yieldsIf_load_mid (by rfl) 28 _ rfl aa (ao + j * 32) rfl (kx.map (Value.int .u8)) _ (fun U hU => rangeAt_below HKEY.out (B5.out.trans (hU.mono B5.out.size))) Try.underlying28 rfl (by rw [List.length_map, HX.out]; exact sizeKey)) hS ?_
            try simp only [List.setIfInBounds_toArray, List.set_cons_zero, List.set_cons_succ]
            refine take_at (i := 5) (v := .bool true) rfl rfl (by kernel_rfl) (by kernel_rfl) (by kernel_rfl) (fun _ _ _ h => h) (Or.inl ⟨by rfl, fun U hU => by have hq := Hq.out U; go_simp⟩) hS ?_
            try simp only [List.setIfInBounds_toArray, List.set_cons_zero, List.set_cons_succ]
            refine wpAnyH_done (by kernel_rfl) ?_ _
            have BS := Lib.hid (B5.out.trans (hS.mono B5.out.size))
            have AS := Lib.hid (keep_block A15.out hS)
            clear hS
            go_wp2_with (refine wpList_store_row rfl 38 _ _ rfl (w.heap.size + 1) Try.zeroCells38 rfl rfl 38 (ints .u8 z128) AS.out (by rw [← Hz.out, ints_size]; exact sizeClash) (by rw [← Hz.out]) (by rw [← Hz.out]; exact ints_one _ _) ?_)
            refine bodyPost_ret (results_cell2_row rfl _ _ (w.heap.size + 1) 38 Try.zeroCells38 (0, 0) _ rfl (setRow_heap _ _ (ints .u8 z128) _ _ _ AS.out) Try.underlying38 rfl (by rw [← Hz.out, ints_size]; exact sizeClash)) rfl ⟨by rw [Hz.out]; rfl, ?_⟩
            exact Below.setRow BS.out (by omega) _
          · rw [if_neg hx, if_neg hx]
            rw [decide_eq_false hx] at Hq
            clear hx
            go_enter Try.func36, Try.ntmps36
            go_wp2_with fail
            refine (Hin.out _).mono ?_
            rintro x w3 ⟨rfl, rfl⟩
            go_wp2_with fail
            refine (Hd.out _).mono ?_
            rintro x w3 ⟨rfl, rfl⟩
            go_wp2_with (refine wpList_load_row_g2 (by rfl) 28 (.tmp 6) rfl (w.heap.size) rfl 28 (ints .u8 leaf) (0, 0) _ A0.out Try.underlying28 rfl (by rw [ints_size, HLL.out]; exact sizeKey) ?_)
            clear hW0
            refine (Hld.out _ B0.out).mono ?_
            rintro e w4 ⟨rfl, hb⟩
            have B4 := Lib.hid (below_call B0.out B0.out.size hb)
            have A04 := Lib.hid (keep_block A0.out hb)
            have A14 := Lib.hid (keep_block A1.out hb)
            clear hb
            go_wp2_with fail
            refine (Hky.out _ B4.out).mono ?_
            rintro e w5 ⟨rfl, hb⟩
            have B5 := Lib.hid (below_call B4.out B4.out.size hb)
            have A05 := Lib.hid (keep_block A04.out hb)
            have A15 := Lib.hid (keep_block A14.out hb)
            clear hb
            go_upto_region 8 with fail
            refine wp_region_held_drew (S := Below (w5).heap.size (w5)) (by kernel_rfl) ((Below.refl _ _).drew) (fun hS => ?_)
            refine take_at (i := 0) (v := .agg (ints .u8 leaf)) rfl rfl (by kernel_rfl) (by kernel_rfl) (by kernel_rfl) (fun _ _ _ h => h) (yields_box (by rfl) 28 _ rfl (w.heap.size) rfl _ 28 _ A05.out Try.underlying28 rfl (by rw [ints_size, HLL.out]; exact sizeKey)) hS ?_
            try simp only [List.setIfInBounds_toArray, List.set_cons_zero, List.set_cons_succ]
            refine take_at (i := 1) (v := .slice (some ⟨aa, ao, none⟩) n ca) rfl rfl (by kernel_rfl) (by kernel_rfl) (by kernel_rfl) (fun _ _ _ h => h) (Or.inl ⟨by rfl, fun U hU => by go_simp⟩) hS ?_
            try simp only [List.setIfInBounds_toArray, List.set_cons_zero, List.set_cons_succ]
            refine take_at (i := 2) (v := .int .i64 (j : Int)) rfl rfl (by kernel_rfl) (by kernel_rfl) (by kernel_rfl) (fun _ _ _ h => h) (Or.inl ⟨by rfl, fun U hU => by go_simp⟩) hS ?_
            try simp only [List.setIfInBounds_toArray, List.set_cons_zero, List.set_cons_succ]
            refine take_at (i := 3) (v := .pointer (some ⟨aa, ao + j * 32, none⟩)) rfl rfl (by kernel_rfl) (by kernel_rfl) (by kernel_rfl) (fun _ _ _ h => h) (Or.inl ⟨by rfl, fun U hU => by go_simp⟩) hS ?_
            try simp only [List.setIfInBounds_toArray, List.set_cons_zero, List.set_cons_succ]
            refine take_at (i := 4) (v := .agg (ints .u8 kx)) rfl rfl (by kernel_rfl) (by kernel_rfl) (by kernel_rfl) (fun _ _ _ h => h) (yieldsIf_load_mid (by rfl) 28 _ rfl aa (ao + j * 32) rfl (kx.map (Value.int .u8)) _ (fun U hU => rangeAt_below HKEY.out (B5.out.trans (hU.mono B5.out.size))) Try.underlying28 rfl (by rw [List.length_map, HX.out]; exact sizeKey)) hS ?_
            try simp only [List.setIfInBounds_toArray, List.set_cons_zero, List.set_cons_succ]
            refine take_at (i := 5) (v := .bool false) rfl rfl (by kernel_rfl) (by kernel_rfl) (by kernel_rfl) (fun _ _ _ h => h) (Or.inl ⟨by rfl, fun U hU => by have hq := Hq.out U; go_simp⟩) hS ?_
            try simp only [List.setIfInBounds_toArray, List.set_cons_zero, List.set_cons_succ]
            refine wpAnyH_done (by kernel_rfl) ?_ _
            have BS := Lib.hid (B5.out.trans (hS.mono B5.out.size))
            have AS := Lib.hid (keep_block A15.out hS)
            have A0S := Lib.hid (keep_block A05.out hS)
            clear hS
            go_wp2_with (refine wpList_load_row rfl 28 (.tmp 6) rfl w.heap.size rfl 28 (ints .u8 leaf) (0, 0) _ A0S.out Try.underlying28 rfl (by rw [ints_size, HLL.out]; exact sizeKey) ?_)
            refine (Hsh.out _ BS.out).mono ?_
            rintro e w7 ⟨rfl, hb⟩
            have B7 := Lib.hid (below_call BS.out BS.out.size hb)
            have A7 := Lib.hid (keep_block AS.out hb)
            clear hb
            have L8 := (((Below.refl w7.heap.size w7).alloc (Nat.le_refl _) (.cells (ints .u8 z128) 38)).alloc (by simp) (.cells (ints .u8 z32) 28))
            have L9 := Below.setRow (g := w7.heap.size + 1) (Below.setRow (g := w7.heap.size) L8 (Nat.le_refl _) (ints .u8 sc)) (by omega) (ints .u8 ld)
            have S9 := Lib.hid ((setRow_other _ (w7.heap.size + 1) w7.heap.size (ints .u8 ld) (by omega)).trans (setRow_heap _ _ (ints .u8 z128) (ints .u8 sc) _ _ (heap_alloc2_old w7 (.cells (ints .u8 z128) 38) (.cells (ints .u8 z32) 28))))
            have B9 := Lib.hid (below_call B7.out B7.out.size L9)
            have A9 := Lib.hid (keep_block A7.out L9)
            clear L8 L9
            rw [Hz.out, Hy.out] at S9 B9 A9
            go_wp2_with (first | (refine wpList_store_row rfl 38 (.tmp 11) _ rfl w7.heap.size (ints .u8 sc) rfl rfl 38 (ints .u8 z128) (by rw [Hz.out]; exact heap_alloc2_old _ _ _) (by rw [ints_size, HSL.out]; exact sizeClash) (by rw [ints_size, ints_size, HSL.out]; rfl) (ints_one _ _) ?_) | (refine wpList_store_row rfl 28 (.tmp 12) _ rfl (w7.heap.size + 1) (ints .u8 ld) rfl rfl 28 (ints .u8 z32) (by rw [Hy.out]; exact (setRow_other _ _ _ _ (by omega)).trans (heap_alloc2_new _ _ _)) (by rw [ints_size, HV.out.1]; exact sizeKey) (by rw [ints_size, ints_size, HV.out.1]; rfl) (ints_one _ _) ?_) | (refine wpList_load_row rfl 38 (.tmp 11) rfl w7.heap.size rfl 38 (ints .u8 sc) (0, 0) _ S9.out Try.underlying38 rfl (by rw [ints_size, HSL.out]; exact sizeClash) ?_) | (refine wpList_store_row rfl 38 (.tmp 8) _ rfl (w.heap.size + 1) (ints .u8 sc) rfl rfl 38 (ints .u8 z128) (by rw [Hz.out]; exact A9.out) (by rw [ints_size, HSL.out]; exact sizeClash) (by rw [ints_size, ints_size, HSL.out]; rfl) (ints_one _ _) ?_))
            refine bodyPost_ret (results_cell2_row rfl _ _ (w.heap.size + 1) 38 (ints .u8 sc) (0, 0) _ rfl (setRow_heap _ _ Try.zeroCells38 _ _ _ A9.out) Try.underlying38 rfl (by rw [ints_size, HSL.out]; exact sizeClash)) rfl ⟨rfl, ?_⟩
            exact Below.setRow B9.out (by omega) _
        · rw [if_neg he, if_neg he]
          rw [decide_eq_false he] at heq
          clear he
          go_enter Try.func36, Try.ntmps36
          go_wp2_with fail
          refine (Hin.out _).mono ?_
          rintro x w3 ⟨rfl, rfl⟩
          go_wp2_with fail
          refine (Hd.out _).mono ?_
          rintro x w3 ⟨rfl, rfl⟩
          go_wp2_with (refine wpList_load_row_g2 (by rfl) 28 (.tmp 6) rfl (w.heap.size) rfl 28 (ints .u8 leaf) (0, 0) _ A0.out Try.underlying28 rfl (by rw [ints_size, HLL.out]; exact sizeKey) ?_)
          clear hW0
          refine (Hld.out _ B0.out).mono ?_
          rintro e w4 ⟨rfl, hb⟩
          have B4 := Lib.hid (below_call B0.out B0.out.size hb)
          have A04 := Lib.hid (keep_block A0.out hb)
          have A14 := Lib.hid (keep_block A1.out hb)
          clear hb
          go_wp2_with fail
          refine (Hky.out _ B4.out).mono ?_
          rintro e w5 ⟨rfl, hb⟩
          have B5 := Lib.hid (below_call B4.out B4.out.size hb)
          have A05 := Lib.hid (keep_block A04.out hb)
          have A15 := Lib.hid (keep_block A14.out hb)
          clear hb
          go_wp2_with (refine wpList_store_row rfl 38 _ _ rfl (w.heap.size + 1) Try.zeroCells38 rfl rfl 38 (ints .u8 z128) A15.out (by rw [← Hz.out, ints_size]; exact sizeClash) (by rw [← Hz.out]) (by rw [← Hz.out]; exact ints_one _ _) ?_)
          refine bodyPost_ret (results_cell2_row rfl _ _ (w.heap.size + 1) 38 Try.zeroCells38 (0, 0) _ rfl (setRow_heap _ _ (ints .u8 z128) _ _ _ A15.out) Try.underlying38 rfl (by rw [← Hz.out, ints_size]; exact sizeClash)) rfl ⟨by rw [Hz.out]; rfl, ?_⟩
          exact Below.setRow B5.out (by omega) _
      · have hor : ¬ (P = dN n j ∧ ldN (keyAt gl) leaf n j = tkey (keyAt fl) 0 n) := fun h => hPd h.1
        rw [if_neg hor, if_neg hor]
        have hne : ¬ (P : Int) = ((dN n j : Nat) : Int) := by omega
        have d1 : ((dN n j : Nat) : Int) ≤ 1048576 := by have := HDL.out; omega
        have d0 : (0 : Int) ≤ ((dN n j : Nat) : Int) := by omega
        clear hor hPd hr hs fb gb hl
        generalize dN n j = D at Hd hne d0 d1
        go_enter Try.func36, Try.ntmps36
        go_wp2_with fail
        refine (Hin.out _).mono ?_
        rintro x w3 ⟨rfl, rfl⟩
        go_wp2_with fail
        refine (Hd.out _).mono ?_
        rintro x w3 ⟨rfl, rfl⟩
        go_wp2_with (refine wpList_store_row rfl 38 _ _ rfl (w.heap.size + 1) Try.zeroCells38 rfl rfl 38 (ints .u8 z128) A1.out (by rw [← Hz.out, ints_size]; exact sizeClash) (by rw [← Hz.out]) (by rw [← Hz.out]; exact ints_one _ _) ?_)
        refine bodyPost_ret (results_cell2_row rfl _ _ (w.heap.size + 1) 38 Try.zeroCells38 (0, 0) _ rfl (setRow_heap _ _ (ints .u8 z128) _ _ _ A1.out) Try.underlying38 rfl (by rw [← Hz.out, ints_size]; exact sizeClash)) rfl ⟨by rw [Hz.out]; rfl, ?_⟩
        exact Below.setRow B0.out (by omega) _
    · rw [if_neg h2, if_neg h2]
      have Hin := Lib.hid (fun U => in_false i 0 ((n : Int) - 1) (by omega) U)
      go_enter Try.func36, Try.ntmps36
      go_wp2_with fail
      refine (Hin.out _).mono ?_
      rintro x w5 ⟨rfl, rfl⟩
      go_wp2_with (refine wpList_store_row rfl 38 _ _ rfl (w.heap.size + 1) Try.zeroCells38 rfl rfl 38 (ints .u8 z128) A1.out (by rw [← Hz.out, ints_size]; exact sizeClash) (by rw [← Hz.out]) (by rw [← Hz.out]; exact ints_one _ _) ?_)
      refine bodyPost_ret (results_cell2_row rfl _ _ (w.heap.size + 1) 38 Try.zeroCells38 (0, 0) _ rfl (setRow_heap _ _ (ints .u8 z128) _ _ _ A1.out) Try.underlying38 rfl (by rw [← Hz.out, ints_size]; exact sizeClash)) rfl ⟨by rw [Hz.out]; rfl, ?_⟩
      exact Below.setRow B0.out (by omega) _
end Go.Proofs.Ytjijgckljjcfiaa
