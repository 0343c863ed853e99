/- The shelves of two stores, by the program. Written by hand. -/
import Derived.Test.YtdoelmjaongjfaaQaC
import Derived.BigQuiet
namespace Go.Proofs.Ytdoelmjaongjfaa
open Go.ChangeShapes Go.WideShapes Go.ChangeAt Go.RowKit
set_option linter.unusedVariables false
set_option linter.unusedSimpArgs false
def ascB (bs : List BlV) : Prop := bs.Pairwise (fun x y => cmpI (keyX x) (keyX y) < 0)
theorem stP.asc {bs : List BlV} (h : stP bs) : ascB bs := stP_asc h.2.2
theorem ascB.st {bs : List BlV} (h : ascB bs) (hl : bs.length ≤ 128) (hn : ∀ x ∈ bs, x.n ≤ 1024) : stP bs := by
  refine ⟨hl, fun i x hx => hn x (List.mem_of_getElem? hx), fun i x y hx hy => ?_⟩
  have gi := List.getElem?_eq_some_iff.1 hx
  have gj := List.getElem?_eq_some_iff.1 hy
  have := List.pairwise_iff_getElem.1 h i (i + 1) gi.1 gj.1 (by omega)
  rw [gi.2, gj.2] at this
  exact this
def AtP (bs : List BlV) (k : List Int) (p : Nat) : Prop := p ≤ bs.length ∧ (∀ (j : Nat) (y : BlV), j < p → bs[j]? = some y → cmpI (keyX y) k < 0) ∧ ∀ y, bs[p]? = some y → ¬ cmpI (keyX y) k < 0
noncomputable def atB (bs : List BlV) (k : List Int) : Nat := (bs.takeWhile (fun y => decide (cmpI (keyX y) k < 0))).length
theorem AtP.eq : ∀ {bs : List BlV} {k : List Int} {p : Nat}, AtP bs k p → p = atB bs k
  | [], k, p, h => by
    have := h.1
    simp at this
    subst this
    rfl
  | b :: r, k, 0, h => by
    have := h.2.2 b rfl
    unfold atB
    rw [List.takeWhile_cons, if_neg (by simpa using this)]
    rfl
  | b :: r, k, p + 1, h => by
    have h0 := h.2.1 0 b (by omega) rfl
    have ih : AtP r k p := ⟨by have := h.1; simp at this; exact this, fun j y hj hy => h.2.1 (j + 1) y (by omega) (by simpa using hy), fun y hy => h.2.2 y (by simpa using hy)⟩
    have e := AtP.eq ih
    unfold atB at e ⊢
    rw [List.takeWhile_cons, if_pos (by simpa using h0), List.length_cons, ← e]
theorem atP : ∀ (bs : List BlV) (k : List Int), AtP bs k (atB bs k)
  | [], k => ⟨by simp [atB], fun j y hj _ => by simp [atB] at hj, fun y hy => by simp at hy⟩
  | b :: r, k => by
    have ih := atP r k
    by_cases hb : cmpI (keyX b) k < 0
    · have e : atB (b :: r) k = atB r k + 1 := by
        unfold atB
        rw [List.takeWhile_cons, if_pos (by simpa using hb), List.length_cons]
      rw [e]
      refine ⟨by have := ih.1; simp; exact this, fun j y hj hy => ?_, fun y hy => ih.2.2 y (by simpa using hy)⟩
      cases j with
      | zero => simp at hy; subst hy; exact hb
      | succ j => exact ih.2.1 j y (by omega) (by simpa using hy)
    · have e : atB (b :: r) k = 0 := by
        unfold atB
        rw [List.takeWhile_cons, if_neg (by simpa using hb)]
        rfl
      rw [e]
      exact ⟨by omega, fun j y hj _ => by omega, fun y hy => by simp at hy; subst hy; exact hb⟩
noncomputable def insX (bs : List BlV) (x : BlV) : List BlV := bs.take (atB bs (keyX x)) ++ x :: bs.drop (atB bs (keyX x))
theorem insX_len (bs : List BlV) (x : BlV) : (insX bs x).length = bs.length + 1 := by
  have := (atP bs (keyX x)).1
  unfold insX
  simp
  omega
theorem insX_perm (bs : List BlV) (x : BlV) : (insX bs x).Perm (bs ++ [x]) := by
  unfold insX
  refine List.perm_middle.trans ?_
  rw [List.take_append_drop]
  exact (List.perm_append_singleton x bs).symm
theorem insX_mem {bs : List BlV} {x z : BlV} : z ∈ insX bs x ↔ z ∈ bs ∨ z = x := by
  rw [(insX_perm bs x).mem_iff]
  simp
theorem ascB.get {bs : List BlV} (h : ascB bs) {i j : Nat} {x y : BlV} (hx : bs[i]? = some x) (hy : bs[j]? = some y) (hij : i < j) : cmpI (keyX x) (keyX y) < 0 := by
  have gi := List.getElem?_eq_some_iff.1 hx
  have gj := List.getElem?_eq_some_iff.1 hy
  have := List.pairwise_iff_getElem.1 h i j gi.1 gj.1 hij
  rwa [gi.2, gj.2] at this
theorem ascB.uniq {bs : List BlV} (h : ascB bs) {i j : Nat} {x y : BlV} (hx : bs[i]? = some x) (hy : bs[j]? = some y) (e : keyX x = keyX y) : i = j := by
  rcases Nat.lt_trichotomy i j with hlt | heq | hgt
  · have := h.get hx hy hlt
    rw [e, cmpI_refl] at this
    omega
  · exact heq
  · have := h.get hy hx hgt
    rw [e, cmpI_refl] at this
    omega
theorem ascB.one {bs : List BlV} (h : ascB bs) {x y : BlV} (hx : x ∈ bs) (hy : y ∈ bs) (e : keyX x = keyX y) : x = y := by
  obtain ⟨i, hi⟩ := List.getElem?_of_mem hx
  obtain ⟨j, hj⟩ := List.getElem?_of_mem hy
  have := h.uniq hi hj e
  subst this
  rw [hi] at hj
  exact Option.some.inj hj
/-- The place at which a key stands. -/
theorem ascB.place {bs : List BlV} (h : ascB bs) {k : List Int} {y : BlV} (hy : y ∈ bs) (hk : keyX y = k) : bs[atB bs k]? = some y := by
  obtain ⟨j, hj⟩ := List.getElem?_of_mem hy
  obtain ⟨h1, h2, h3⟩ := atP bs k
  have hjp : ¬ j < atB bs k := fun hlt => by
    have := h2 j y hlt hj
    rw [hk, cmpI_refl] at this
    omega
  have hjl := (List.getElem?_eq_some_iff.1 hj).1
  by_cases e : j = atB bs k
  · rw [← e]; exact hj
  · exfalso
    obtain ⟨z, hz⟩ : ∃ z, bs[atB bs k]? = some z := ⟨bs[atB bs k]'(by omega), List.getElem?_eq_getElem _⟩
    have := h.get hz hj (by omega)
    rw [hk] at this
    exact h3 z hz this
theorem keyX_len (x : BlV) : (keyX x).length = 32 := (isK_keyX x).1
theorem ascB.ins {bs : List BlV} (h : ascB bs) {x : BlV} (hno : ∀ y ∈ bs, keyX y ≠ keyX x) : ascB (insX bs x) := by
  obtain ⟨h1, h2, h3⟩ := atP bs (keyX x)
  unfold insX ascB
  have h4 : (bs.take (atB bs (keyX x)) ++ bs.drop (atB bs (keyX x))).Pairwise (fun x y => cmpI (keyX x) (keyX y) < 0) := by rw [List.take_append_drop]; exact h
  rw [List.pairwise_append] at h4
  have hlo : ∀ y ∈ bs.take (atB bs (keyX x)), cmpI (keyX y) (keyX x) < 0 := fun y hy => by
    obtain ⟨i, hi⟩ := List.getElem?_of_mem hy
    have hlt := (List.getElem?_eq_some_iff.1 hi).1
    rw [List.length_take] at hlt
    rw [List.getElem?_take_of_lt (by omega)] at hi
    exact h2 i y (by omega) hi
  have hhi : ∀ y ∈ bs.drop (atB bs (keyX x)), cmpI (keyX x) (keyX y) < 0 := fun y hy => by
    obtain ⟨i, hi⟩ := List.getElem?_of_mem hy
    rw [List.getElem?_drop] at hi
    have hlt := (List.getElem?_eq_some_iff.1 hi).1
    have hpos : ∀ z : BlV, z ∈ bs → ¬ cmpI (keyX z) (keyX x) < 0 → cmpI (keyX x) (keyX z) < 0 := fun z hz hn => by
      have e1 := cmpI_neg (keyX z) (keyX x)
      have e2 : cmpI (keyX z) (keyX x) ≠ 0 := fun e => hno z hz (cmpI_eq _ _ (by rw [keyX_len, keyX_len]) e)
      omega
    obtain ⟨z, hz⟩ : ∃ z, bs[atB bs (keyX x)]? = some z := ⟨bs[atB bs (keyX x)]'(by omega), List.getElem?_eq_getElem _⟩
    have hxz := hpos z (List.mem_of_getElem? hz) (h3 z hz)
    by_cases hi0 : i = 0
    · subst hi0
      rw [Nat.add_zero, hz] at hi
      cases hi
      exact hxz
    · have hzy := h.get hz hi (by omega)
      exact cmpI_trans _ _ _ (by rw [keyX_len, keyX_len]) (by rw [keyX_len, keyX_len]) hxz hzy
  rw [List.pairwise_append, List.pairwise_cons]
  refine ⟨h4.1, ⟨hhi, h4.2.1⟩, fun u hu v hv => ?_⟩
  rcases List.mem_cons.1 hv with rfl | hv
  · exact hlo u hu
  · exact h4.2.2 u hu v hv
/-- Lists in order that have the same keys are sorted alike. -/
theorem ascB.sorted {zs xs : List BlV} (h : ascB zs) (hp : zs.Perm xs) : zs.map keyK = sortK (xs.map keyK) := by
  have h1 : sortK (zs.map keyK) = zs.map keyK := sortK_asc (List.pairwise_map.2 (show zs.Pairwise (fun x y => cmpI (keyX x) (keyX y) < 0) from h))
  exact h1.symm.trans (sortK_of_perm (hp.map keyK))
theorem inS_iff {xs : List BlV} {k : List Int} : inS xs k = true ↔ ∃ x ∈ xs, keyX x = k := by unfold inS; exact decide_eq_true_iff
theorem inS_no {xs : List BlV} {k : List Int} : inS xs k = false ↔ ∀ x ∈ xs, keyX x ≠ k := by
  unfold inS
  rw [decide_eq_false_iff_not]
  simp
open Classical in
/-- Another blob has this key. -/
noncomputable def difB (xs : List BlV) (k : List Int) (x : BlV) : Bool := decide (∃ y ∈ xs, keyX y = k ∧ ¬ (y.t = x.t ∧ y.l = x.l))
theorem difB_one {xs : List BlV} (h : ascB xs) {x y : BlV} (hy : y ∈ xs) (hk : keyX y = keyX x) : difB xs (keyX x) x = !decide (y.t = x.t ∧ y.l = x.l) := by
  unfold difB
  by_cases e : y.t = x.t ∧ y.l = x.l
  · rw [decide_eq_true e]
    refine decide_eq_false (fun ⟨z, hz, hzk, hz2⟩ => ?_)
    rw [h.one hz hy (hzk.trans hk.symm)] at hz2
    exact hz2 e
  · rw [decide_eq_false e]
    exact decide_eq_true ⟨y, hy, hk, e⟩
theorem difB_none {xs : List BlV} {k : List Int} {x : BlV} (h : inS xs k = false) : difB xs k x = false := by
  unfold difB
  exact decide_eq_false (fun ⟨y, hy, hk, _⟩ => inS_no.1 h y hy hk)
open Classical in
noncomputable def putC (bs : List BlV) (x : BlV) : Int := if difB bs (keyX x) x = true then 8 else if inS bs (keyX x) = false ∧ 128 ≤ bs.length then 3 else 0
open Classical in
noncomputable def putL (bs : List BlV) (x : BlV) : List BlV := if inS bs (keyX x) = true ∨ 128 ≤ bs.length then bs else insX bs x
/-- This blob is one of cs. -/
noncomputable def gdB (cs : List BlV) (x : BlV) : Bool := inS cs (keyX x) && !difB cs (keyX x) x
open Classical in
noncomputable def partB (bs cs : List BlV) : Bool := decide (∀ x ∈ bs, gdB cs x = true)
theorem gd_parts {cs : List BlV} {x : BlV} (h : gdB cs x = true) : inS cs (keyX x) = true ∧ difB cs (keyX x) x = false := by
  unfold gdB at h
  rw [Bool.and_eq_true] at h
  exact ⟨h.1, by simpa using h.2⟩
open Classical in
noncomputable def ipV (bs cs : List BlV) : Bool := if stP bs ∧ stP cs then partB bs cs else false
open Classical in
noncomputable def ipC (bs cs : List BlV) : Int := if stP bs ∧ stP cs then 0 else 1
theorem ip_yes {bs cs : List BlV} (h : stP bs ∧ stP cs) : ipV bs cs = partB bs cs ∧ ipC bs cs = 0 := ⟨if_pos h, if_pos h⟩
theorem ip_no {bs cs : List BlV} (h : ¬ (stP bs ∧ stP cs)) : ipV bs cs = false ∧ ipC bs cs = 1 := ⟨if_neg h, if_neg h⟩
theorem part_no {bs cs : List BlV} {x : BlV} (hx : x ∈ bs) (h : gdB cs x = false) : partB bs cs = false := by
  unfold partB
  exact decide_eq_false (fun h2 => by rw [h2 x hx] at h; cases h)
theorem part_yes {bs cs : List BlV} (h : ∀ x ∈ bs, gdB cs x = true) : partB bs cs = true := by unfold partB; exact decide_eq_true h
end Go.Proofs.Ytdoelmjaongjfaa
namespace Go.Proofs.Ytdoelmjaongjfaa
open Go.ChangeShapes Go.WideShapes Go.ChangeAt Go.RowKit
set_option linter.unusedVariables false
set_option linter.unusedSimpArgs false
noncomputable def newB (bs cs : List BlV) : List BlV := cs.filter (fun x => !inS bs (keyX x))
/-- The blobs, k of the others having been put. -/
noncomputable def jnL (bs cs : List BlV) (k : Nat) : List BlV := (cs.take k).foldl putL bs
noncomputable def jnN (bs cs : List BlV) (k : Nat) : Nat := bs.length + (newB bs (cs.take k)).length
open Classical in
noncomputable def jnM (bs cs : List BlV) (k : Nat) : Bool := decide (128 < jnN bs cs k)
theorem jnL_zero (bs cs : List BlV) : jnL bs cs 0 = bs := rfl
theorem jnN_zero (bs cs : List BlV) : jnN bs cs 0 = bs.length := rfl
theorem jnL_succ {bs cs : List BlV} {k : Nat} {x : BlV} (hx : cs[k]? = some x) : jnL bs cs (k + 1) = putL (jnL bs cs k) x := by
  unfold jnL
  rw [List.take_add_one, hx, List.foldl_append]
  rfl
theorem newB_succ {bs cs : List BlV} {k : Nat} {x : BlV} (hx : cs[k]? = some x) : newB bs (cs.take (k + 1)) = newB bs (cs.take k) ++ (if inS bs (keyX x) = true then [] else [x]) := by
  unfold newB
  rw [List.take_add_one, hx, List.filter_append]
  cases h : inS bs (keyX x) <;> simp [h]
structure JnI (bs cs : List BlV) (k : Nat) : Prop where
  asc : ascB (jnL bs cs k)
  mem : ∀ z ∈ jnL bs cs k, z ∈ bs ∨ ∃ j, j < k ∧ cs[j]? = some z
  old : ∀ z ∈ bs, z ∈ jnL bs cs k
  len : (jnL bs cs k).length = min 128 (jnN bs cs k)
  prm : jnN bs cs k ≤ 128 → (jnL bs cs k).Perm (bs ++ newB bs (cs.take k))
theorem JnI.hasE {bs cs : List BlV} {k : Nat} {x : BlV} (h : JnI bs cs k) (hc : ascB cs) (hx : cs[k]? = some x) : inS (jnL bs cs k) (keyX x) = inS bs (keyX x) := by
  cases hb : inS bs (keyX x) with
  | true =>
    obtain ⟨z, hz, hzk⟩ := inS_iff.1 hb
    exact inS_iff.2 ⟨z, h.old z hz, hzk⟩
  | false =>
    refine inS_no.2 (fun z hz e => ?_)
    rcases h.mem z hz with h1 | ⟨j, hj, hjz⟩
    · exact inS_no.1 hb z h1 e
    · have := hc.uniq hjz hx e
      omega
theorem JnI.difE {bs cs : List BlV} {k : Nat} {x : BlV} (h : JnI bs cs k) (hc : ascB cs) (hx : cs[k]? = some x) : difB (jnL bs cs k) (keyX x) x = difB bs (keyX x) x := by
  unfold difB
  refine decide_eq_decide.2 ⟨fun ⟨z, hz, e, hn⟩ => ?_, fun ⟨z, hz, e, hn⟩ => ⟨z, h.old z hz, e, hn⟩⟩
  rcases h.mem z hz with h1 | ⟨j, hj, hjz⟩
  · exact ⟨z, h1, e, hn⟩
  · have := hc.uniq hjz hx e
    omega
theorem JnI.start {bs cs : List BlV} (hb : ascB bs) (hl : bs.length ≤ 128) : JnI bs cs 0 :=
  ⟨hb, fun z hz => .inl hz, fun z hz => hz, by rw [jnL_zero, jnN_zero]; omega, fun _ => by simp [jnL, newB]⟩
theorem JnI.step {bs cs : List BlV} {k : Nat} {x : BlV} (h : JnI bs cs k) (hc : ascB cs) (hx : cs[k]? = some x) : JnI bs cs (k + 1) := by
  have hS := h.hasE hc hx
  have hN : jnN bs cs (k + 1) = jnN bs cs k + (if inS bs (keyX x) = true then 0 else 1) := by
    unfold jnN
    rw [newB_succ hx, List.length_append]
    split <;> simp <;> omega
  have hlen := h.len
  by_cases hin : inS bs (keyX x) = true
  · rw [if_pos hin] at hN
    have hL : jnL bs cs (k + 1) = jnL bs cs k := by
      rw [jnL_succ hx]
      unfold putL
      rw [if_pos (.inl (hS.trans hin))]
    exact ⟨by rw [hL]; exact h.asc, fun z hz => by
      rw [hL] at hz
      exact (h.mem z hz).imp id fun ⟨j, hj, e⟩ => ⟨j, by omega, e⟩, fun z hz => by rw [hL]; exact h.old z hz, by rw [hL, hN]; exact hlen, fun hle => by
      rw [hL, newB_succ hx, if_pos hin, List.append_nil]
      exact h.prm (by omega)⟩
  · rw [if_neg hin] at hN
    have hin2 : inS bs (keyX x) = false := by simpa using hin
    have hno := inS_no.1 (hS.trans hin2)
    by_cases hf : 128 ≤ (jnL bs cs k).length
    · have hL : jnL bs cs (k + 1) = jnL bs cs k := by
        rw [jnL_succ hx]
        unfold putL
        rw [if_pos (.inr hf)]
      exact ⟨by rw [hL]; exact h.asc, fun z hz => by
        rw [hL] at hz
        exact (h.mem z hz).imp id fun ⟨j, hj, e⟩ => ⟨j, by omega, e⟩, fun z hz => by rw [hL]; exact h.old z hz, by rw [hL, hN]; omega, fun hle => by omega⟩
    · have hL : jnL bs cs (k + 1) = insX (jnL bs cs k) x := by
        rw [jnL_succ hx]
        unfold putL
        rw [if_neg]
        rintro (h1 | h1)
        · rw [hS, hin2] at h1; cases h1
        · exact hf h1
      exact ⟨by rw [hL]; exact h.asc.ins hno, fun z hz => by
        rw [hL, insX_mem] at hz
        rcases hz with hz | rfl
        · exact (h.mem z hz).imp id fun ⟨j, hj, e⟩ => ⟨j, by omega, e⟩
        · exact .inr ⟨k, by omega, hx⟩, fun z hz => by rw [hL, insX_mem]; exact .inl (h.old z hz), by rw [hL, hN, insX_len]; omega, fun hle => by
        rw [hL, newB_succ hx, if_neg hin, ← List.append_assoc]
        exact (insX_perm _ x).trans ((h.prm (by omega)).append_right _)⟩
theorem jn_inv {bs cs : List BlV} (hb : ascB bs) (hl : bs.length ≤ 128) (hc : ascB cs) : ∀ k, k ≤ cs.length → JnI bs cs k
  | 0, _ => JnI.start hb hl
  | k + 1, hk => (jn_inv hb hl hc k (by omega)).step hc (List.getElem?_eq_getElem (show k < cs.length by omega))
/-- What putting the next one tells. -/
theorem JnI.code {bs cs : List BlV} {k : Nat} {x : BlV} (h : JnI bs cs k) (hc : ascB cs) (hx : cs[k]? = some x) (hd : difB bs (keyX x) x = false) :
    (jnM bs cs k || decide (putC (jnL bs cs k) x = 3)) = jnM bs cs (k + 1) ∧ putC (jnL bs cs k) x ≠ 8 := by
  have hS := h.hasE hc hx
  have hD := (h.difE hc hx).trans hd
  have hlen := h.len
  have hN : jnN bs cs (k + 1) = jnN bs cs k + (if inS bs (keyX x) = true then 0 else 1) := by
    unfold jnN
    rw [newB_succ hx, List.length_append]
    split <;> simp <;> omega
  unfold putC
  rw [hD, hS]
  simp only [Bool.false_eq_true, if_false]
  unfold jnM
  rw [hN]
  cases hin : inS bs (keyX x) with
  | true => simp
  | false =>
    simp only [true_and, Bool.false_eq_true, if_false]
    by_cases hf : 128 ≤ (jnL bs cs k).length
    · rw [if_pos hf]
      have : 128 < jnN bs cs k + 1 := by omega
      simp [this]
    · rw [if_neg hf]
      have h1 : ¬ 128 < jnN bs cs k := by omega
      have h2 : ¬ 128 < jnN bs cs k + 1 := by omega
      simp [h1, h2]
theorem JnI.bad {bs cs : List BlV} {k : Nat} {x : BlV} (h : JnI bs cs k) (hc : ascB cs) (hx : cs[k]? = some x) (hd : difB bs (keyX x) x = true) : putC (jnL bs cs k) x = 8 := by
  unfold putC
  rw [h.difE hc hx, hd]
  simp
open Classical in
noncomputable def joC (bs cs : List BlV) : Int := if stP bs ∧ stP cs then (if ∃ x ∈ cs, difB bs (keyX x) x = true then 8 else if 128 < jnN bs cs cs.length then 3 else 0) else 1
open Classical in
noncomputable def joL (bs cs : List BlV) : List BlV := if joC bs cs = 0 then jnL bs cs cs.length else []
end Go.Proofs.Ytdoelmjaongjfaa
namespace Go.Proofs.Ytdoelmjaongjfaa
open Go.ChangeShapes Go.WideShapes Go.ChangeAt Go.RowKit
set_option linter.unusedVariables false
set_option linter.unusedSimpArgs false
theorem shelf_uniq {w : World} {m : Nat} {xs : List BlV} (h : ShelfAt w m xs) {i j : Nat} {x y : BlV} (hx : xs[i]? = some x) (hy : xs[j]? = some y) (e : keyX x = keyX y) : i = j := by
  obtain ⟨ps, hK, hlen, hps⟩ := h
  have ha := hK.apart kty
  have gi := List.getElem?_eq_some_iff.1 hx
  have gj := List.getElem?_eq_some_iff.1 hy
  have hil : i < ps.length := by rw [hlen]; exact gi.1
  have hjl : j < ps.length := by rw [hlen]; exact gj.1
  have e1 := (hps i ps[i] x (List.getElem?_eq_getElem hil) hx).1
  have e2 := (hps j ps[j] y (List.getElem?_eq_getElem hjl) hy).1
  rcases Nat.lt_trichotomy i j with hlt | heq | hgt
  · exact absurd (by rw [e1, e2, e]) (List.pairwise_iff_getElem.1 ha i j hil hjl hlt)
  · exact heq
  · exact absurd (by rw [e1, e2, e]) (List.pairwise_iff_getElem.1 ha j i hjl hil hgt)
/-- What a shelf has for a key. -/
theorem shelf_get {w : World} {m : Nat} {xs : List BlV} {ps : List (List Int × Value)} (hK : KMap Try.prog 46 w m ps) (hlen : ps.length = xs.length) (hps : ∀ (i : Nat) (p : List Int × Value) (x : BlV), ps[i]? = some p → xs[i]? = some x → p.1 = keyX x ∧ BlHere w p.2 x) (key : List Int) :
    (inS xs key = true ∧ ∃ (i : Nat) (x : BlV) (y : Nat), xs[i]? = some x ∧ keyX x = key ∧ getK ps key = some (blV x y) ∧ w.heap[y]? = some (.cells (ints .u8 x.l) 5)) ∨ (inS xs key = false ∧ getK ps key = none) := by
  have ha := hK.apart kty
  cases hin : inS xs key with
  | true =>
    obtain ⟨x, hxm, hkx⟩ := inS_iff.1 hin
    obtain ⟨i, hi⟩ := List.getElem?_of_mem hxm
    have hlt := (List.getElem?_eq_some_iff.1 hi).1
    obtain ⟨p, hp⟩ : ∃ p, ps[i]? = some p := ⟨ps[i]'(by omega), List.getElem?_eq_getElem (by omega)⟩
    obtain ⟨hp1, y, hp2, hy⟩ := hps i p x hp hi
    obtain ⟨pk, pv⟩ := p
    dsimp only at hp1 hp2
    subst hp2
    exact .inl ⟨rfl, i, x, y, hi, hkx, getK_at ha (by rw [← hkx, ← hp1]; exact List.mem_of_getElem? hp), hy⟩
  | false =>
    refine .inr ⟨rfl, getK_none.2 (fun p hp e => ?_)⟩
    obtain ⟨x, hxm, e2, _⟩ := shelf_mem hlen hps hp
    exact inS_no.1 hin x hxm (e2.symm.trans e)
theorem difB_at {w : World} {m : Nat} {xs : List BlV} (h : ShelfAt w m xs) {i : Nat} {y x : BlV} {k : List Int} (hy : xs[i]? = some y) (hk : keyX y = k) : difB xs k x = !decide (y.t = x.t ∧ y.l = x.l) := by
  unfold difB
  by_cases e : y.t = x.t ∧ y.l = x.l
  · rw [decide_eq_true e]
    refine decide_eq_false (fun ⟨z, hz, hzk, hz2⟩ => ?_)
    obtain ⟨j, hj⟩ := List.getElem?_of_mem hz
    have := shelf_uniq h hy hj (hk.trans hzk.symm)
    subst this
    rw [hy] at hj
    cases hj
    exact hz2 e
  · rw [decide_eq_false e]
    exact decide_eq_true ⟨y, List.mem_of_getElem? hy, hk, e⟩
/-- The new ones of cs that have come, in the order in which they came. -/
def NbI (bs cs : List BlV) (xs : List (List Int × Value)) (nb : List BlV) : Prop := nb.Nodup ∧ ∀ z, z ∈ nb ↔ (z ∈ cs ∧ inS bs (keyX z) = false ∧ ∃ c, (keyX z, c) ∈ xs)
theorem NbI.start (bs cs : List BlV) : NbI bs cs [] [] := ⟨List.nodup_nil, fun z => by simp⟩
theorem NbI.skip {bs cs : List BlV} {xs : List (List Int × Value)} {nb : List BlV} {k : List Int} {c : Value} (h : NbI bs cs xs nb) (hk : inS bs k = true) : NbI bs cs (xs ++ [(k, c)]) nb := by
  refine ⟨h.1, fun z => ?_⟩
  rw [h.2 z]
  constructor
  · rintro ⟨h1, h2, d, h3⟩
    exact ⟨h1, h2, d, List.mem_append_left _ h3⟩
  · rintro ⟨h1, h2, d, h3⟩
    refine ⟨h1, h2, d, ?_⟩
    rcases List.mem_append.1 h3 with h3 | h3
    · exact h3
    · simp at h3
      rw [h3.1, hk] at h2
      cases h2
theorem NbI.add {bs cs : List BlV} {xs : List (List Int × Value)} {nb : List BlV} {x : BlV} {c : Value} (h : NbI bs cs xs nb) (hc : ascB cs) (hx : x ∈ cs) (hk : inS bs (keyX x) = false) (hnew : ∀ d, (keyX x, d) ∉ xs) : NbI bs cs (xs ++ [(keyX x, c)]) (nb ++ [x]) := by
  have hno : x ∉ nb := fun hm => by
    obtain ⟨_, _, d, h3⟩ := (h.2 x).1 hm
    exact hnew d h3
  refine ⟨List.nodup_append.2 ⟨h.1, by simp, fun a ha b hb e => ?_⟩, fun z => ?_⟩
  · simp at hb
    subst hb
    subst e
    exact hno ha
  · rw [List.mem_append, h.2 z]
    constructor
    · rintro (⟨h1, h2, d, h3⟩ | h1)
      · exact ⟨h1, h2, d, List.mem_append_left _ h3⟩
      · simp at h1
        subst h1
        exact ⟨hx, hk, c, by simp⟩
    · rintro ⟨h1, h2, d, h3⟩
      rcases List.mem_append.1 h3 with h3 | h3
      · exact .inl ⟨h1, h2, d, h3⟩
      · simp at h3
        exact .inr (by simp [hc.one h1 hx h3.1])
theorem ascB.nodup {cs : List BlV} (h : ascB cs) : cs.Nodup := h.imp (fun {a b} hab e => by subst e; rw [cmpI_refl] at hab; omega)
theorem NbI.perm {bs cs : List BlV} {xs : List (List Int × Value)} {nb : List BlV} (h : NbI bs cs xs nb) (hc : ascB cs) (hall : ∀ z ∈ cs, ∃ c, (keyX z, c) ∈ xs) : nb.Perm (newB bs cs) := by
  refine (List.perm_ext_iff_of_nodup h.1 (hc.nodup.sublist List.filter_sublist)).2 (fun z => ?_)
  rw [h.2 z, List.mem_filter]
  constructor
  · rintro ⟨h1, h2, _⟩
    exact ⟨h1, by simp [h2]⟩
  · rintro ⟨h1, h2⟩
    exact ⟨h1, by simpa using h2, hall z h1⟩
theorem BlHere.same {w : World} {v : Value} {x z : BlV} (h : BlHere w v x) (ht : z.t = x.t) (hl : z.l = x.l) (hn : z.n = x.n) : BlHere w v z := by
  obtain ⟨y, h1, h2⟩ := h
  exact ⟨y, by rw [h1]; unfold blV; rw [ht, hn], by rw [hl]; exact h2⟩
/-- A blob put in the place of one that is equal. -/
theorem ShelfAt.again {w : World} {m : Nat} {xs : List BlV} {v : Value} {x : BlV} {i : Nat} {z : BlV} (h : ShelfAt w m xs) (hz : xs[i]? = some z) (hk : keyX z = keyX x) (ht : z.t = x.t) (hl : z.l = x.l) (hn : z.n = x.n) (hx : BlHere w v x) (hroom : xs.length < maxLen) :
    ∃ w', (Instr.mapUpdate 80 (.map (some m)) (.agg (ints .u8 (keyX x))) v).run Try.prog w = .ok () w' ∧ ShelfAt w' m xs ∧ w.grownBy w' (some m) ∧ w'.heap.size = w.heap.size := by
  obtain ⟨ps, h1, h2, h3⟩ := h
  obtain ⟨w', hrun, hK, hg, hs⟩ := h1.put kty shelfTy (by omega) (isK_keyX x) v
  have hlt := (List.getElem?_eq_some_iff.1 hz).1
  have hlp : i < ps.length := by omega
  have hpi := List.getElem?_eq_getElem hlp
  have hpk : ps[i].1 = keyX x := ((h3 i _ z hpi hz).1).trans hk
  have hpp : ps[i]? = some (keyX x, ps[i].2) := by rw [hpi, ← hpk]
  rw [putK_set (h1.apart kty) hpp] at hK
  refine ⟨w', hrun, ⟨ps.set i (keyX x, v), hK, by rw [List.length_set]; exact h2, fun j p y hp hy => ?_⟩, hg, hs⟩
  by_cases e : j = i
  · subst e
    rw [List.getElem?_set_self hlp] at hp
    cases hp
    rw [hz] at hy
    cases hy
    exact ⟨hk.symm, (hx.same ht hl hn).turned h1 hg⟩
  · rw [List.getElem?_set_ne (fun e2 => e e2.symm)] at hp
    exact ⟨(h3 j p y hp hy).1, (h3 j p y hp hy).2.turned h1 hg⟩
end Go.Proofs.Ytdoelmjaongjfaa
namespace Go.Proofs.Ytdoelmjaongjfaa
open Go.ChangeShapes Go.WideShapes Go.ChangeAt Go.RowKit
set_option linter.unusedVariables false
set_option linter.unusedSimpArgs false
set_option maxRecDepth 100000 in
set_option maxHeartbeats 4000000 in
theorem differs_impl (m : Nat) (xs : List BlV) (key : List Int) (hkey : IsK key) (x : BlV) (y : Nat) (hx : BlF x) (hf : ∀ z ∈ xs, BlF z) (w : World) (hsh : ShelfAt w m xs) (hy : w.heap[y]? = some (.cells (ints .u8 x.l) 5)) :
    Calls Try.prog 104 #[.map (some m), .agg (ints .u8 key), .agg #[.int .u8 x.t, .slice (some ⟨y, 0, none⟩) x.n x.n]] w fun e w' => e = .returned (.bool (difB xs key x)) ∧ Below w.heap.size w w' := by
  have BX : Below w.heap.size w ((w.alloc (.cells (ints .u8 key) 46)).alloc (.cells #[.int .u8 x.t, .slice (some ⟨y, 0, none⟩) x.n x.n] 43)) := by go_grown
  have A0 := heap_alloc2_old w (.cells (ints .u8 key) 46) (.cells #[.int .u8 x.t, .slice (some ⟨y, 0, none⟩) x.n x.n] 43)
  have A1 := heap_alloc2_new w (.cells (ints .u8 key) 46) (.cells #[.int .u8 x.t, .slice (some ⟨y, 0, none⟩) x.n x.n] 43)
  obtain ⟨w1, hw1⟩ : ∃ w1, (w.alloc (.cells (ints .u8 key) 46)).alloc (.cells #[.int .u8 x.t, .slice (some ⟨y, 0, none⟩) x.n x.n] 43) = w1 := ⟨_, rfl⟩
  rw [hw1] at BX A0 A1
  have B1 := Lib.hid BX
  have H0 := Lib.hid A0
  have H1 := Lib.hid A1
  have HK := Lib.hid hkey
  have HY := Lib.hid (keep_block hy BX)
  have hsh1 := hsh.below BX
  have HX := Lib.hid hx
  obtain ⟨ps, hK, hlen, hps⟩ := hsh1
  have hlk := hK.look true kty shelfTy (zeroBl w1) HK.out
  rcases shelf_get hK hlen hps key with ⟨hin, i, z, yz, hz, hkz, hgk, hyz⟩ | ⟨hin, hgk⟩
  · have HD := Lib.hid (difB_at (x := x) ⟨ps, hK, hlen, hps⟩ hz hkz)
    have HZ := Lib.hid (hf z (List.mem_of_getElem? hz))
    have HYZ := Lib.hid hyz
    rw [hgk] at hlk
    replace hlk : (Instr.lookup 80 (.map (some m)) (.agg (ints .u8 key)) true).run Try.prog w1 = .ok (.tuple #[.agg #[.int .u8 z.t, .slice (some ⟨yz, 0, none⟩) z.n z.n], .bool true]) w1 := hlk
    have L2 := (Below.refl w1.heap.size w1).alloc (Nat.le_refl _) (.cells #[.int .u8 z.t, .slice (some ⟨yz, 0, none⟩) z.n z.n] 43)
    have B2 := Lib.hid (B1.out.trans (L2.mono B1.out.size))
    have G2 := Lib.hid (heap_alloc_last w1 (.cells #[.int .u8 z.t, .slice (some ⟨yz, 0, none⟩) z.n z.n] 43))
    have HSB := Lib.hid (sb_impl z.t x.t yz y z.n x.n z.l x.l _ HZ.out.1 HX.out.1 HZ.out.2.1 HX.out.2.1 HZ.out.2.2 HX.out.2.2 (keep_block HYZ.out L2) (keep_block HY.out L2))
    have H2 := Lib.hid (keep_block H1.out L2)
    generalize hdv : decide (z.t = x.t ∧ z.l = x.l) = dv at HSB HD
    rw [HD.out]
    clear hdv hgk hps hK hlen hz hkz hyz hx hf hkey hsh hy BX A0 A1 L2 HZ
    obtain ⟨zt, za, zn, zc, zl⟩ := z
    obtain ⟨xt, xa, xn, xc, xl⟩ := x
    dsimp only at hlk B2 G2 HSB H2 H1 hw1 B1
    have c0 := cell_of_row _ (w.heap.size + 1) 0 _ _ _ H2.out
    have c1 := cell_of_row _ (w.heap.size + 1) 1 _ _ _ H2.out
    have d0 := cell_of_row _ w1.heap.size 0 _ _ _ G2.out
    have d1 := cell_of_row _ w1.heap.size 1 _ _ _ G2.out
    go_enter Try.func104, Try.ntmps104
    go_wp2_with (first
      | (refine wpList_load_row rfl 46 _ rfl w.heap.size rfl 46 (ints .u8 key) (0, 0) _ H0.out Try.underlying46 rfl (by rw [ints_size, HK.out.1]; exact sizeKey) ?_)
      | (go_at_call 62; refine HSB.out.mono ?_; rintro e w3 ⟨rfl, hb⟩))
    go_ret
    exact ⟨rfl, below_call B2.out B2.out.size hb⟩
  · rw [difB_none hin]
    rw [hgk] at hlk
    replace hlk : (Instr.lookup 80 (.map (some m)) (.agg (ints .u8 key)) true).run Try.prog w1 = .ok (.tuple #[.agg #[.int .u8 0, .slice none 0 0], .bool false]) w1 := hlk
    have B2 := Lib.hid (B1.out.trans (((Below.refl w1.heap.size w1).alloc (Nat.le_refl _) (.cells #[.int .u8 0, .slice none 0 0] 43)).mono B1.out.size))
    clear hgk hps hK hlen hin
    go_enter Try.func104, Try.ntmps104
    go_wp2_with (refine wpList_load_row rfl 46 _ rfl w.heap.size rfl 46 (ints .u8 key) (0, 0) _ H0.out Try.underlying46 rfl (by rw [ints_size, HK.out.1]; exact sizeKey) ?_)
    go_ret
    exact ⟨rfl, B2.out⟩
end Go.Proofs.Ytdoelmjaongjfaa
namespace Go.Proofs.Ytdoelmjaongjfaa
open Go.ChangeShapes Go.WideShapes Go.ChangeAt Go.RowKit
set_option linter.unusedVariables false
set_option linter.unusedSimpArgs false
def BothR (w : World) (bs cs : List BlV) (e : Ending) (w' : World) : Prop :=
  ((stP bs ∧ stP cs ∧ ∃ m o, e = .returned (.tuple #[.map (some m), .map (some o), .bool true]) ∧ w.heap.size ≤ m ∧ w.heap.size ≤ o ∧ o ≠ m ∧ ShelfAt w' m bs ∧ ShelfAt w' o cs) ∨ (¬ (stP bs ∧ stP cs) ∧ ∃ u v, e = .returned (.tuple #[.map u, .map v, .bool false]))) ∧ Below w.heap.size w w'
set_option maxRecDepth 100000 in
set_option maxHeartbeats 8000000 in
theorem both_impl (g g' n n' : Nat) (bs cs : List BlV) (hn : n ≤ 1048576) (hn' : n' ≤ 1048576) (hl : bs.length = n) (hl' : cs.length = n') (hf : ∀ (i : Nat) (x : BlV), bs[i]? = some x → BlG x) (hf' : ∀ (i : Nat) (x : BlV), cs[i]? = some x → BlG x) (w : World) (ha : OutB w g n n bs) (ha' : OutB w g' n' n' cs) :
    Calls Try.prog 82 #[.agg #[.slice (some ⟨g, 0, none⟩) n n], .agg #[.slice (some ⟨g', 0, none⟩) n' n']] w (BothR w bs cs) := by
  have BX : Below w.heap.size w ((w.alloc (.cells #[.slice (some ⟨g, 0, none⟩) n n] 29)).alloc (.cells #[.slice (some ⟨g', 0, none⟩) n' n'] 29)) := by go_grown
  have A0 := heap_alloc2_old w (.cells #[.slice (some ⟨g, 0, none⟩) n n] 29) (.cells #[.slice (some ⟨g', 0, none⟩) n' n'] 29)
  have A1 := heap_alloc2_new w (.cells #[.slice (some ⟨g, 0, none⟩) n n] 29) (.cells #[.slice (some ⟨g', 0, none⟩) n' n'] 29)
  obtain ⟨w0, hw0⟩ : ∃ w0, (w.alloc (.cells #[.slice (some ⟨g, 0, none⟩) n n] 29)).alloc (.cells #[.slice (some ⟨g', 0, none⟩) n' n'] 29) = w0 := ⟨_, rfl⟩
  rw [hw0] at BX A0 A1
  have HO := Lib.hid (sof_impl g n bs hn hl hf w0 (ha.below BX))
  have HO2 := Lib.hid (fun U (hU : Below w0.heap.size w0 U) => sof_impl g' n' cs hn' hl' hf' U ((ha'.below BX).below hU))
  have HB := Lib.hid BX
  have H0 := Lib.hid A0
  have H1 := Lib.hid A1
  have S0 := Lib.hid BX.size
  clear ha ha' hf hf' hl hl' A0 A1 BX
  go_enter Try.func82, Try.ntmps82
  have qs := cell_of_row _ w.heap.size 0 _ _ _ H0.out
  go_wp2_with fail
  clear qs
  refine HO.out.mono ?_
  rintro e w1 ⟨h, hb⟩
  have B1 := Lib.hid (HB.out.trans (hb.mono HB.out.size))
  have K1 := Lib.hid (keep_block H1.out hb)
  have HO3 := Lib.hid (HO2.out w1 hb)
  have S1 := Lib.hid hb.size
  clear hb HO HO2 HB H0 H1 hw0
  have qs := cell_of_row _ (w.heap.size + 1) 0 _ _ _ K1.out
  have hE : ∃ mb b, e = .returned (.tuple #[.map mb, .bool b]) ∧ ((stP bs ∧ b = true ∧ ∃ m, mb = some m ∧ w0.heap.size ≤ m ∧ ShelfAt w1 m bs) ∨ (¬ stP bs ∧ b = false)) := by
    rcases h with ⟨hP, m, rfl, hm0, hsh⟩ | ⟨hP, rfl⟩
    · exact ⟨_, _, rfl, .inl ⟨hP, rfl, m, rfl, hm0, hsh⟩⟩
    · exact ⟨_, _, rfl, .inr ⟨hP, rfl⟩⟩
  clear h
  obtain ⟨mb, b1, rfl, h1⟩ := hE
  have H1 := Lib.hid h1
  clear h1
  go_wp2_with fail
  clear qs
  refine HO3.out.mono ?_
  rintro e w2 ⟨h, hb⟩
  have B2 := Lib.hid (below_call B1.out B1.out.size hb)
  have hE : ∃ mb b, e = .returned (.tuple #[.map mb, .bool b]) ∧ ((stP cs ∧ b = true ∧ ∃ m, mb = some m ∧ w1.heap.size ≤ m ∧ ShelfAt w2 m cs) ∨ (¬ stP cs ∧ b = false)) := by
    rcases h with ⟨hP, m, rfl, hm0, hsh⟩ | ⟨hP, rfl⟩
    · exact ⟨_, _, rfl, .inl ⟨hP, rfl, m, rfl, hm0, hsh⟩⟩
    · exact ⟨_, _, rfl, .inr ⟨hP, rfl⟩⟩
  clear h
  obtain ⟨mb2, b2, rfl, h2⟩ := hE
  have HR : Hid (((stP bs ∧ stP cs ∧ ∃ m o, mb = some m ∧ mb2 = some o ∧ w.heap.size ≤ m ∧ w.heap.size ≤ o ∧ o ≠ m ∧ ShelfAt w2 m bs ∧ ShelfAt w2 o cs) ∧ (b1 && b2) = true) ∨ (¬ (stP bs ∧ stP cs) ∧ (b1 && b2) = false)) := Lib.hid (by
    have s0 := S0.out
    have s1 := S1.out
    rcases H1.out with ⟨hP, rfl, m, rfl, hm0, hsh⟩ | ⟨hP, rfl⟩
    · rcases h2 with ⟨hP2, rfl, o, rfl, ho0, hso⟩ | ⟨hP2, rfl⟩
      · exact .inl ⟨⟨hP, hP2, m, o, rfl, rfl, by omega, by omega, fun e => by have := hsh.lt; omega, hsh.below hb, hso⟩, rfl⟩
      · exact .inr ⟨fun h => hP2 h.2, rfl⟩
    · exact .inr ⟨fun h => hP h.1, rfl⟩)
  clear h2 H1 hb HO3 K1 B1 S0 S1
  have HE : BothR w bs cs (.returned (.tuple #[.map mb, .map mb2, .bool (b1 && b2)])) w2 := by
    refine ⟨?_, B2.out⟩
    rcases HR.out with ⟨⟨hP, hP2, m, o, rfl, rfl, r⟩, hb⟩ | ⟨hno, hb⟩
    · exact .inl ⟨hP, hP2, m, o, by rw [hb], r⟩
    · exact .inr ⟨hno, mb, mb2, by rw [hb]⟩
  have HEE := Lib.hid HE
  clear HE HR
  cases b1 <;> cases b2 <;> (go_wp2_with fail; go_returns; exact HEE.out)
end Go.Proofs.Ytdoelmjaongjfaa
