/- A store that a result owns, and one that can be read: compared, marked, held. Written by hand. -/
import Derived.Test.YtdoelmjaongjfaaStoN
import Derived.Test.YtdoelmjaongjfaaOps
namespace Go.Proofs.Ytdoelmjaongjfaa
open Go.ChangeShapes Go.WideShapes Go.ChangeAt Go.RowKit
set_option linter.unusedVariables false
set_option linter.unusedSimpArgs false
/-- The slice at a has the blobs xs. -/
def BlRd (w : World) (a : Option Addr) (xs : List BlV) : Prop := ∀ (i : Nat) (x : BlV), xs[i]? = some x → ∃ (b : Nat) (ai : Option Addr) (ci : Nat), a = some ⟨b, 0, none⟩ ∧ w.cell? ⟨b, i * 2, none⟩ = some (.int .u8 x.t) ∧ w.cell? ⟨b, i * 2 + 1, none⟩ = some (.slice ai x.n ci) ∧ Rd .u8 w ai x.n x.l
theorem BlRd.below {w w1 : World} {a : Option Addr} {xs : List BlV} (h : BlRd w a xs) (hb : Below w.heap.size w w1) : BlRd w1 a xs := by
  intro i x hx
  obtain ⟨b, ai, ci, e, h1, h2, h3⟩ := h i x hx
  refine ⟨b, ai, ci, e, ?_, ?_, h3.below hb⟩
  · rw [hb.cell (p := ⟨b, i * 2, none⟩) (World.block_lt_of_cell? w _ h1)]; exact h1
  · rw [hb.cell (p := ⟨b, i * 2 + 1, none⟩) (World.block_lt_of_cell? w _ h2)]; exact h2
/-- The slice v is a result's own store: blobs xs, their data in the blocks ys. -/
structure OwnS (w : World) (base : Nat) (v : Value) (xs : List BlV) (ys : List Nat) : Prop where
  len : ys.length = xs.length
  row : w.ownsRow base 43 2 v xs.length (blC xs ys)
  lo : ∀ (i y : Nat), ys[i]? = some y → base ≤ y
  data : ∀ (i : Nat) (x : BlV) (y : Nat), xs[i]? = some x → ys[i]? = some y → w.heap[y]? = some (.cells (ints .u8 x.l) 5)
  nod : ∀ (i j y : Nat), ys[i]? = some y → ys[j]? = some y → i = j
theorem OwnS.below {w w1 : World} {base : Nat} {v : Value} {xs : List BlV} {ys : List Nat} (h : OwnS w base v xs ys) (hb : Below w.heap.size w w1) : OwnS w1 base v xs ys :=
  ⟨h.len, owns_below h.row hb, h.lo, fun i x y hx hy => keep_block (h.data i x y hx hy) hb, h.nod⟩
theorem OwnS.mono {w : World} {base base' : Nat} {v : Value} {xs : List BlV} {ys : List Nat} (h : OwnS w base v xs ys) (hb : base' ≤ base) : OwnS w base' v xs ys :=
  ⟨h.len, ⟨h.row.1, h.row.2.imp id fun ⟨g, c, cur, hv, hc, r⟩ => ⟨g, c, cur, hv, Nat.le_trans hb hc, r⟩⟩, fun i y hy => Nat.le_trans hb (h.lo i y hy), h.data, h.nod⟩
theorem OwnS.nil (w : World) (base : Nat) : OwnS w base (.slice none 0 0) [] [] :=
  ⟨rfl, ⟨rfl, Or.inl ⟨rfl, rfl⟩⟩, fun i y h => by simp at h, fun i x y h _ => by simp at h, fun i j y h => by simp at h⟩
theorem OwnS.shape {w : World} {base : Nat} {v : Value} {xs : List BlV} {ys : List Nat} (h : OwnS w base v xs ys) : ∃ a cap, v = .slice a xs.length cap ∧ OwnS w base (.slice a xs.length cap) xs ys := by
  have h' := h
  rcases h.row.2 with ⟨rfl, h0⟩ | ⟨b, cap, cur, rfl, _⟩
  · exact ⟨none, 0, by rw [h0], by rw [h0]; exact h'⟩
  · exact ⟨_, cap, rfl, h'⟩
theorem OwnS.get {w : World} {base cap : Nat} {a : Option Addr} {xs : List BlV} {ys : List Nat} {i : Nat} {x : BlV} (h : OwnS w base (.slice a xs.length cap) xs ys) (hx : xs[i]? = some x) :
    ∃ (g y : Nat) (cs : Array Value), a = some ⟨g, 0, none⟩ ∧ base ≤ g ∧ ys[i]? = some y ∧ w.heap[g]? = some (.cells cs 43) ∧ xs.length * 2 ≤ cs.size ∧ cs[i * 2]? = some (.int .u8 x.t) ∧ cs[i * 2 + 1]? = some (.slice (some ⟨y, 0, none⟩) x.n x.n) ∧ w.heap[y]? = some (.cells (ints .u8 x.l) 5) := by
  have hlt := (List.getElem?_eq_some_iff.1 hx).1
  obtain ⟨y, hy⟩ : ∃ y, ys[i]? = some y := ⟨ys[i]'(by rw [h.len]; exact hlt), List.getElem?_eq_getElem _⟩
  obtain ⟨b0, b1⟩ := blC_at xs ys i x y hx hy
  rcases h.row.2 with ⟨_, h0⟩ | ⟨gb, cap', cur, hv, hb, hg, hc, hm, hs, ht⟩
  · omega
  · cases hv
    refine ⟨gb, y, cur, rfl, hb, hy, hg, ?_, ?_, ?_, h.data i x y hx hy⟩
    · have hz : (blC xs ys).length = xs.length * 2 := by
        have : ∀ (xs : List BlV) (ys : List Nat), ys.length = xs.length → (blC xs ys).length = xs.length * 2 := by
          intro xs
          induction xs with
          | nil => intro ys h; simp [blC]
          | cons a r ih =>
            intro ys h
            cases ys with
            | nil => simp at h
            | cons b ys =>
              simp only [blC, List.length_append, List.length_cons, List.length_nil]
              rw [ih ys (by simpa using h)]
              omega
        exact this xs ys h.len
      have h5 := congrArg List.length ht
      rw [List.length_take, hz, Array.length_toList] at h5
      omega
    · rw [← Array.getElem?_toList, ← b0, ← ht, List.getElem?_take_of_lt (by omega)]
    · rw [← Array.getElem?_toList, ← b1, ← ht, List.getElem?_take_of_lt (by omega)]
theorem OwnS.rd {w : World} {base cap : Nat} {a : Option Addr} {xs : List BlV} {ys : List Nat} (h : OwnS w base (.slice a xs.length cap) xs ys) (hf : ∀ (i : Nat) (x : BlV), xs[i]? = some x → x.l.length = x.n) : BlRd w a xs := by
  intro i x hx
  obtain ⟨g, y, cs, e, _, _, hg, _, c0, c1, hy⟩ := h.get hx
  exact ⟨g, _, _, e, by rw [cell_of_row _ _ _ _ _ _ hg]; exact c0, by rw [cell_of_row _ _ _ _ _ _ hg]; exact c1, rdN (hf i x hx) hy⟩
theorem OutB.rd {w : World} {g n : Nat} {xs : List BlV} (h : OutB w g n n xs) (hl : xs.length = n) (hf : ∀ (i : Nat) (x : BlV), xs[i]? = some x → x.l.length = x.n) : BlRd w (some ⟨g, 0, none⟩) xs := by
  intro i x hx
  obtain ⟨y, h1, h2, h3⟩ := h.at (by have := (List.getElem?_eq_some_iff.1 hx).1; omega) hx
  exact ⟨g, _, _, rfl, h1, h2, rdN (hf i x hx) h3⟩
/-- Blobs as markStore marks them. -/
def mkB : Int → List BlV → List BlV
  | _, [] => []
  | k, x :: r => ⟨k % 256, x.a, x.n, x.cap, markL (k + 1) x.n⟩ :: mkB (k + 1 + x.n) r
theorem mkB_len : ∀ (k : Int) (xs : List BlV), (mkB k xs).length = xs.length
  | _, [] => rfl
  | k, x :: r => by simp [mkB, mkB_len _ r]
theorem mkB_at : ∀ (k : Int) (xs : List BlV) (i : Nat) (x : BlV), xs[i]? = some x → (mkB k xs)[i]? = some ⟨(k + ((i + szS (xs.take i) : Nat) : Int)) % 256, x.a, x.n, x.cap, markL (k + ((i + szS (xs.take i) : Nat) : Int) + 1) x.n⟩
  | _, [], i, _, h => by simp at h
  | k, y :: r, 0, x, h => by
    simp at h
    subst h
    simp [mkB, szS]
  | k, y :: r, i + 1, x, h => by
    have h1 := mkB_at (k + 1 + y.n) r i x (by simpa using h)
    have e : k + 1 + (y.n : Int) + ((i + szS (r.take i) : Nat) : Int) = k + ((i + 1 + szS ((y :: r).take (i + 1)) : Nat) : Int) := by
      simp only [List.take_succ_cons, szS, List.map_cons, List.sum_cons]
      push_cast
      omega
    rw [e] at h1
    simpa [mkB] using h1
theorem mkB_n {k : Int} {xs : List BlV} {i : Nat} {x : BlV} (h : (mkB k xs)[i]? = some x) : ∃ y, xs[i]? = some y ∧ x.n = y.n ∧ x.l.length = x.n := by
  have hlt := (List.getElem?_eq_some_iff.1 h).1
  rw [mkB_len] at hlt
  have h2 := mkB_at k xs i _ (List.getElem?_eq_getElem hlt)
  rw [h] at h2
  cases h2
  exact ⟨_, List.getElem?_eq_getElem hlt, rfl, markL_len _ _⟩
theorem blC_set : ∀ (xs : List BlV) (ys : List Nat) (i : Nat) (x : BlV) (t : Int) (l : List Int), xs[i]? = some x → ys.length = xs.length → (blC xs ys).set (i * 2) (.int .u8 t) = blC (xs.set i ⟨t, x.a, x.n, x.cap, l⟩) ys
  | [], _, i, _, _, _, h, _ => by simp at h
  | _ :: _, [], _, _, _, _, _, h => by simp at h
  | a :: xs, b :: ys, 0, x, t, l, h, h2 => by
    simp at h
    subst h
    simp [blC]
  | a :: xs, b :: ys, i + 1, x, t, l, h, h2 => by
    have h3 := blC_set xs ys i x t l (by simpa using h) (by simpa using h2)
    rw [show (i + 1) * 2 = i * 2 + 2 by omega]
    simpa [blC] using h3
/-- A blob of a result's own store, written. -/
theorem OwnS.put {w : World} {base cap g y i : Nat} {xs : List BlV} {ys : List Nat} {x : BlV} (h : OwnS w base (.slice (some ⟨g, 0, none⟩) xs.length cap) xs ys) (hx : xs[i]? = some x) (hy : ys[i]? = some y) (t : Int) (l : List Int) :
    OwnS ((w.setCell ⟨g, i * 2, none⟩ (.int .u8 t)).setRow y (ints .u8 l)) base (.slice (some ⟨g, 0, none⟩) xs.length cap) (xs.set i ⟨t, x.a, x.n, x.cap, l⟩) ys := by
  have hlt := (List.getElem?_eq_some_iff.1 hx).1
  have hyd := h.data i x y hx hy
  rcases h.row.2 with ⟨_, h0⟩ | ⟨gb, cap', cur, hv, hb, hg, hc, hm, hs, ht⟩
  · omega
  cases hv
  have hne : g ≠ y := fun e => by
    rw [e, hyd] at hg
    injection hg with e1
    injection e1 with _ e2
    exact absurd e2 (by decide)
  have hset : (w.setCell ⟨g, i * 2, none⟩ (.int .u8 t)).heap[g]? = some (.cells (cur.setIfInBounds (i * 2) (.int .u8 t)) 43) := heap_setCell_same _ _ _ _ _ _ hg
  have hoth : ∀ q, q ≠ g → (w.setCell ⟨g, i * 2, none⟩ (.int .u8 t)).heap[q]? = w.heap[q]? := fun q hq => heap_setCell_other _ _ _ _ hq
  refine ⟨by rw [List.length_set]; exact h.len, ⟨by rw [List.length_set]; have := h.row.1; rw [← blC_set xs ys i x t l hx h.len, List.length_set]; exact this, Or.inr ⟨g, cap, cur.setIfInBounds (i * 2) (.int .u8 t), by rw [List.length_set], hb, ?_, by rw [List.length_set]; exact hc, hm, by rw [Array.size_setIfInBounds]; exact hs, ?_⟩⟩, h.lo, fun j z q hz hq => ?_, h.nod⟩
  · rw [setRow_other _ _ _ _ hne]
    exact hset
  · rw [List.length_set, ← blC_set xs ys i x t l hx h.len, ← ht, Array.toList_setIfInBounds, List.take_set]
  · by_cases hij : j = i
    · subst hij
      rw [hy] at hq
      cases hq
      rw [List.getElem?_set_self hlt] at hz
      cases hz
      exact setRow_heap _ _ _ _ _ _ ((hoth y hne.symm).trans hyd)
    · rw [List.getElem?_set_ne (fun e => hij e.symm)] at hz
      have hqd := h.data j z q hz hq
      have hqg : q ≠ g := fun e => by
        rw [e, hg] at hqd
        injection hqd with e1
        injection e1 with _ e2
        exact absurd e2 (by decide)
      rw [setRow_other _ _ _ _ (fun e => hij (h.nod j i q hq (by rw [e]; exact hy))), hoth q hqg]
      exact hqd
/-- Blocks that are neither of blobs nor of bytes stay. -/
def TKeep (w w' : World) : Prop := ∀ (q : Nat) (c : Array Value) (T : TypeId), w.heap[q]? = some (.cells c T) → T ≠ 43 → T ≠ 5 → w'.heap[q]? = some (.cells c T)
theorem TKeep.refl (w : World) : TKeep w w := fun _ _ _ h _ _ => h
theorem TKeep.trans {w1 w2 w3 : World} (h : TKeep w1 w2) (h2 : TKeep w2 w3) : TKeep w1 w3 := fun q c T hq h3 h4 => h2 q c T (h q c T hq h3 h4) h3 h4
theorem TKeep.of {w w' : World} (h : Below w.heap.size w w') : TKeep w w' := fun q c T hq _ _ => keep_block hq h
theorem TKeep.put {w : World} {g y o : Nat} {v : Value} {c d cs : Array Value} (hg : w.heap[g]? = some (.cells c 43)) (hy : w.heap[y]? = some (.cells d 5)) : TKeep w ((w.setCell ⟨g, o, none⟩ v).setRow y cs) := fun q e T hq h1 h2 => by
  have n1 : q ≠ g := fun e1 => by
    rw [e1, hg] at hq
    injection hq with e2
    injection e2 with _ e3
    exact h1 e3.symm
  have n2 : q ≠ y := fun e1 => by
    rw [e1, hy] at hq
    injection hq with e2
    injection e2 with _ e3
    exact h2 e3.symm
  rw [setRow_other _ _ _ _ n2, heap_setCell_other _ _ _ _ n1]
  exact hq
theorem mark_step {k0 : Int} {xs : List BlV} {k : Nat} {x : BlV} (hx : xs[k]? = some x) : ((mkB k0 xs).take k ++ xs.drop k).set k ⟨(k0 + ((k + szS (xs.take k) : Nat) : Int)) % 256, x.a, x.n, x.cap, markL (k0 + ((k + szS (xs.take k) : Nat) : Int) + 1) x.n⟩ = (mkB k0 xs).take (k + 1) ++ xs.drop (k + 1) := by
  have hlt := (List.getElem?_eq_some_iff.1 hx).1
  have hm := mkB_at k0 xs k x hx
  have hml : ((mkB k0 xs).take k).length = k := by rw [List.length_take, mkB_len]; omega
  rw [List.set_append_right _ _ (by omega), hml, Nat.sub_self, List.take_add_one, hm, List.append_assoc, ← List.getElem_cons_drop hlt]
  rfl
theorem mark_at {k0 : Int} {xs : List BlV} {k : Nat} {x : BlV} (hx : xs[k]? = some x) : ((mkB k0 xs).take k ++ xs.drop k)[k]? = some x := by
  have hlt := (List.getElem?_eq_some_iff.1 hx).1
  have hml : ((mkB k0 xs).take k).length = k := by rw [List.length_take, mkB_len]; omega
  rw [List.getElem?_append_right (by omega), hml, Nat.sub_self, List.getElem?_drop]
  exact hx
theorem mark_len {k0 : Int} {xs : List BlV} {k : Nat} (hk : k ≤ xs.length) : ((mkB k0 xs).take k ++ xs.drop k).length = xs.length := by
  rw [List.length_append, List.length_take, List.length_drop, mkB_len]
  omega
theorem ho_lo {w : World} {base i y : Nat} {v : Value} {xs : List BlV} {ys : List Nat} (h : OwnS w base v xs ys) (hy : ys[i]? = some y) : base ≤ y := h.lo i y hy
set_option maxRecDepth 100000 in
set_option maxHeartbeats 4000000 in
theorem markBlO (a : Option Addr) (cap base : Nat) (xs : List BlV) (ys : List Nat) (k0 : Int) (h0 : 0 ≤ k0) (h1 : k0 + xs.length + szS xs ≤ 1099511627776) (hn : xs.length ≤ 1048576) (hf : ∀ (i : Nat) (x : BlV), xs[i]? = some x → x.l.length = x.n ∧ x.n ≤ 1048576) (w : World) (ho : OwnS w base (.slice a xs.length cap) xs ys) :
    Calls Try.prog 54 #[.slice a xs.length cap, .int .i64 k0] w fun e w' => e = .returned (.int .i64 (k0 + (xs.length + szS xs : Nat))) ∧ OwnS w' base (.slice a xs.length cap) (mkB k0 xs) ys ∧ Below base w w' ∧ TKeep w w' := by
  have HO := Lib.hid ho
  have HF := Lib.hid hf
  clear ho hf
  obtain ⟨n, hnn⟩ : ∃ n, xs.length = n := ⟨_, rfl⟩
  rw [hnn] at h1 hn HO ⊢
  go_enter Try.func54, Try.ntmps54
  go_wp2_with fail
  go_loopw [1, 5] (fun m i wr => ∃ k : Nat, k ≤ n ∧ i = .int .i64 k ∧ m = .int .i64 (k0 + (k + szS (xs.take k) : Nat)) ∧ OwnS wr base (.slice a n cap) ((mkB k0 xs).take k ++ xs.drop k) ys ∧ Below base w wr ∧ TKeep w wr) (fun _ i _ => n - (intOf i).toNat)
  case atStart => exact ⟨0, by omega, rfl, by simp [szS], by simpa using HO.out, Below.refl _ _, TKeep.refl _⟩
  case round =>
    obtain ⟨k, hk, rfl, rfl, hO, hb, hT⟩ := hrel
    have HB := Lib.hid hb
    have HT := Lib.hid hT
    clear hb hT
    by_cases hlt : k < n
    · obtain ⟨x, hx⟩ : ∃ x, xs[k]? = some x := ⟨xs[k]'(by omega), List.getElem?_eq_getElem (by omega)⟩
      obtain ⟨f1, f2⟩ := HF.out k x hx
      have hml := mark_len (k0 := k0) (xs := xs) (k := k) (by omega)
      have hO' := hO
      rw [show n = ((mkB k0 xs).take k ++ xs.drop k).length by rw [hml, hnn]] at hO'
      obtain ⟨g, y, cs, rfl, g0, hy, hg, hcs, c0, c1, hyd⟩ := hO'.get (mark_at hx)
      rw [hml, hnn] at hcs
      have hst := mark_step (k0 := k0) hx
      have hput := fun t l => hO'.put (mark_at hx) hy t l
      rw [hml, hnn] at hput
      have hz := szS_take hx
      have hza := szS_all xs (k + 1)
      have hmm : k0 + ((k + szS (xs.take k) : Nat) : Int) + 1 + (x.n : Int) = k0 + ((k + 1 + szS (xs.take (k + 1)) : Nat) : Int) := by rw [hz]; push_cast; omega
      have HM := Lib.hid hmm
      have hm0 : 0 ≤ k0 + ((k + szS (xs.take k) : Nat) : Int) := by omega
      have hm1 : k0 + ((k + szS (xs.take k) : Nat) : Int) + 1 + (x.n : Int) ≤ 1099511627776 := by rw [hmm]; push_cast; omega
      clear hmm hz hza hO'
      generalize k0 + ((k + szS (xs.take k) : Nat) : Int) = m at HM hm0 hm1 hst ⊢
      have HP := Lib.hid (hst ▸ hput (m % 256) (markL (m + 1) x.n))
      have d0 := cell_of_row wr g (k * 2) _ _ _ hg
      have d1 := cell_of_row wr g (k * 2 + 1) _ _ _ hg
      rw [c0] at d0
      rw [c1] at d1
      have f0 := frozen_of_row wr g (k * 2) _ _ hg
      have b0 : (0 : Int) ≤ (k : Int) := by omega
      have b1 : (k : Int) < (n : Int) := by omega
      have e2 : (wr.setCell ⟨g, k * 2, none⟩ (.int .u8 (m % 256))).heap[y]? = some (.cells (ints .u8 x.l) 5) := (heap_setCell_other _ _ _ _ (fun e => by
        have e' : y = g := e
        have hyd' := hyd
        rw [e', hg] at hyd'
        injection hyd' with e1
        injection e1 with _ e2
        exact absurd e2 (by decide))).trans hyd
      have hcall := Lib.hid (markBS' y x.n x.n x.l 5 (m + 1) (by omega) (by omega) (by omega) (by omega) _ e2)
      have HK := Lib.hid (TKeep.put (o := k * 2) (v := .int .u8 (m % 256)) (cs := ints .u8 (markL (m + 1) x.n)) hg hyd)
      have HBW := Lib.hid (Below.setRow ((Below.refl base wr).setCell (p := ⟨g, k * 2, none⟩) g0 (.int .u8 (m % 256))) (ho_lo hO hy) (ints .u8 (markL (m + 1) x.n)))
      have HX := Lib.hid (show x.l.drop x.n = [] from List.drop_eq_nil_of_le (by omega))
      clear e2 hst hput hO hyd c0 c1 hg hx HO hy
      go_wp2_with fail
      refine hcall.out.mono ?_
      rintro e w1 ⟨rfl, hw1⟩
      rw [HX.out, List.append_nil] at hw1
      have HW := Lib.hid hw1
      clear hw1
      go_wp2_with fail
      go_roundw
      case rel =>
        rw [HW.out]
        exact ⟨k + 1, by omega, by go_num, by have hq := HM.out; congr 1 <;> (push_cast at hq ⊢; omega), HP.out, HB.out.trans HBW.out, HT.out.trans HK.out⟩
      case measure => simp [intOf]; omega
    · obtain rfl : k = n := by omega
      have hz : xs.take k = xs := List.take_of_length_le (by omega)
      have hzm : (mkB k0 xs).take k ++ xs.drop k = mkB k0 xs := by
        rw [List.take_of_length_le (by rw [mkB_len]; omega), List.drop_eq_nil_of_le (by omega), List.append_nil]
      rw [hz]
      rw [hzm] at hO
      have HOO := Lib.hid hO
      clear hO
      generalize hm : k0 + ((k + szS xs : Nat) : Int) = m
      go_wp2_with fail
      go_ret
      exact ⟨by rw [hm]; rfl, HOO.out, HB.out, HT.out⟩
set_option maxRecDepth 100000 in
set_option maxHeartbeats 4000000 in
theorem eqBlR (aa ab : Option Addr) (ca cb : Nat) (xs : List BlV) (hn : xs.length ≤ 1048576) (hf : ∀ (i : Nat) (x : BlV), xs[i]? = some x → x.n ≤ 1048576) (w : World) (ha : BlRd w aa xs) (hb : BlRd w ab xs) :
    Calls Try.prog 53 #[.slice aa xs.length ca, .slice ab xs.length cb] w fun e w' => e = .returned (.bool true) ∧ Below w.heap.size w w' := by
  have HA := Lib.hid ha
  have HB := Lib.hid hb
  have HF := Lib.hid hf
  clear ha hb hf
  obtain ⟨n, hnn⟩ : ∃ n, xs.length = n := ⟨_, rfl⟩
  rw [hnn] at hn ⊢
  go_enter Try.func53, Try.ntmps53
  go_wp2_with fail
  go_loopw [5] (fun i wr => ∃ k : Nat, k ≤ n ∧ i = .int .i64 k ∧ Below w.heap.size w wr) (fun i _ => n - (intOf i).toNat)
  case atStart => exact ⟨0, by omega, rfl, Below.refl _ _⟩
  case round =>
    obtain ⟨k, hk, rfl, hb⟩ := hrel
    have B1 := Lib.hid hb
    clear hb
    by_cases hlt : k < n
    · have b0 : (0 : Int) ≤ (k : Int) := by omega
      have b1 : (k : Int) < (n : Int) := by omega
      obtain ⟨x, hx⟩ : ∃ x, xs[k]? = some x := ⟨xs[k]'(by omega), List.getElem?_eq_getElem (by omega)⟩
      have f1 := HF.out k x hx
      obtain ⟨ga, ya, da, rfl, -⟩ := (HA.out.below B1.out) k x hx
      obtain ⟨gb, yb, db, rfl, -⟩ := (HB.out.below B1.out) k x hx
      obtain ⟨ga', ya, da, e1, A1, A2, A3⟩ := (HA.out.below B1.out) k x hx
      cases e1
      obtain ⟨gb', yb, db, e1, A4, A5, A6⟩ := (HB.out.below B1.out) k x hx
      cases e1
      have C1 := Lib.hid (fun U (hU : Below wr.heap.size wr U) => And.intro ((hU.cell (p := ⟨ga, k * 2, none⟩) (World.block_lt_of_cell? wr _ A1)).trans A1) ((hU.cell (p := ⟨ga, k * 2 + 1, none⟩) (World.block_lt_of_cell? wr _ A2)).trans A2))
      have C2 := Lib.hid (fun U (hU : Below wr.heap.size wr U) => And.intro ((hU.cell (p := ⟨gb, k * 2, none⟩) (World.block_lt_of_cell? wr _ A4)).trans A4) ((hU.cell (p := ⟨gb, k * 2 + 1, none⟩) (World.block_lt_of_cell? wr _ A5)).trans A5))
      have HQ := Lib.hid (fun U (hU : Below wr.heap.size wr U) => eqBl x.t ya yb x.n da db x.l f1 U (A3.below hU) (A6.below hU))
      clear A1 A2 A3 A4 A5 A6 f1 hx
      obtain ⟨xt, xa, xn, xc, xl⟩ := x
      go_wp2_with fail
      refine wp_region_held_drew (S := Below (wr).heap.size (wr)) (by kernel_rfl) ((Below.refl _ _).drew) (fun hS => ?_)
      refine takeS (i := 0) (v := .slice (some ⟨ga, 0, none⟩) n ca) rfl rfl (by kernel_rfl) (by kernel_rfl) (by kernel_rfl) (fun _ _ _ h => h) (Or.inl ⟨by rfl, fun U hU => by go_simp⟩) hS ?_
      try simp only [List.setIfInBounds_toArray, List.set_cons_zero, List.set_cons_succ]
      refine takeS (i := 1) (v := .int .i64 (k : Int)) rfl rfl (by kernel_rfl) (by kernel_rfl) (by kernel_rfl) (fun _ _ _ h => h) (Or.inl ⟨by rfl, fun U hU => by go_simp⟩) hS ?_
      try simp only [List.setIfInBounds_toArray, List.set_cons_zero, List.set_cons_succ]
      refine takeS (i := 2) (v := .pointer (some ⟨ga, k * 2, none⟩)) rfl rfl (by kernel_rfl) (by kernel_rfl) (by kernel_rfl) (fun _ _ _ h => h) (Or.inl ⟨by rfl, fun U hU => by go_simp⟩) hS ?_
      try simp only [List.setIfInBounds_toArray, List.set_cons_zero, List.set_cons_succ]
      refine takeS (i := 3) (v := .agg #[.int .u8 xt, .slice ya xn da]) rfl rfl (by kernel_rfl) (by kernel_rfl) (by kernel_rfl) (fun _ _ _ h => h) (Or.inl ⟨by rfl, fun U hU => by obtain ⟨c0, c1⟩ := C1.out U hU; go_simp⟩) hS ?_
      try simp only [List.setIfInBounds_toArray, List.set_cons_zero, List.set_cons_succ]
      refine takeS (i := 4) (v := .slice (some ⟨gb, 0, none⟩) n cb) rfl rfl (by kernel_rfl) (by kernel_rfl) (by kernel_rfl) (fun _ _ _ h => h) (Or.inl ⟨by rfl, fun U hU => by go_simp⟩) hS ?_
      try simp only [List.setIfInBounds_toArray, List.set_cons_zero, List.set_cons_succ]
      refine takeS (i := 5) (v := .int .i64 (k : Int)) rfl rfl (by kernel_rfl) (by kernel_rfl) (by kernel_rfl) (fun _ _ _ h => h) (Or.inl ⟨by rfl, fun U hU => by go_simp⟩) hS ?_
      try simp only [List.setIfInBounds_toArray, List.set_cons_zero, List.set_cons_succ]
      refine takeS (i := 6) (v := .pointer (some ⟨gb, k * 2, none⟩)) rfl rfl (by kernel_rfl) (by kernel_rfl) (by kernel_rfl) (fun _ _ _ h => h) (Or.inl ⟨by rfl, fun U hU => by go_simp⟩) hS ?_
      try simp only [List.setIfInBounds_toArray, List.set_cons_zero, List.set_cons_succ]
      refine takeS (i := 7) (v := .agg #[.int .u8 xt, .slice yb xn db]) rfl rfl (by kernel_rfl) (by kernel_rfl) (by kernel_rfl) (fun _ _ _ h => h) (Or.inl ⟨by rfl, fun U hU => by obtain ⟨c0, c1⟩ := C2.out U hU; go_simp⟩) hS ?_
      try simp only [List.setIfInBounds_toArray, List.set_cons_zero, List.set_cons_succ]
      refine wpAnyH_ready (rs := [8]) (by kernel_rfl) (by simp) ?_
      refine AllReadyH.cons rfl (fun KQ hK => ?_) AllReadyH.nil
      rw [if_pos (by rfl)]
      go_simp
      refine (HQ.out _ hS).mono ?_
      rintro e w1 ⟨rfl, hb⟩
      refine hK.out _ _ (below_call hS hS.size hb) (fun hS => ?_)
      clear hb hK
      refine takeS (i := 9) (v := .bool false) rfl rfl (by kernel_rfl) (by kernel_rfl) (by kernel_rfl) (fun _ _ _ h => h) (Or.inl ⟨by rfl, fun U hU => by go_simp⟩) hS ?_
      try simp only [List.setIfInBounds_toArray, List.set_cons_zero, List.set_cons_succ]
      refine wpAnyH_done (by kernel_rfl) ?_ _
      have HS := Lib.hid (B1.out.trans (hS.mono B1.out.size))
      clear hS
      go_wp2_with fail
      go_roundw
      case rel => exact ⟨k + 1, by omega, by go_num, HS.out⟩
      case measure => simp [intOf]; omega
    · obtain rfl : k = n := by omega
      go_wp2_with fail
      go_ret
      exact ⟨rfl, B1.out⟩
set_option maxRecDepth 100000 in
set_option maxHeartbeats 4000000 in
theorem heldBlO (a : Option Addr) (cap n : Nat) (zs : List BlV) (xs : List BlV) (k0 : Int) (hz : zs = mkB k0 xs) (hnn : xs.length = n) (h0 : 0 ≤ k0) (h1 : k0 + n + szS xs ≤ 1099511627776) (hn : n ≤ 1048576) (hf : ∀ (i : Nat) (x : BlV), xs[i]? = some x → x.n ≤ 1048576) (w : World) (ho : BlRd w a zs) :
    Calls Try.prog 55 #[.slice a n cap, .int .i64 k0] w fun e w' => e = .returned (.int .i64 (k0 + (n + szS xs : Nat))) ∧ w' = w := by
  have HO := Lib.hid ho
  have HF := Lib.hid hf
  clear ho hf
  go_enter Try.func55, Try.ntmps55
  go_wp2_with fail
  go_loopw [1, 5] (fun m i wr => ∃ k : Nat, k ≤ n ∧ i = .int .i64 k ∧ m = .int .i64 (k0 + (k + szS (xs.take k) : Nat)) ∧ wr = w) (fun _ i _ => n - (intOf i).toNat)
  case atStart => exact ⟨0, by omega, rfl, by simp [szS], rfl⟩
  case round =>
    obtain ⟨k, hk, rfl, rfl, rfl⟩ := hrel
    by_cases hlt : k < n
    · obtain ⟨x, hx⟩ : ∃ x, xs[k]? = some x := ⟨xs[k]'(by omega), List.getElem?_eq_getElem (by omega)⟩
      have f2 := HF.out k x hx
      have hat := mkB_at k0 xs k x hx
      rw [← hz] at hat
      obtain ⟨g, ai, ci, rfl, c0, c1, hrd⟩ := HO.out k _ hat
      dsimp only at c0 c1 hrd
      have hzz := szS_take hx
      have hza := szS_all xs (k + 1)
      have hmm : k0 + ((k + szS (xs.take k) : Nat) : Int) + 1 + (x.n : Int) = k0 + ((k + 1 + szS (xs.take (k + 1)) : Nat) : Int) := by rw [hzz]; push_cast; omega
      have HM := Lib.hid hmm
      have hm0 : 0 ≤ k0 + ((k + szS (xs.take k) : Nat) : Int) := by omega
      have hm1 : k0 + ((k + szS (xs.take k) : Nat) : Int) + 1 + (x.n : Int) ≤ 1099511627776 := by rw [hmm]; push_cast; omega
      clear hmm hzz hza
      generalize k0 + ((k + szS (xs.take k) : Nat) : Int) = m at HM hm0 hm1 c0 hrd ⊢
      have hcall := Lib.hid (heldBS ai x.n ci (m + 1) (by omega) (by omega) (by omega) wr hrd)
      have b0 : (0 : Int) ≤ (k : Int) := by omega
      have b1 : (k : Int) < (n : Int) := by omega
      have b2 : ¬ m + 1 + (x.n : Int) < 0 := by omega
      clear hat hrd hx
      go_wp2_with fail
      refine hcall.out.mono ?_
      rintro e w1 ⟨rfl, rfl⟩
      go_wp2_with fail
      go_roundw
      case rel => exact ⟨k + 1, by omega, by go_num, by have hq := HM.out; congr 1 <;> (push_cast at hq ⊢; omega), by first | rfl | trivial⟩
      case measure => simp [intOf]; omega
    · obtain rfl : k = n := by omega
      have hz2 : xs.take k = xs := List.take_of_length_le (by omega)
      rw [hz2]
      generalize hm : k0 + ((k + szS xs : Nat) : Int) = m
      go_wp2_with fail
      go_ret
      exact ⟨by rw [hm]; rfl, rfl⟩
set_option maxRecDepth 100000 in
set_option maxHeartbeats 4000000 in
theorem eqStR (aa ab : Option Addr) (ca cb n : Nat) (xs : List BlV) (hl : xs.length = n) (hn : n ≤ 1048576) (hf : ∀ (i : Nat) (x : BlV), xs[i]? = some x → x.n ≤ 1048576) (w : World) (ha : BlRd w aa xs) (hb : BlRd w ab xs) :
    Calls Try.prog 18 #[.agg #[.slice aa n ca], .agg #[.slice ab n cb]] w fun e w' => e = .returned (.bool true) ∧ Below w.heap.size w w' := by
  subst hl
  have B0 : Below w.heap.size w ((w.alloc (.cells #[.slice aa xs.length ca] 29)).alloc (.cells #[.slice ab xs.length cb] 29)) := by go_grown
  have HQ := Lib.hid (eqBlR aa ab ca cb xs hn hf _ (ha.below B0) (hb.below B0))
  have HB := Lib.hid B0
  clear B0 ha hb
  go_enter Try.func18, Try.ntmps18
  go_wp2_with fail
  refine HQ.out.mono ?_
  rintro e w1 ⟨rfl, hb⟩
  have HB1 := Lib.hid (below_call HB.out HB.out.size hb)
  clear hb
  go_wp2_with fail
  go_ret
  exact ⟨rfl, HB1.out⟩
set_option maxRecDepth 100000 in
set_option maxHeartbeats 4000000 in
theorem markStO (a : Option Addr) (cap base n : Nat) (xs : List BlV) (ys : List Nat) (k0 : Int) (hl : xs.length = n) (h0 : 0 ≤ k0) (h1 : k0 + n + szS xs ≤ 1099511627776) (hn : n ≤ 1048576) (hf : ∀ (i : Nat) (x : BlV), xs[i]? = some x → x.l.length = x.n ∧ x.n ≤ 1048576) (w : World) (hbase : base ≤ w.heap.size) (ho : OwnS w base (.slice a n cap) xs ys) :
    Calls Try.prog 24 #[.agg #[.slice a n cap], .int .i64 k0] w fun e w' => e = .returned (.int .i64 (k0 + (n + szS xs : Nat))) ∧ OwnS w' base (.slice a n cap) (mkB k0 xs) ys ∧ Below base w w' ∧ TKeep w w' := by
  subst hl
  have B0 := (Below.refl w.heap.size w).alloc (Nat.le_refl _) (.cells #[.slice a xs.length cap] 29)
  have HQ := Lib.hid (markBlO a cap base xs ys k0 h0 h1 hn hf _ (ho.below B0))
  have HB := Lib.hid B0
  clear ho B0
  generalize k0 + ((xs.length + szS xs : Nat) : Int) = r at HQ ⊢
  go_enter Try.func24, Try.ntmps24
  go_wp2_with fail
  refine HQ.out.mono ?_
  rintro e w1 ⟨rfl, hO, hb, hT⟩
  have HO := Lib.hid hO
  have HB1 := Lib.hid ((HB.out.mono hbase).trans hb)
  have HT := Lib.hid ((TKeep.of HB.out).trans hT)
  clear hb hT hO
  go_wp2_with fail
  go_ret
  exact ⟨rfl, HO.out, HB1.out, HT.out⟩
set_option maxRecDepth 100000 in
set_option maxHeartbeats 4000000 in
theorem heldStO (a : Option Addr) (cap n : Nat) (xs : List BlV) (k0 : Int) (hl : xs.length = n) (h0 : 0 ≤ k0) (h1 : k0 + n + szS xs ≤ 1099511627776) (hn : n ≤ 1048576) (hf : ∀ (i : Nat) (x : BlV), xs[i]? = some x → x.n ≤ 1048576) (w : World) (ho : BlRd w a (mkB k0 xs)) :
    Calls Try.prog 38 #[.agg #[.slice a n cap], .int .i64 k0] w fun e w' => e = .returned (.int .i64 (k0 + (n + szS xs : Nat))) ∧ Below w.heap.size w w' := by
  have B0 := (Below.refl w.heap.size w).alloc (Nat.le_refl _) (.cells #[.slice a n cap] 29)
  have HQ := Lib.hid (heldBlO a cap n _ xs k0 rfl hl h0 h1 hn hf _ (ho.below B0))
  have HB := Lib.hid B0
  clear ho B0
  have hr : ¬ k0 + ((n + szS xs : Nat) : Int) < 0 := by omega
  generalize k0 + ((n + szS xs : Nat) : Int) = r at HQ hr ⊢
  go_enter Try.func38, Try.ntmps38
  go_wp2_with fail
  refine HQ.out.mono ?_
  rintro e w1 ⟨rfl, rfl⟩
  go_wp2_with fail
  go_ret
  exact ⟨rfl, HB.out⟩
end Go.Proofs.Ytdoelmjaongjfaa
