/- The shelf of a store, by the program. Written by wip/gen/sof.py. -/
import Derived.Test.YtdoelmjaongjfaaBlobK
import Derived.Test.YtdoelmjaongjfaaStoreT
import Derived.Test.YtdoelmjaongjfaaStoreQ
import Derived.Test.YtdoelmjaongjfaaKo
import Derived.Test.YtdoelmjaongjfaaGrd
namespace Go.Proofs.Ytdoelmjaongjfaa
open Go.ChangeShapes Go.WideShapes Go.ChangeAt Go.RowKit
set_option linter.unusedVariables false
set_option linter.unusedSimpArgs false
theorem kty : KeyTy Try.prog 46 5 := ⟨Try.underlying46, Try.underlying5, by kernel_rfl, by kernel_rfl, by kernel_rfl, of_decide_eq_true (by kernel_rfl), Go.Maps.Keyed.of_law (deep_law_laid laidOut (m := 2) (by omega) (of_decide_eq_true (by kernel_rfl)) (by kernel_rfl) (by kernel_rfl))⟩
theorem shelfTy : Try.prog.underlying 80 = some (.map 46 43) := Try.underlying80
theorem run_makeShelf (n : Int) (w : World) : (Instr.makeMap 80 (some (.int .i64 n))).run Try.prog w = .ok (.map (some w.heap.size)) (w.alloc (.map #[] 0)) := by
  simp [Instr.makeMap, run_underlying shelfTy, asInt, asIntOf, Result.andThen]
def keyX (x : BlV) : List Int := hashK x.t x.l
theorem isK_hash (t : Int) (l : List Int) : IsK (hashK t l) := ⟨hashK_len t l, fun z hz => by
  unfold hashK endK keyS at hz
  obtain ⟨i, _, rfl⟩ := List.mem_map.1 hz
  omega⟩
theorem isK_keyX (x : BlV) : IsK (keyX x) := isK_hash _ _
/-- What a valid store is. -/
def stP (bs : List BlV) : Prop := bs.length ≤ 128 ∧ (∀ (i : Nat) (x : BlV), bs[i]? = some x → x.n ≤ 1024) ∧ ∀ (i : Nat) (x y : BlV), bs[i]? = some x → bs[i + 1]? = some y → cmpI (keyX x) (keyX y) < 0
def blV (x : BlV) (y : Nat) : Value := .agg #[.int .u8 x.t, .slice (some ⟨y, 0, none⟩) x.n x.n]
def BlHere (w : World) (v : Value) (x : BlV) : Prop := ∃ y, v = blV x y ∧ w.heap[y]? = some (.cells (ints .u8 x.l) 5)
theorem BlHere.below {w w1 : World} {v : Value} {x : BlV} (h : BlHere w v x) (hb : Below w.heap.size w w1) : BlHere w1 v x := by
  obtain ⟨y, h1, h2⟩ := h
  exact ⟨y, h1, keep_block h2 hb⟩
/-- Block m is a shelf with the blobs xs. -/
def ShelfAt (w : World) (m : Nat) (xs : List BlV) : Prop := ∃ ps, KMap Try.prog 46 w m ps ∧ ps.length = xs.length ∧ ∀ (i : Nat) (p : List Int × Value) (x : BlV), ps[i]? = some p → xs[i]? = some x → p.1 = keyX x ∧ BlHere w p.2 x
theorem ShelfAt.lt {w : World} {m : Nat} {xs : List BlV} (h : ShelfAt w m xs) : m < w.heap.size := by
  obtain ⟨ps, h1, _⟩ := h
  exact h1.lt
theorem ShelfAt.below {w w1 : World} {m : Nat} {xs : List BlV} (h : ShelfAt w m xs) (hb : Below w.heap.size w w1) : ShelfAt w1 m xs := by
  obtain ⟨ps, h1, h2, h3⟩ := h
  exact ⟨ps, h1.later hb, h2, fun i p x hp hx => ⟨(h3 i p x hp hx).1, (h3 i p x hp hx).2.below hb⟩⟩
theorem ShelfAt.made (w : World) : ShelfAt (w.alloc (.map #[] 0)) w.heap.size [] := ⟨[], KMap.made w, rfl, fun i p x hp _ => by simp at hp⟩
theorem shelf_mem {w : World} {xs : List BlV} {ps : List (List Int × Value)} (h2 : ps.length = xs.length) (h3 : ∀ (i : Nat) (p : List Int × Value) (x : BlV), ps[i]? = some p → xs[i]? = some x → p.1 = keyX x ∧ BlHere w p.2 x) {p : List Int × Value} (hp : p ∈ ps) : ∃ x ∈ xs, p.1 = keyX x ∧ BlHere w p.2 x := by
  obtain ⟨i, hi⟩ := List.getElem?_of_mem hp
  have hlt := (List.getElem?_eq_some_iff.1 hi).1
  obtain ⟨x, hx⟩ : ∃ x, xs[i]? = some x := ⟨xs[i]'(by omega), List.getElem?_eq_getElem (by omega)⟩
  exact ⟨x, List.mem_of_getElem? hx, h3 i p x hi hx⟩
/-- Blocks of cells stay where a map is turned. -/
theorem BlHere.turned {w w1 : World} {m : Nat} {ps : List (List Int × Value)} {v : Value} {x : BlV} (h : BlHere w v x) (hm : KMap Try.prog 46 w m ps) (hg : w.grownBy w1 (some m)) : BlHere w1 v x := by
  obtain ⟨y, h1, h2⟩ := h
  refine ⟨y, h1, (hg.block y (Array.getElem?_eq_some_iff.1 h2).1 (fun e => ?_)).trans h2⟩
  obtain ⟨es, clock, hb, _⟩ := hm
  cases e
  rw [hb] at h2
  cases h2
/-- A new blob on a shelf. -/
theorem ShelfAt.push {w : World} {m : Nat} {xs : List BlV} {v : Value} {x : BlV} (h : ShelfAt w m xs) (hx : BlHere w v x) (hnew : ∀ y ∈ xs, keyX y ≠ keyX x) (hroom : xs.length < maxLen) :
    ∃ w', (Instr.mapUpdate 80 (.map (some m)) (.agg (ints .u8 (keyX x))) v).run Try.prog w = .ok () w' ∧ ShelfAt w' m (xs ++ [x]) ∧ w.grownBy w' (some m) ∧ w'.heap.size = w.heap.size := by
  obtain ⟨ps, h1, h2, h3⟩ := h
  obtain ⟨w', hrun, hK, hg, hz⟩ := h1.put kty shelfTy (by omega) (isK_keyX x) v
  have hno : ∀ p ∈ ps, p.1 ≠ keyX x := fun p hp => by
    obtain ⟨y, hy, e, _⟩ := shelf_mem h2 h3 hp
    rw [e]
    exact hnew y hy
  rw [putK_new hno] at hK
  refine ⟨w', hrun, ⟨ps ++ [(keyX x, v)], hK, by simp [h2], fun i p z hp hz => ?_⟩, hg, hz⟩
  by_cases hi : i < ps.length
  · rw [List.getElem?_append_left hi] at hp
    rw [List.getElem?_append_left (by omega)] at hz
    exact ⟨(h3 i p z hp hz).1, (h3 i p z hp hz).2.turned h1 hg⟩
  · rw [List.getElem?_append_right (by omega)] at hp
    rw [List.getElem?_append_right (by omega)] at hz
    have e1 := (List.getElem?_eq_some_iff.1 hp).1
    simp at e1
    have e2 : i - ps.length = 0 := by omega
    rw [e2] at hp
    rw [← h2, e2] at hz
    cases hp
    cases hz
    exact ⟨rfl, hx.turned h1 hg⟩
/-- Keys that ascend from each to the next one ascend altogether. -/
theorem asc_far {bs : List BlV} {k : Nat} (h : ∀ (i : Nat) (x y : BlV), i + 1 < k → bs[i]? = some x → bs[i + 1]? = some y → cmpI (keyX x) (keyX y) < 0) : ∀ (d i : Nat) (x y : BlV), i + d + 1 < k → bs[i]? = some x → bs[i + d + 1]? = some y → cmpI (keyX x) (keyX y) < 0
  | 0, i, x, y, hk, hx, hy => h i x y (by omega) hx hy
  | d + 1, i, x, y, hk, hx, hy => by
    have hlt := (List.getElem?_eq_some_iff.1 hy).1
    obtain ⟨z, hz⟩ : ∃ z, bs[i + d + 1]? = some z := ⟨bs[i + d + 1]'(by omega), List.getElem?_eq_getElem (by omega)⟩
    have h1 := asc_far h d i x z (by omega) hx hz
    have h2 := h (i + d + 1) z y (by omega) hz hy
    exact cmpI_trans _ _ _ (by rw [(isK_keyX x).1, (isK_keyX z).1]) (by rw [(isK_keyX z).1, (isK_keyX y).1]) h1 h2
theorem asc_new {bs : List BlV} {k : Nat} {x : BlV} (h : ∀ (i : Nat) (x y : BlV), i + 1 < k + 1 → bs[i]? = some x → bs[i + 1]? = some y → cmpI (keyX x) (keyX y) < 0) (hx : bs[k]? = some x) : ∀ y ∈ bs.take k, keyX y ≠ keyX x := by
  intro y hy e
  obtain ⟨i, hi⟩ := List.getElem?_of_mem hy
  have hlt := (List.getElem?_eq_some_iff.1 hi).1
  rw [List.length_take] at hlt
  rw [List.getElem?_take_of_lt (by omega)] at hi
  have := asc_far h (k - i - 1) i y x (by omega) hi (by rw [show i + (k - i - 1) + 1 = k by omega]; exact hx)
  rw [e, cmpI_refl] at this
  omega
/-- What the loop has seen of a valid store. -/
def PreP (bs : List BlV) (k : Nat) : Prop := (∀ (i : Nat) (x : BlV), i < k → bs[i]? = some x → x.n ≤ 1024) ∧ ∀ (i : Nat) (x y : BlV), i + 1 < k → bs[i]? = some x → bs[i + 1]? = some y → cmpI (keyX x) (keyX y) < 0
def LastK (bs : List BlV) (k : Nat) (ls : List Int) : Prop := ls.length = 32 ∧ (∀ z ∈ ls, 0 ≤ z ∧ z ≤ 255) ∧ ∀ x, 0 < k → bs[k - 1]? = some x → ls = keyX x
theorem PreP.start (bs : List BlV) : PreP bs 0 := ⟨fun i x hi _ => by omega, fun i x y hi _ _ => by omega⟩
theorem LastK.start (bs : List BlV) : LastK bs 0 z32 := ⟨rfl, fun z hz => by unfold z32 at hz; simp at hz; omega, fun x h _ => by omega⟩
theorem PreP.step_zero {bs : List BlV} {x : BlV} (hx : bs[0]? = some x) (hn : x.n ≤ 1024) : PreP bs 1 := ⟨fun i z hi hz => by
  obtain rfl : i = 0 := by omega
  rw [hx] at hz
  cases hz
  exact hn, fun i x y hi _ _ => by omega⟩
theorem PreP.step_pos {bs : List BlV} {k : Nat} {x : BlV} {ls : List Int} (h : PreP bs k) (hk : 0 < k) (hx : bs[k]? = some x) (hl : LastK bs k ls) (hn : x.n ≤ 1024) (hc : cmpI ls (keyX x) < 0) : PreP bs (k + 1) := by
  refine ⟨fun i z hi hz => ?_, fun i z u hi hz hu => ?_⟩
  · by_cases hik : i = k
    · subst hik
      rw [hx] at hz
      cases hz
      exact hn
    · exact h.1 i z (by omega) hz
  · by_cases hik : i + 1 = k
    · subst hik
      rw [hx] at hu
      cases hu
      rw [← hl.2.2 z (by omega) (by simpa using hz)]
      exact hc
    · exact h.2 i z u (by omega) hz hu
theorem PreP.whole {bs : List BlV} {n : Nat} (h : PreP bs n) (hl : bs.length = n) (hn : n ≤ 128) : stP bs :=
  ⟨by omega, fun i x hx => h.1 i x (by have := (List.getElem?_eq_some_iff.1 hx).1; omega) hx, fun i x y hx hy => h.2 i x y (by have := (List.getElem?_eq_some_iff.1 hy).1; omega) hx hy⟩
theorem PreP.last {bs : List BlV} {k : Nat} {x : BlV} (hx : bs[k]? = some x) : LastK bs (k + 1) (keyX x) := ⟨(isK_keyX x).1, (isK_keyX x).2, fun z _ hz => by
  simp at hz
  rw [hx] at hz
  cases hz
  rfl⟩
theorem turned_block {w w1 : World} {m g : Nat} {xs : List BlV} {c : Array Value} {t : TypeId} (h : ShelfAt w m xs) (hg : w.grownBy w1 (some m)) (hb : w.heap[g]? = some (.cells c t)) : w1.heap[g]? = some (.cells c t) := by
  refine (hg.block g (Array.getElem?_eq_some_iff.1 hb).1 (fun e => ?_)).trans hb
  obtain ⟨ps, ⟨es, clock, hm, _⟩, _⟩ := h
  cases e
  rw [hm] at hb
  cases hb
theorem ShelfAt.setKey {w : World} {m g : Nat} {xs : List BlV} {c : Array Value} (h : ShelfAt w m xs) (hb : w.heap[g]? = some (.cells c 46)) (cs : Array Value) : ShelfAt (w.setRow g cs) m xs := by
  obtain ⟨ps, h1, h2, h3⟩ := h
  refine ⟨ps, h1.same (setRow_other w g m cs (fun e => ?_)), h2, fun i p x hp hx => ⟨(h3 i p x hp hx).1, ?_⟩⟩
  · obtain ⟨es, clock, hm, _⟩ := h1
    rw [e, hb] at hm
    cases hm
  · obtain ⟨y, y1, y2⟩ := (h3 i p x hp hx).2
    refine ⟨y, y1, (setRow_other w g y cs (fun e => ?_)).trans y2⟩
    rw [e, hb] at y2
    injection y2 with e1
    injection e1 with _ e2
    revert e2
    decide
def BlG (x : BlV) : Prop := BlF x ∧ 0 ≤ x.t ∧ x.t ≤ 255
def SofR (w : World) (bs : List BlV) (e : Ending) (w' : World) : Prop :=
  ((stP bs ∧ ∃ m, e = .returned (.tuple #[.map (some m), .bool true]) ∧ w.heap.size ≤ m ∧ ShelfAt w' m bs) ∨ (¬ stP bs ∧ e = .returned (.tuple #[.map none, .bool false]))) ∧ Below w.heap.size w w'
theorem SofR.no {w : World} {bs : List BlV} {w' : World} (h : ¬ stP bs) (hb : Below w.heap.size w w') : SofR w bs (.returned (.tuple #[.map none, .bool false])) w' := ⟨Or.inr ⟨h, rfl⟩, hb⟩
theorem SofR.yes {w : World} {bs : List BlV} {w' : World} {m : Nat} (h : stP bs) (hm : w.heap.size ≤ m) (hs : ShelfAt w' m bs) (hb : Below w.heap.size w w') : SofR w bs (.returned (.tuple #[.map (some m), .bool true])) w' := ⟨Or.inl ⟨h, m, rfl, hm, hs⟩, hb⟩
set_option maxRecDepth 100000 in
set_option maxHeartbeats 8000000 in
theorem sof_impl (g n : Nat) (bs : List BlV) (hn : n ≤ 1048576) (hl : bs.length = n) (hf : ∀ (i : Nat) (x : BlV), bs[i]? = some x → BlG x) (w : World) (ha : OutB w g n n bs) :
    Calls Try.prog 59 #[.agg #[.slice (some ⟨g, 0, none⟩) n n]] w (SofR w bs) := by
  have A0 := heap_alloc_last w (.cells #[.slice (some ⟨g, 0, none⟩) n n] 29)
  have B0' := (Below.refl w.heap.size w).alloc (Nat.le_refl _) (.cells #[.slice (some ⟨g, 0, none⟩) n n] 29)
  obtain ⟨w0, hw0⟩ : ∃ w0, w.alloc (.cells #[.slice (some ⟨g, 0, none⟩) n n] 29) = w0 := ⟨_, rfl⟩
  have hs0 : w0.heap.size = w.heap.size + 1 := by rw [← hw0]; simp
  rw [hw0] at A0 B0'
  have Hz := Lib.hid z32_ints
  have E0 := Lib.hid A0
  have B0 := Lib.hid B0'
  have HA := Lib.hid ha
  have HF := Lib.hid hf
  have HL := Lib.hid hl
  have HS0 := Lib.hid hs0
  clear ha hf hl A0 B0' hs0
  by_cases hbig : 128 < n
  · have z0 : (128 : Int) < (n : Int) := by omega
    have HN := Lib.hid (show ¬ stP bs from fun h => by have := h.1; rw [HL.out] at this; omega)
    go_enter Try.func59, Try.ntmps59
    have q0 := cell_of_row _ w.heap.size 0 _ _ _ E0.out
    go_wp2_with fail
    go_returns
    exact SofR.no HN.out B0.out
  have z0 : ¬ (128 : Int) < (n : Int) := by omega
  have z1 : (0 : Int) ≤ (n : Int) := by omega
  have z2 : (n : Int) ≤ 128 := by omega
  have M1 := Lib.hid (ShelfAt.made w0)
  go_enter Try.func59, Try.ntmps59
  have q0 := cell_of_row _ w.heap.size 0 _ _ _ E0.out
  have hmk := fun U => run_makeShelf (n : Int) U
  have q1 : ∀ o1 o2, ((w0.alloc o1).alloc o2).cell? ⟨w.heap.size, 0, none⟩ = some (.slice (some ⟨g, 0, none⟩) n n) := fun o1 o2 => cell_of_row _ w.heap.size 0 _ _ _ (keep_block E0.out (((Below.refl _ _).alloc (Nat.le_refl _) o1).alloc (by simp) o2))
  go_wp2_with fail
  clear q0 q1 hmk hw0
  have M2 := Lib.hid (M1.out.below ((Below.refl _ _).alloc (Nat.le_refl _) (.cells (ints .u8 z32) 46)))
  have L2 := Lib.hid (show ((w0.alloc (.map #[] 0)).alloc (.cells (ints .u8 z32) 46)).heap[w0.heap.size + 1]? = some (.cells (ints .u8 z32) 46) by rw [← World.size_alloc w0 (.map #[] 0)]; exact heap_alloc_last _ _)
  have B2 := Lib.hid ((B0.out.alloc B0.out.size (.map #[] 0)).alloc (Nat.le_trans B0.out.size (by simp)) (.cells (ints .u8 z32) 46))
  have HSZ := Lib.hid (show w0.heap.size + 2 ≤ ((w0.alloc (.map #[] 0)).alloc (.cells (ints .u8 z32) 46)).heap.size by simp)
  rw [← Hz.out]
  generalize (w0.alloc (.map #[] 0)).alloc (.cells (ints .u8 z32) 46) = w2 at M2 L2 B2 HSZ ⊢
  have HW0 := Lib.hid (show w.heap.size ≤ w0.heap.size from B0.out.size)
  generalize w0.heap.size = m at M2 L2 HSZ HS0 HW0 ⊢
  clear M1 E0 B0 w0
  go_loopw [21] (fun i wr => ∃ k : Nat, k ≤ n ∧ i = .int .i64 k ∧ Below w.heap.size w wr ∧ m + 2 ≤ wr.heap.size ∧ ShelfAt wr m (bs.take k) ∧ (∃ ls, wr.heap[m + 1]? = some (.cells (ints .u8 ls) 46) ∧ LastK bs k ls) ∧ PreP bs k) (fun i _ => n - (intOf i).toNat)
  case atStart => exact ⟨0, by omega, rfl, B2.out, HSZ.out, by simpa using M2.out, ⟨z32, L2.out, LastK.start bs⟩, PreP.start bs⟩
  case round =>
    obtain ⟨k, hk, rfl, hb, hsz, hsh, ⟨ls, hls, hlk⟩, hpre⟩ := hrel
    have B1 := Lib.hid hb
    have SZ := Lib.hid hsz
    have SH := Lib.hid hsh
    have LS := Lib.hid hls
    have LK := Lib.hid hlk
    have PP := Lib.hid hpre
    clear hb hsz hsh hls hlk hpre M2 L2 B2 HSZ
    by_cases hlt : k < n
    · have b0 : (0 : Int) ≤ (k : Int) := by omega
      have b1 : (k : Int) < (n : Int) := by omega
      obtain ⟨x, hx⟩ := get_of HL.out hlt
      obtain ⟨⟨f1, f2, f3⟩, f4, f5⟩ := HF.out k x hx
      obtain ⟨y, hya⟩ := (HA.out.below B1.out).at hlt hx
      have hx0 := Lib.hid hx
      have HY := Lib.hid hya.2.2
      have XN := Lib.hid f2
      have HBK := Lib.hid (fun U (hU : Below wr.heap.size wr U) => bk_impl x.t (some ⟨y, 0, none⟩) x.n x.n x.l U f4 f5 f1 f3 (rdN f2 (keep_block hya.2.2 hU)))
      obtain ⟨c0, c1⟩ := hya.keep (Below.refl wr.heap.size wr)
      have H2 := Lib.hid (fun o => (Below.refl wr.heap.size wr).alloc (Nat.le_refl _) o)
      clear hya f1 f2 f3 f4 f5 hx
      obtain ⟨V, hV⟩ : ∃ V, keyX x = V := ⟨_, rfl⟩
      have HV := Lib.hid hV
      have VL := Lib.hid (show V.length = 32 by rw [← hV]; exact (isK_keyX x).1)
      have VB := Lib.hid (show ∀ z ∈ V, 0 ≤ z ∧ z ≤ 255 by rw [← hV]; exact (isK_keyX x).2)
      by_cases hbl : x.n ≤ 1024
      · have e1 : blB x.l.length = true := by unfold blB; rw [XN.out]; exact decide_eq_true hbl
        have e2 : bkV x.t x.l = V := by unfold bkV; rw [if_pos e1]; exact hV
        have e3 : bkE x.l = 0 := by unfold bkE; rw [if_pos e1]
        rw [e2, e3] at HBK
        have XL := Lib.hid hbl
        clear e1 e2 e3 hV hbl
        obtain ⟨xt, xa, xn, xc, xl⟩ := x
        dsimp only at HBK XN XL HY c0 c1
        go_wp2_with fail
        refine (HBK.out _ (H2.out _)).mono ?_
        rintro e w3 ⟨rfl, hb⟩
        have LB := layB w3 (ints .u8 z32) (ints .u8 V) 46
        have HB3 := Lib.hid (((Below.refl wr.heap.size wr).alloc (Nat.le_refl _) (.cells #[.int .u8 xt, .slice (some ⟨y, 0, none⟩) xn xn] 43)).trans ((hb.mono (by simp)).trans (LB.mono (by have := hb.size; simp at this; omega))))
        have NB := Lib.hid (keep_block (keep_block (heap_alloc_last wr (.cells #[.int .u8 xt, .slice (some ⟨y, 0, none⟩) xn xn] 43)) hb) LB)
        have NK := Lib.hid (layN w3 (ints .u8 z32) (ints .u8 V) 46)
        clear LB hb c0 c1 HBK
        by_cases hk0 : 0 < k
        · have b2 : (0 : Int) < (k : Int) := by omega
          go_upto_region 9 with (first | (refine wpList_store_row rfl 46 (.tmp 8) _ rfl w3.heap.size (ints .u8 V) rfl rfl 46 (ints .u8 z32) (by rw [Hz.out]; exact heap_alloc_last _ _) (by rw [ints_size, VL.out]; exact sizeKey) (by rw [ints_size, ints_size, VL.out, (show z32.length = 32 from rfl)]) (ints_one _ _) ?_))
          rw [← Hz.out]
          generalize (w3.alloc (.cells (ints .u8 z32) 46)).setRow w3.heap.size (ints .u8 V) = w4 at HB3 NB NK ⊢
          generalize w3.heap.size = gN at NK ⊢
          have LS4 := Lib.hid (keep_block LS.out HB3.out)
          have HCM := Lib.hid (fun U => cmp_impl ls V LK.out.1 VL.out LK.out.2.1 VB.out U)
          have HLC := Lib.hid (show cmpI ls V = cmpI ls V from rfl)
          generalize hcv : cmpI ls V = cv at HCM HLC
          have HCV := Lib.hid hcv
          clear hcv
          by_cases hc : cv < 0
          · have hc1 : ¬ 0 ≤ cv := by omega
            have HC := Lib.hid hc
            clear hc
            go_wp2_with (first | (refine wpList_load_row_g (by rfl) 46 (.tmp 5) rfl (m + 1) rfl 46 (ints .u8 ls) (0, 0) _ (LS4.out) Try.underlying46 rfl (by rw [ints_size, LK.out.1]; exact sizeKey) ?_) | (refine wpList_load_row_g (by rfl) 46 (.tmp 8) rfl gN rfl 46 (ints .u8 V) (0, 0) _ (NK.out) Try.underlying46 rfl (by rw [ints_size, VL.out]; exact sizeKey) ?_))
            refine (HCM.out _).mono ?_
            rintro e w5 ⟨rfl, hb⟩
            have HB5 := Lib.hid (below_call HB3.out HB3.out.size hb)
            have NB5 := Lib.hid (keep_block NB.out hb)
            have NK5 := Lib.hid (keep_block NK.out hb)
            have PP5 := Lib.hid (PP.out.step_pos hk0 hx0.out LK.out XL.out (by rw [HV.out, HCV.out]; exact HC.out))
            clear hb HB3 NB NK LS4
            have BW := Lib.hid (B1.out.trans (HB5.out.mono B1.out.size))
            have HASC := Lib.hid (asc_new PP5.out.2 hx0.out)
            have SH5 := Lib.hid (SH.out.below HB5.out)
            have LS5 := Lib.hid (keep_block LS.out HB5.out)
            have HERE := Lib.hid (show BlHere w5 (.agg #[.int .u8 xt, .slice (some ⟨y, 0, none⟩) xn xn]) ⟨xt, xa, xn, xc, xl⟩ from ⟨y, rfl, keep_block HY.out HB5.out⟩)
            obtain ⟨w6, hrun, hS6, hg6, hz6⟩ := SH5.out.push HERE.out HASC.out (by rw [List.length_take]; unfold maxLen; omega)
            rw [HV.out] at hrun
            have NK6 := Lib.hid (turned_block SH5.out hg6 NK5.out)
            have LS6 := Lib.hid (turned_block SH5.out hg6 LS5.out)
            have B6 := Lib.hid (BW.out.grown hg6 BW.out.size (fun k e => by cases e; exact HW0.out))
            have SZ6 := Lib.hid (show m + 2 ≤ w6.heap.size by rw [hz6]; exact Nat.le_trans SZ.out HB5.out.size)
            have SH6 := Lib.hid hS6
            have HTK := Lib.hid (show bs.take k ++ [(⟨xt, xa, xn, xc, xl⟩ : BlV)] = bs.take (k + 1) by rw [List.take_add_one, hx0.out]; rfl)
            have q0 := cell_of_row _ wr.heap.size 0 _ _ _ NB5.out
            have q1 := cell_of_row _ wr.heap.size 1 _ _ _ NB5.out
            clear hS6 hg6 hz6 HB5 SH5 LS5 HERE HASC BW
            go_upto_region 12 with (first | (refine wpList_load_row rfl 46 (.tmp 8) rfl gN rfl 46 (ints .u8 V) (0, 0) _ (NK5.out) Try.underlying46 rfl (by rw [ints_size, VL.out]; exact sizeKey) ?_))
            clear hrun q0 q1
            go_wp2_with (first | (refine wpList_load_row rfl 46 (.tmp 8) rfl gN rfl 46 (ints .u8 V) (0, 0) _ (NK6.out) Try.underlying46 rfl (by rw [ints_size, VL.out]; exact sizeKey) ?_) | (refine wpList_store_row rfl 46 (.tmp 5) _ rfl (m + 1) (ints .u8 V) rfl rfl 46 (ints .u8 ls) (LS6.out) (by rw [ints_size, VL.out]; exact sizeKey) (by rw [ints_size, ints_size, VL.out, LK.out.1]) (ints_one _ _) ?_))
            have SH7 := Lib.hid (SH6.out.setKey LS6.out (ints .u8 V))
            have LS7 := Lib.hid (setRow_heap _ _ _ (ints .u8 V) _ _ LS6.out)
            have B7 := Lib.hid (Below.setRow B6.out (show w.heap.size ≤ m + 1 by have := HW0.out; omega) (ints .u8 V))
            have SZ7 := Lib.hid (show m + 2 ≤ (w6.setRow (m + 1) (ints .u8 V)).heap.size by simpa using SZ6.out)
            go_roundw
            case rel => exact ⟨k + 1, by omega, by go_num, B7.out, SZ7.out, by rw [← HTK.out]; exact SH7.out, ⟨V, LS7.out, by rw [← HV.out]; exact PreP.last hx0.out⟩, PP5.out⟩
            case measure => simp [intOf]; omega
          · have hc1 : 0 ≤ cv := by omega
            have HNO := Lib.hid (show ¬ stP bs from fun h => by
              have h1 := h.2.2 (k - 1)
              obtain ⟨z, hz⟩ := get_of (k := k - 1) HL.out (by omega)
              have h2 := h1 z _ hz (by rw [show k - 1 + 1 = k by omega]; exact hx0.out)
              rw [← LK.out.2.2 z hk0 hz, HV.out, HCV.out] at h2
              omega)
            clear hc
            go_wp2_with (first | (refine wpList_load_row_g (by rfl) 46 (.tmp 5) rfl (m + 1) rfl 46 (ints .u8 ls) (0, 0) _ (LS4.out) Try.underlying46 rfl (by rw [ints_size, LK.out.1]; exact sizeKey) ?_) | (refine wpList_load_row_g (by rfl) 46 (.tmp 8) rfl gN rfl 46 (ints .u8 V) (0, 0) _ (NK.out) Try.underlying46 rfl (by rw [ints_size, VL.out]; exact sizeKey) ?_))
            refine (HCM.out _).mono ?_
            rintro e w5 ⟨rfl, hb⟩
            have HB5 := Lib.hid (B1.out.trans ((below_call HB3.out HB3.out.size hb).mono B1.out.size))
            clear hb
            go_wp2_with fail
            go_returns
            exact SofR.no HNO.out HB5.out
        · obtain rfl : k = 0 := by omega
          have b2 : ¬ (0 : Int) < ((0 : Nat) : Int) := by omega
          go_upto_region 9 with (first | (refine wpList_store_row rfl 46 (.tmp 8) _ rfl w3.heap.size (ints .u8 V) rfl rfl 46 (ints .u8 z32) (by rw [Hz.out]; exact heap_alloc_last _ _) (by rw [ints_size, VL.out]; exact sizeKey) (by rw [ints_size, ints_size, VL.out, (show z32.length = 32 from rfl)]) (ints_one _ _) ?_))
          rw [← Hz.out]
          generalize (w3.alloc (.cells (ints .u8 z32) 46)).setRow w3.heap.size (ints .u8 V) = w5 at HB3 NB NK ⊢
          generalize w3.heap.size = gN at NK ⊢
          have HB5 := HB3
          have NB5 := NB
          have NK5 := NK
          have PP5 := Lib.hid (PreP.step_zero hx0.out XL.out)
          clear HB3 NB NK
          have BW := Lib.hid (B1.out.trans (HB5.out.mono B1.out.size))
          have HASC := Lib.hid (asc_new PP5.out.2 hx0.out)
          have SH5 := Lib.hid (SH.out.below HB5.out)
          have LS5 := Lib.hid (keep_block LS.out HB5.out)
          have HERE := Lib.hid (show BlHere w5 (.agg #[.int .u8 xt, .slice (some ⟨y, 0, none⟩) xn xn]) ⟨xt, xa, xn, xc, xl⟩ from ⟨y, rfl, keep_block HY.out HB5.out⟩)
          obtain ⟨w6, hrun, hS6, hg6, hz6⟩ := SH5.out.push HERE.out HASC.out (by rw [List.length_take]; unfold maxLen; omega)
          rw [HV.out] at hrun
          have NK6 := Lib.hid (turned_block SH5.out hg6 NK5.out)
          have LS6 := Lib.hid (turned_block SH5.out hg6 LS5.out)
          have B6 := Lib.hid (BW.out.grown hg6 BW.out.size (fun k e => by cases e; exact HW0.out))
          have SZ6 := Lib.hid (show m + 2 ≤ w6.heap.size by rw [hz6]; exact Nat.le_trans SZ.out HB5.out.size)
          have SH6 := Lib.hid hS6
          have HTK := Lib.hid (show bs.take 0 ++ [(⟨xt, xa, xn, xc, xl⟩ : BlV)] = bs.take (0 + 1) by rw [List.take_add_one, hx0.out]; rfl)
          have q0 := cell_of_row _ wr.heap.size 0 _ _ _ NB5.out
          have q1 := cell_of_row _ wr.heap.size 1 _ _ _ NB5.out
          clear hS6 hg6 hz6 HB5 SH5 LS5 HERE HASC BW
          go_upto_region 12 with (first | (refine wpList_load_row rfl 46 (.tmp 8) rfl gN rfl 46 (ints .u8 V) (0, 0) _ (NK5.out) Try.underlying46 rfl (by rw [ints_size, VL.out]; exact sizeKey) ?_))
          clear hrun q0 q1
          go_wp2_with (first | (refine wpList_load_row rfl 46 (.tmp 8) rfl gN rfl 46 (ints .u8 V) (0, 0) _ (NK6.out) Try.underlying46 rfl (by rw [ints_size, VL.out]; exact sizeKey) ?_) | (refine wpList_store_row rfl 46 (.tmp 5) _ rfl (m + 1) (ints .u8 V) rfl rfl 46 (ints .u8 ls) (LS6.out) (by rw [ints_size, VL.out]; exact sizeKey) (by rw [ints_size, ints_size, VL.out, LK.out.1]) (ints_one _ _) ?_))
          have SH7 := Lib.hid (SH6.out.setKey LS6.out (ints .u8 V))
          have LS7 := Lib.hid (setRow_heap _ _ _ (ints .u8 V) _ _ LS6.out)
          have B7 := Lib.hid (Below.setRow B6.out (show w.heap.size ≤ m + 1 by have := HW0.out; omega) (ints .u8 V))
          have SZ7 := Lib.hid (show m + 2 ≤ (w6.setRow (m + 1) (ints .u8 V)).heap.size by simpa using SZ6.out)
          go_roundw
          case rel => exact ⟨0 + 1, by omega, by go_num, B7.out, SZ7.out, by rw [← HTK.out]; exact SH7.out, ⟨V, LS7.out, by rw [← HV.out]; exact PreP.last hx0.out⟩, PP5.out⟩
          case measure => simp [intOf]; omega
      · have e1 : blB x.l.length = false := by unfold blB; rw [XN.out]; exact decide_eq_false hbl
        have e3 : bkE x.l = 1 := by unfold bkE; rw [e1]; rfl
        have HNO := Lib.hid (show ¬ stP bs from fun h => hbl (h.2.1 k x hx0.out))
        have e4 := bkV_len x.t x.l
        rw [e3] at HBK
        generalize bkV x.t x.l = Y at HBK e4
        have YL := Lib.hid e4
        clear e1 e3 hV hbl e4
        obtain ⟨xt, xa, xn, xc, xl⟩ := x
        dsimp only at HBK c0 c1
        go_wp2_with fail
        refine (HBK.out _ (H2.out _)).mono ?_
        rintro e w3 ⟨rfl, hb⟩
        have LB := layB w3 (ints .u8 z32) (ints .u8 Y) 46
        have HB3 := Lib.hid (B1.out.trans ((((Below.refl wr.heap.size wr).alloc (Nat.le_refl _) (.cells #[.int .u8 xt, .slice (some ⟨y, 0, none⟩) xn xn] 43)).trans ((hb.mono (by simp)).trans (LB.mono (by have := hb.size; simp at this; omega)))).mono B1.out.size))
        clear LB hb c0 c1 HBK
        go_upto_region 9 with (first | (refine wpList_store_row rfl 46 (.tmp 8) _ rfl w3.heap.size (ints .u8 Y) rfl rfl 46 (ints .u8 z32) (by rw [Hz.out]; exact heap_alloc_last _ _) (by rw [ints_size, YL.out]; exact sizeKey) (by rw [ints_size, ints_size, YL.out, (show z32.length = 32 from rfl)]) (ints_one _ _) ?_))
        rw [← Hz.out]
        generalize (w3.alloc (.cells (ints .u8 z32) 46)).setRow w3.heap.size (ints .u8 Y) = w4 at HB3 ⊢
        go_wp2_with fail
        go_returns
        exact SofR.no HNO.out HB3.out
    · obtain rfl : k = n := by omega
      have HYES := Lib.hid (PP.out.whole HL.out (by omega))
      have e3 : bs.take k = bs := List.take_of_length_le (by rw [HL.out]; omega)
      rw [e3] at SH
      clear e3
      go_wp2_with fail
      go_returns
      exact SofR.yes HYES.out HW0.out SH.out B1.out
end Go.Proofs.Ytdoelmjaongjfaa
