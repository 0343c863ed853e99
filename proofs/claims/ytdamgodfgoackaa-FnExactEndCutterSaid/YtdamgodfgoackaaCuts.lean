/- The chunks of data, as the program ranges over them. -/
import Derived.RangeFuncNested
import Derived.RangeFuncBound
import Derived.RangeFuncCalls
import Derived.RangeFuncLeaves
import Derived.Shelf.Abstract
import Derived.Shelf.RegionOpen
import Derived.WalkKit
import Derived.OwnWalkIn
import Derived.TacticsInMore
import Derived.LoopNIn
import Derived.LoopIn
import Derived.Test.YtdamgodfgoackaaEnds
namespace Go.Proofs.Ytdamgodfgoackaa
open Go.ChangeShapes Go.WideShapes Go.ChangeAt Go.RowKit Go.Shelf
set_option linter.unusedVariables false
attribute [local go_sem] Oper.semAt_some
/-- Behind k bytes: where the last chunk begins, its rolling value, and the chunks that have ended (where they begin, how long they are). -/
def cutS (lo mo bi : Int) (L : List Int) : Nat → Nat × Int × List (Nat × Nat × Bool)
  | 0 => (0, 0, [])
  | k + 1 =>
    if endsP lo mo bi ((k : Int) + 1 - ((cutS lo mo bi L k).1 : Int)) (stepR rollW (cutS lo mo bi L k).2.1 (L[k]?.getD 0)) then (k + 1, 0, (cutS lo mo bi L k).2.2 ++ [((cutS lo mo bi L k).1, k + 1 - (cutS lo mo bi L k).1, true)])
    else ((cutS lo mo bi L k).1, stepR rollW (cutS lo mo bi L k).2.1 (L[k]?.getD 0), (cutS lo mo bi L k).2.2)
theorem stepR_range (r c : Int) : 0 ≤ stepR rollW r c ∧ stepR rollW r c ≤ 4294967295 := by unfold stepR; omega
theorem cut_facts (lo mo bi : Int) (L : List Int) : ∀ k, (cutS lo mo bi L k).1 ≤ k ∧ 0 ≤ (cutS lo mo bi L k).2.1 ∧ (cutS lo mo bi L k).2.1 ≤ 4294967295 ∧ (cutS lo mo bi L k).2.2.length ≤ k ∧ ∀ x ∈ (cutS lo mo bi L k).2.2, x.1 + x.2.1 ≤ k
  | 0 => by simp [cutS]
  | k + 1 => by
    obtain ⟨h1, h2, h3, h4, h5⟩ := cut_facts lo mo bi L k
    have hr := stepR_range (cutS lo mo bi L k).2.1 (L[k]?.getD 0)
    rw [cutS]
    split
    · refine ⟨Nat.le_refl _, by simp, by simp, by simp; omega, fun x hx => ?_⟩
      simp only [List.mem_append, List.mem_singleton] at hx
      rcases hx with hx | rfl
      · have := h5 x hx; omega
      · simp only []; omega
    · exact ⟨Nat.le_succ_of_le h1, hr.1, hr.2, Nat.le_succ_of_le h4, fun x hx => Nat.le_succ_of_le (h5 x hx)⟩
theorem cut_pre (lo mo bi : Int) (L : List Int) (j : Nat) : ∀ d, (cutS lo mo bi L j).2.2 <+: (cutS lo mo bi L (j + d)).2.2
  | 0 => List.prefix_refl _
  | d + 1 => by
    refine (cut_pre lo mo bi L j d).trans ?_
    rw [show j + (d + 1) = (j + d) + 1 by omega, cutS]
    split
    · exact List.prefix_append _ _
    · exact List.prefix_refl _
theorem cut_yes (lo mo bi : Int) (L : List Int) (k : Nat) (h : endsP lo mo bi ((k : Int) + 1 - ((cutS lo mo bi L k).1 : Int)) (stepR rollW (cutS lo mo bi L k).2.1 (L[k]?.getD 0)) = true) :
    cutS lo mo bi L (k + 1) = (k + 1, 0, (cutS lo mo bi L k).2.2 ++ [((cutS lo mo bi L k).1, k + 1 - (cutS lo mo bi L k).1, true)]) := by
  rw [cutS, if_pos h]
theorem cut_no (lo mo bi : Int) (L : List Int) (k : Nat) (h : endsP lo mo bi ((k : Int) + 1 - ((cutS lo mo bi L k).1 : Int)) (stepR rollW (cutS lo mo bi L k).2.1 (L[k]?.getD 0)) = false) :
    cutS lo mo bi L (k + 1) = ((cutS lo mo bi L k).1, stepR rollW (cutS lo mo bi L k).2.1 (L[k]?.getD 0), (cutS lo mo bi L k).2.2) := by
  rw [cutS, if_neg (by rw [h]; exact Bool.false_ne_true)]
/-- All chunks, the last one not ended. -/
def cutAll (lo mo bi : Int) (L : List Int) : List (Nat × Nat × Bool) :=
  (cutS lo mo bi L L.length).2.2 ++ if (cutS lo mo bi L L.length).1 < L.length then [((cutS lo mo bi L L.length).1, L.length - (cutS lo mo bi L L.length).1, false)] else []
theorem cut_prefix (lo mo bi : Int) (L : List Int) {j : Nat} (h : j ≤ L.length) : (cutS lo mo bi L j).2.2 <+: cutAll lo mo bi L := by
  have := cut_pre lo mo bi L j (L.length - j)
  rw [show j + (L.length - j) = L.length by omega] at this
  exact this.trans (List.prefix_append _ _)
theorem knife_cells {W : World} {g : Nat} {x y z : Value} {T : Array Value} {t : TypeId} {fr : Nat × Nat} (h : W.heap[g]? = some (.cells (#[x, y, z] ++ T) t fr)) :
    W.cell? ⟨g, 0, none⟩ = some x ∧ W.cell? ⟨g, 1, none⟩ = some y ∧ W.cell? ⟨g, 2, none⟩ = some z := by
  refine ⟨?_, ?_, ?_⟩
  · rw [cell_of_row W g 0 _ _ _ h, Array.getElem?_append_left (by simp)]; rfl
  · rw [cell_of_row W g 1 _ _ _ h, Array.getElem?_append_left (by simp)]; rfl
  · rw [cell_of_row W g 2 _ _ _ h, Array.getElem?_append_left (by simp)]; rfl
def chunkV (b off N s n : Nat) : Value := if s + n ≤ N then .slice (some ⟨b, off + s, none⟩) n n else .slice none 0 0
/-- What is kept over a round: what lay below, and four blocks. -/
def KeepD (n0 p q r t : Nat) (W W' : World) : Prop := Below n0 W W' ∧ W'.heap[p]? = W.heap[p]? ∧ W'.heap[q]? = W.heap[q]? ∧ W'.heap[r]? = W.heap[r]? ∧ W'.heap[t]? = W.heap[t]?
theorem KeepD.trans {n0 p q r t : Nat} {A B C : World} (h : KeepD n0 p q r t A B) (k : KeepD n0 p q r t B C) : KeepD n0 p q r t A C :=
  ⟨h.1.trans k.1, k.2.1.trans h.2.1, k.2.2.1.trans h.2.2.1, k.2.2.2.1.trans h.2.2.2.1, k.2.2.2.2.trans h.2.2.2.2⟩
theorem KeepD.refl (n0 p q r t : Nat) (A : World) : KeepD n0 p q r t A A := ⟨Below.refl _ _, rfl, rfl, rfl, rfl⟩
theorem KeepD.put {n0 p q r t : Nat} {w : World} (hn : n0 ≤ w.heap.size) (hp : p < w.heap.size) (hq : q < w.heap.size) (hr : r < w.heap.size) (ht : t < w.heap.size) (W : World) (l : Nat) (o o' : Obj) (hl : w.heap.size ≤ l) (h : W.heap[l]? = some o) (h1 : o.isCells = false) (h2 : o.isWalk = false) : KeepD n0 p q r t W (W.putObj l o') :=
  ⟨belowK_b (w := w) hn W l o o' hl h h1 h2, World.putObj_heap_other (by omega), World.putObj_heap_other (by omega), World.putObj_heap_other (by omega), World.putObj_heap_other (by omega)⟩
set_option maxRecDepth 100000 in
set_option maxHeartbeats 2000000 in
theorem cuts1_in (n : Nat) (hn : 1 ≤ n) (l Bd Bk g b n0 : Nat) (a : Option Addr) (off N cap : Nat) (lo mo bi : Int) (L : List Int) (hL : L.length = N) (fl : ∀ z ∈ L, 0 ≤ z ∧ z ≤ 255) (hN : N ≤ 1048576) (ha : N = 0 ∨ a = some ⟨b, off, none⟩) (hcap : N ≤ cap) (hcap2 : cap ≤ maxLen) (b0 : 0 ≤ bi) (b1 : bi ≤ 8) (J Jx : List (Nat × Nat × Bool) → World → Prop)
    (hY : ∀ pre x W, J pre W → pre.length < N + 1 → YieldAt Fence.wide (n - 1) Try.prog l #[chunkV b off N x.1 x.2.1, .bool x.2.2] W fun e W' =>
      (e = .returned (.bool true) ∧ J (pre ++ [x]) W' ∧ KeepD n0 Bd Bk g b W W') ∨ (e = .returned (.bool false) ∧ Jx (pre ++ [x]) W'))
    (W : World) (hBd : W.heap[Bd]? = some (.cells #[.slice a N cap] 22)) (hBk : W.heap[Bk]? = some (.cells #[.pointer (some ⟨g, 0, none⟩)] 112)) (hg : W.heap[g]? = some (.cells (#[.int .i64 lo, .int .i64 mo, .int .i64 bi] ++ ints .u32 rollT) 145))
    (hc : ∀ j, j < N → W.cell? ⟨b, off + j, none⟩ = some (.int .u8 (L[j]?.getD 0))) (h0 : J [] W) :
    CallsIn Fence.wide n Try.prog 131 #[.func (.yield l) #[] #[], .pointer (some ⟨Bd, 0, none⟩), .pointer (some ⟨Bk, 0, none⟩)] W fun e W' => (∃ v, e = .returned v) ∧
      ((∃ ys, ys = cutAll lo mo bi L ∧ J ys W') ∨ (∃ pre, pre <+: cutAll lo mo bi L ∧ Jx pre W')) := by
  have hF : Fence.wide.fn 131 := trivial
  have hro : Fence.wide.round = none := rfl
  have HY := Lib.hid hY
  have HC := Lib.hid hc
  have HG := Lib.hid hg
  have HBd := Lib.hid hBd
  have HBk := Lib.hid hBk
  have HL := Lib.hid hL
  have Fl := Lib.hid fl
  have Hpr := Lib.hid (fun j (h : j ≤ L.length) => cut_prefix lo mo bi L h)
  have Hfa := Lib.hid (fun j => cut_facts lo mo bi L j)
  have Hye := Lib.hid (fun j h => cut_yes lo mo bi L j h)
  have Hno := Lib.hid (fun j h => cut_no lo mo bi L j h)
  have Hal : Hid (cutAll lo mo bi L = (cutS lo mo bi L N).2.2 ++ if (cutS lo mo bi L N).1 < N then [((cutS lo mo bi L N).1, N - (cutS lo mo bi L N).1, false)] else []) := Lib.hid (by unfold cutAll; rw [hL])
  have d0 := cell_of_row W Bd 0 _ _ _ hBd
  have d0' : W.cell? ⟨Bd, 0, none⟩ = some (.slice a N cap) := d0
  clear hY hc hg hBd hBk hL fl d0
  refine callsIn_of_wp Try.func131 rfl hF ?_ hro
  simp only [Try.ntmps131, List.size_toArray, List.length_cons, List.length_nil, Nat.reduceAdd, Nat.reduceSub, Array.replicate_succ, Array.replicate_zero, List.push_toArray, List.append_toArray, List.nil_append, List.cons_append]
  gi_wp2
  gi_loopw [4, 5, 11] (fun s r i wr => ∃ k : Nat, k ≤ N ∧ i = .int .i64 k ∧ s = .int .i64 ((cutS lo mo bi L k).1 : Nat) ∧ r = .int .u32 (cutS lo mo bi L k).2.1 ∧ J (cutS lo mo bi L k).2.2 wr ∧ KeepD n0 Bd Bk g b W wr)
    (fun _ _ i _ => N - (intOf i).toNat)
  case atStart => exact ⟨0, Nat.zero_le _, rfl, rfl, rfl, h0, KeepD.refl _ _ _ _ _ _⟩
  case round =>
    obtain ⟨k, hk, rfl, rfl, rfl, hJs, hnx⟩ := hrel
    have e1 : wr.cell? ⟨Bd, 0, none⟩ = some (.slice a N cap) := by rw [← d0']; simp only [World.cell?, hnx.2.1]
    have e2 : wr.cell? ⟨Bk, 0, none⟩ = some (.pointer (some ⟨g, 0, none⟩)) := cell_of_row wr Bk 0 _ _ _ (hnx.2.2.1.trans HBk.out)
    have hgw := hnx.2.2.2.1.trans HG.out
    obtain ⟨g0, g1, g2⟩ := knife_cells hgw
    have HGW := Lib.hid hgw
    have HNX := Lib.hid hnx
    obtain ⟨f1, f2, f3, f4, f5⟩ := Hfa.out k
    by_cases hlt : k < N
    · obtain rfl : a = some ⟨b, off, none⟩ := by rcases ha with h | h; (· omega); (· exact h)
      have ex : wr.cell? ⟨b, off + k, none⟩ = some (.int .u8 (L[k]?.getD 0)) := by rw [← HC.out k hlt]; simp only [World.cell?, hnx.2.2.2.2]
      have hx : 0 ≤ L[k]?.getD 0 ∧ L[k]?.getD 0 ≤ 255 := by
        rw [List.getElem?_eq_getElem (by rw [HL.out]; exact hlt)]
        exact Fl.out _ (List.getElem_mem _)
      have Hy1 := Lib.hid (Hye.out k)
      have Hn1 := Lib.hid (Hno.out k)
      have Hp1 := Lib.hid (Hpr.out (k + 1) (by rw [HL.out]; omega))
      have HYk := Lib.hid (fun x => HY.out (cutS lo mo bi L k).2.2 x wr hJs (by omega))
      have HJ := Lib.hid hJs
      clear hgw hnx hJs f4 f5
      generalize hq : cutS lo mo bi L k = q at Hy1 Hn1 HYk HJ f1 f2 f3 ⊢
      clear hq
      obtain ⟨s, r, o⟩ := q
      simp only [] at f1 f2 f3
      generalize L[k]?.getD 0 = x at ex hx Hy1 Hn1
      have Hro := Lib.hid (rolled_impl g #[.int .i64 lo, .int .i64 mo, .int .i64 bi] r x f2 f3 hx.1 hx.2 wr HGW.out rfl)
      have Hen := Lib.hid (ends_impl g lo mo bi ((k : Int) + 1 - (s : Int)) (stepR rollW r x) b0 b1 wr g0 g1 g2)
      clear g0 g1 g2 hx
      have hy1 := Hy1.out
      have hn1 := Hn1.out
      simp only [] at hy1 hn1
      generalize stepR rollW r x = r2 at Hro Hen hy1 hn1
      have i0 : (0 : Int) ≤ (k : Int) := by omega
      have i1 : (k : Int) < (N : Int) := by omega
      have i2 : (s : Int) ≤ (k : Int) := by omega
      have i3 : (N : Int) ≤ (cap : Int) := by omega
      cases he : endsP lo mo bi ((k : Int) + 1 - (s : Int)) r2
      · have Hq := Lib.hid (hn1 he)
        rw [he] at Hen
        clear hy1 hn1 he
        gi_wp2_with (first | (refine ⟨trivial, ?_⟩; gi_at_call 132; refine (callsIn_wide.2 Hro.out).mono ?_; rintro e w' ⟨rfl, rfl⟩) | (refine ⟨trivial, ?_⟩; gi_at_call 133; refine (callsIn_wide.2 Hen.out).mono ?_; rintro e w' ⟨rfl, rfl⟩))
        go_roundw
        case rel => exact ⟨k + 1, by omega, by go_num, by rw [Hq.out], by rw [Hq.out], by rw [Hq.out]; exact HJ.out, HNX.out⟩
        case measure => simp [intOf]; omega
      · have Hq := Lib.hid (hy1 he)
        rw [he] at Hen
        clear hy1 hn1 he
        have hsn : s + (k + 1 - s) ≤ N := by omega
        obtain ⟨fn, tmps, assign, body, hy, hR⟩ := HYk.out (s, k + 1 - s, true)
        simp only [chunkV, if_pos hsn] at hy
        have hNat : ((k : Int) + 1).toNat = k + 1 := by omega
        gi_wp2_with (first | (refine ⟨trivial, ?_⟩; gi_at_call 132; refine (callsIn_wide.2 Hro.out).mono ?_; rintro e w' ⟨rfl, rfl⟩) | (refine ⟨trivial, ?_⟩; gi_at_call 133; refine (callsIn_wide.2 Hen.out).mono ?_; rintro e w' ⟨rfl, rfl⟩))
        refine hR.mono ?_
        rintro e W3 (⟨rfl, hJ3, hk3⟩ | ⟨rfl, hJx3⟩)
        · gi_wp2
          go_roundw
          case rel => exact ⟨k + 1, by omega, by go_num, by rw [Hq.out]; go_num, by rw [Hq.out], by rw [Hq.out]; exact hJ3, HNX.out.trans hk3⟩
          case measure => simp [intOf]; omega
        · gi_wp2
          refine bodyPost_ret (results_none rfl _ _ _) rfl ?_
          exact ⟨⟨_, rfl⟩, .inr ⟨_, by have := Hp1.out; rw [Hq.out] at this; exact this, hJx3⟩⟩
    · obtain rfl : k = N := by omega
      have HYk := Lib.hid (fun x => HY.out (cutS lo mo bi L k).2.2 x wr hJs (by omega))
      have HJ := Lib.hid hJs
      clear hgw hnx hJs f4 f5 g0 g1 g2
      generalize hq : cutS lo mo bi L k = q at Hal HYk HJ f1 ⊢
      clear hq
      obtain ⟨s, r, o⟩ := q
      simp only [] at f1
      have hal := Hal.out
      simp only [] at hal
      have i2 : (s : Int) ≤ (k : Int) := by omega
      have i3 : (k : Int) ≤ (cap : Int) := by omega
      by_cases hs : s < k
      · obtain rfl : a = some ⟨b, off, none⟩ := by rcases ha with h | h; (· omega); (· exact h)
        rw [if_pos hs] at hal
        have Ha2 := Lib.hid hal
        clear hal
        have i4 : (s : Int) < (k : Int) := by omega
        have hsn : s + (k - s) ≤ k := by omega
        obtain ⟨fn, tmps, assign, body, hy, hR⟩ := HYk.out (s, k - s, false)
        simp only [chunkV, if_pos hsn] at hy
        gi_wp2
        refine hR.mono ?_
        rintro e W3 (⟨rfl, hJ3, hk3⟩ | ⟨rfl, hJx3⟩)
        · gi_wp2
          go_end0
          exact ⟨⟨_, rfl⟩, .inl ⟨_, rfl, by rw [Ha2.out]; exact hJ3⟩⟩
        · gi_wp2
          go_end0
          exact ⟨⟨_, rfl⟩, .inr ⟨_, by rw [Ha2.out]; exact List.prefix_refl _, hJx3⟩⟩
      · rw [if_neg hs, List.append_nil] at hal
        have Ha2 := Lib.hid hal
        clear hal
        have i4 : ¬ (s : Int) < (k : Int) := by omega
        gi_wp2
        go_end0
        first
          | exact ⟨⟨_, rfl⟩, .inl ⟨_, rfl, by rw [Ha2.out]; exact HJ.out⟩⟩
          | exact ⟨⟨_, rfl⟩, .inl (by rw [Ha2.out]; exact HJ.out)⟩
          | exact .inl (by rw [Ha2.out]; exact HJ.out)
end Go.Proofs.Ytdamgodfgoackaa
