/- The library's chunks of a slice of bytes: each of thirty-two bytes. -/
import Derived.RangeFuncNested
import Derived.RangeFuncBound
import Derived.RangeFuncCalls
import Derived.RangeFuncLeaves
import Derived.Shelf.Abstract
import Derived.Shelf.RegionOpen
import Derived.WalkKit
import Derived.OwnWalkIn
import Derived.TacticsInMore
import Derived.LoopNIn
import Derived.LoopIn
import Derived.Test.YtdoelmjaongjfaaBase
namespace Go.Proofs.Ytdoelmjaongjfaa
open Go.RowKit Go.Shelf
set_option linter.unusedVariables false
attribute [local go_sem] Oper.semAt_some
/-- What is kept over a round: what lay below, and the two boxes of the iterator. -/
def KeepC (n0 Bs : Nat) (W W' : World) : Prop := Below n0 W W' ∧ W'.heap[Bs]? = W.heap[Bs]? ∧ W'.heap[Bs + 1]? = W.heap[Bs + 1]?
theorem KeepC.trans {n0 Bs : Nat} {A B C : World} (h : KeepC n0 Bs A B) (k : KeepC n0 Bs B C) : KeepC n0 Bs A C := ⟨h.1.trans k.1, k.2.1.trans h.2.1, k.2.2.trans h.2.2⟩
theorem KeepC.refl (n0 Bs : Nat) (A : World) : KeepC n0 Bs A A := ⟨Below.refl _ _, rfl, rfl⟩
theorem KeepC.put {n0 Bs : Nat} {w : World} (hn : n0 ≤ w.heap.size) (hB : Bs + 1 < w.heap.size) (W : World) (l : Nat) (o o' : Obj) (hl : w.heap.size ≤ l) (h : W.heap[l]? = some o) (h1 : o.isCells = false) (h2 : o.isWalk = false) : KeepC n0 Bs W (W.putObj l o') :=
  ⟨belowK_b (w := w) hn W l o o' hl h h1 h2, World.putObj_heap_other (by omega), World.putObj_heap_other (by omega)⟩
set_option maxRecDepth 100000 in
set_option maxHeartbeats 2000000 in
theorem chunk1_in (F : Fence) (n : Nat) (hF : F.fn 150) (hro : F.round = none) (hn : 1 ≤ n) (l Bs n0 : Nat) (a : Option Addr) (b off m cap : Nat) (hm : m ≤ 1048576) (ha : m = 0 ∨ a = some ⟨b, off, none⟩) (hcap : 32 * m ≤ cap) (hcap2 : cap ≤ maxLen) (J Jx : List (Fin m) → World → Prop)
    (hY : ∀ pre x W, J pre W → pre.length < m → YieldAt F (n - 1) Try.prog l #[.slice (some ⟨b, off + 32 * x.val, none⟩) 32 32] W fun e W' =>
      (e = .returned (.bool true) ∧ J (pre ++ [x]) W' ∧ KeepC n0 Bs W W') ∨ (e = .returned (.bool false) ∧ Jx (pre ++ [x]) W'))
    (W : World) (hJ : AbidesFrom W.heap.size J) (hBs : W.cell? ⟨Bs, 0, none⟩ = some (.slice a (32 * m) cap)) (hBn : W.cell? ⟨Bs + 1, 0, none⟩ = some (.int .i64 32)) (h0 : J [] W) :
    CallsIn F n Try.prog 150 #[.func (.yield l) #[] #[], .pointer (some ⟨Bs, 0, none⟩), .pointer (some ⟨Bs + 1, 0, none⟩)] W fun e W' => (∃ v, e = .returned v) ∧
      ((∃ ys, ys = List.finRange m ∧ J ys W') ∨ (∃ pre, pre <+: List.finRange m ∧ Jx pre W')) := by
  refine callsIn_of_wp Try.func150 rfl hF ?_ hro
  simp only [Try.ntmps150, List.size_toArray, List.length_cons, List.length_nil, Nat.reduceAdd, Nat.reduceSub, Array.replicate_succ, Array.replicate_zero, List.push_toArray, List.append_toArray, List.nil_append, List.cons_append]
  gi_wp2
  gi_loopw [4] (fun i wr => ∃ k : Nat, k ≤ m ∧ i = .int .i64 ((32 * k : Nat) : Int) ∧ J ((List.finRange m).take k) wr ∧ KeepC n0 Bs W wr)
    (fun i _ => 32 * m - (intOf i).toNat)
  case atStart => exact ⟨0, Nat.zero_le _, rfl, by simpa using h0, KeepC.refl _ _ _⟩
  case round =>
    obtain ⟨k, hk, rfl, hJs, hnx⟩ := hrel
    have c1 : wr.cell? ⟨Bs, 0, none⟩ = some (.slice a (32 * m) cap) := by rw [← hBs]; simp only [World.cell?, hnx.2.1]
    have c2 : wr.cell? ⟨Bs + 1, 0, none⟩ = some (.int .i64 32) := by rw [← hBn]; simp only [World.cell?, hnx.2.2]
    by_cases hlt : k < m
    · obtain rfl : a = some ⟨b, off, none⟩ := by rcases ha with h | h; (· omega); (· exact h)
      have hJd : J ((List.finRange m).take k) wr.drew := hJ _ wr wr.drew none hJs ⟨rfl, rfl, rfl, Nat.le_refl _, fun _ _ _ => rfl⟩ (fun r h => by cases h)
      obtain ⟨fn, tmps, assign, body, hy, hR⟩ := hY _ ⟨k, hlt⟩ wr.drew hJd (by simp; omega)
      dsimp only at hy
      have hnext : (List.finRange m).take k ++ [⟨k, hlt⟩] = (List.finRange m).take (k + 1) := by
        rw [List.take_succ_eq_append_getElem (by simp; exact hlt)]; simp
      rw [hnext] at hR
      obtain ⟨p, hp⟩ : ∃ p, 32 * k = p := ⟨_, rfl⟩
      have hpp : p + 32 ≤ 32 * m := by omega
      rw [hp] at hy ⊢
      generalize hN : 32 * m = N at *
      have b0 : (0 : Int) ≤ (p : Int) := by omega
      have b1 : (p : Int) < (N : Int) := by omega
      have b2 : (p : Int) + 32 ≤ (N : Int) := by omega
      have b3 : (N : Int) ≤ (cap : Int) := by omega
      gi_wp2
      gi_region
      all_goals
        have e32 : (if ((N - p : Nat) : Int) < 32 then ((N - p : Nat) : Int) else 32) = 32 := by split <;> omega
        rw [e32]
        gi_wp2
        refine hR.mono ?_
        rintro e W3 (⟨rfl, hJ3, hk3⟩ | ⟨rfl, hJx3⟩)
        · have hk4 : KeepC n0 Bs W W3 := hnx.trans (KeepC.trans ⟨(Below.refl _ _).drew, rfl, rfl⟩ hk3)
          have c3 : W3.cell? ⟨Bs + 1, 0, none⟩ = some (.int .i64 32) := by rw [← hBn]; simp only [World.cell?, hk4.2.2]
          gi_wp2
          go_roundw
          case rel => exact ⟨k + 1, by omega, by rw [show 32 * (k + 1) = p + 32 by omega]; go_num, hJ3, hk4⟩
          case measure => simp [intOf]; omega
        · gi_wp2
          refine bodyPost_ret (results_none rfl _ _ _) rfl ?_
          exact ⟨⟨_, rfl⟩, .inr ⟨_, List.take_prefix _ _, hJx3⟩⟩
    · obtain rfl : k = m := by omega
      gi_wp2
      go_end0
      exact ⟨⟨_, rfl⟩, .inl ⟨_, rfl, by rw [List.take_of_length_le (by simp)] at hJs; exact hJs⟩⟩
end Go.Proofs.Ytdoelmjaongjfaa
