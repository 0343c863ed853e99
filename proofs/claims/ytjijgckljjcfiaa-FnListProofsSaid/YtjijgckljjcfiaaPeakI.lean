/- The key of peaks: the program. Written by wip/gen/peaki.py. -/
import Derived.Test.YtjijgckljjcfiaaPeakS
namespace Go.Proofs.Ytjijgckljjcfiaa
open Go.ChangeShapes Go.WideShapes Go.ChangeAt Go.RowKit
set_option linter.unusedVariables false
/-- What is popped of n keys. -/
def popV (fl : List Int) (n : Nat) : List Int := if n = 0 then z32 else keyAt fl (n - 1)
theorem popV_len {fl : List Int} {n m : Nat} (h : fl.length = 32 * m) (hn : n ≤ m) : (popV fl n).length = 32 := by
  unfold popV
  split
  · rfl
  · exact keyAt_len h (by omega)
theorem popV_range {fl : List Int} (fb : ∀ z ∈ fl, 0 ≤ z ∧ z ≤ 255) (n : Nat) : ∀ z ∈ popV fl n, 0 ≤ z ∧ z ≤ 255 := by
  unfold popV
  split
  · intro z hz
    rw [List.eq_of_mem_replicate hz]
    omega
  · exact keyAt_range fb _
theorem pop_any (g n : Nat) (fl : List Int) (hn : n ≤ 1048576) (w : World) (hs : Stk g n fl w) :
    Calls Try.prog 118 #[.pointer (some ⟨g, 0, none⟩)] w fun e w' => e = .returned (.tuple #[.agg (ints .u8 (popV fl n)), .bool (decide (0 < n))]) ∧ Stk g (n - 1) fl w' ∧ Keep w.heap.size (· = g) w w' := by
  by_cases h0 : n = 0
  · subst h0
    refine (pop_none g fl w hs).mono fun e w' ⟨he, hb⟩ => ⟨by rw [he]; rfl, hs.below hb, Keep.of _ hb⟩
  · refine (pop_some g n fl (by omega) hn w hs).mono fun e w' ⟨he, h1, h2⟩ => ⟨?_, h1, h2⟩
    have hp : popV fl n = keyAt fl (n - 1) := by unfold popV; rw [if_neg h0]
    have hd : decide (0 < n) = true := decide_eq_true (by omega)
    rw [he, hp, hd]
/-- How many keys a stack has, as its slice tells. -/
def stkN (W : World) (g : Nat) : Nat := match W.heap[g]? with
  | some (Obj.cells cs _ _) => (match cs[0]? with | some (Value.slice _ n _) => n | _ => 0)
  | _ => 0
theorem Stk.count {g n : Nat} {fl : List Int} {W : World} (h : Stk g n fl W) : stkN W g = n := by
  obtain ⟨a, cap, h1, _⟩ := h
  unfold stkN
  rw [h1]
  rfl
def boolN : Value → Nat
  | .bool true => 1
  | _ => 0
end Go.Proofs.Ytjijgckljjcfiaa
