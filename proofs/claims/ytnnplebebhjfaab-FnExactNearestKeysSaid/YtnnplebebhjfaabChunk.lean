/- The library's chunks of a slice of bytes: each of thirty-two bytes. -/
import Derived.RangeFuncNested
import Derived.RangeFuncBound
import Derived.RangeFuncCalls
import Derived.RangeFuncLeaves
import Derived.Shelf.Abstract
import Derived.Shelf.RegionOpen
import Derived.WalkKit
import Derived.OwnWalkIn
import Derived.TacticsInMore
import Derived.LoopNIn
import Derived.LoopIn
import Derived.Test.YtnnplebebhjfaabBase
namespace Go.Proofs.Ytnnplebebhjfaab
open Go.RowKit Go.Shelf
set_option linter.unusedVariables false
attribute [local go_sem] Oper.semAt_some
/-- What is kept over a round: what lay below, and the two boxes of the iterator. -/
def KeepC (n0 Bs : Nat) (W W' : World) : Prop := Below n0 W W' ∧ W'.heap[Bs]? = W.heap[Bs]? ∧ W'.heap[Bs + 1]? = W.heap[Bs + 1]?
theorem KeepC.trans {n0 Bs : Nat} {A B C : World} (h : KeepC n0 Bs A B) (k : KeepC n0 Bs B C) : KeepC n0 Bs A C := ⟨h.1.trans k.1, k.2.1.trans h.2.1, k.2.2.trans h.2.2⟩
theorem KeepC.refl (n0 Bs : Nat) (A : World) : KeepC n0 Bs A A := ⟨Below.refl _ _, rfl, rfl⟩
theorem KeepC.put {n0 Bs : Nat} {w : World} (hn : n0 ≤ w.heap.size) (hB : Bs + 1 < w.heap.size) (W : World) (l : Nat) (o o' : Obj) (hl : w.heap.size ≤ l) (h : W.heap[l]? = some o) (h1 : o.isCells = false) (h2 : o.isWalk = false) : KeepC n0 Bs W (W.putObj l o') :=
  ⟨belowK_b (w := w) hn W l o o' hl h h1 h2, World.putObj_heap_other (by omega), World.putObj_heap_other (by omega)⟩
end Go.Proofs.Ytnnplebebhjfaab
