/- Hashers: brought over, compared. -/
import Derived.Test.YtabepfdononppaaRow
import Derived.Test.YtabepfdononppaaBytes
namespace Go.Proofs.Ytabepfdononppaa
open Go.ChangeShapes Go.WideShapes Go.ChangeAt Go.RowKit
set_option linter.unusedVariables false
theorem setRow3_1 (w : World) (A C : Obj) (c c' : Array Value) (t : TypeId) : (((w.alloc A).alloc (.cells c t)).alloc C).setRow (w.heap.size + 1) c' = ((w.alloc A).alloc (.cells c' t)).alloc C := by
  simp only [World.setRow, World.alloc]
  congr 1
  apply Array.ext_getElem?
  intro i
  rw [Array.getElem?_modify]
  by_cases h : w.heap.size + 1 = i
  · subst h
    have h2 : ¬ w.heap.size + 1 = w.heap.size + 1 + 1 := by omega
    simp only [Array.getElem?_push, Array.size_push, if_neg h2, if_true, Option.map_some]
  · have h' : ¬ i = w.heap.size + 1 := fun e => h e.symm
    simp [h, h', Array.getElem?_push]
theorem heap_at {w : World} {g : Nat} (h : g = w.heap.size) (o : Obj) : (w.alloc o).heap[g]? = some o := by
  subst h
  exact heap_alloc_last _ _
end Go.Proofs.Ytabepfdononppaa
