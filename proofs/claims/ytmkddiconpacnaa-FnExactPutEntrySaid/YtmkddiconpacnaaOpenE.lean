/- An entry that came in, opened. -/
import Derived.Test.YtmkddiconpacnaaStrs
import Derived.Lib.SmallJoins
namespace Go.Proofs.Ytmkddiconpacnaa
open Go.ChangeShapes Go.WideShapes Go.ChangeAt Go.RowKit Go.Deep
set_option linter.unusedVariables false
set_option maxRecDepth 100000 in
theorem open_ent {H : Type} {enc : TypeId × Value → H} {w : World} {b0 : Nat} {r : Reach} {t t1 : TypeId} {f0 f1 : Field} {v : Value} {d : DataW H} {p : List MemPlace}
    (ht : Try.prog.underlying t = some (.struct #[f0, f1])) (h0 : f0.type = t1) (h1 : f1.type = t1) (hs : Try.prog.underlying t1 = some .string) (hone : oneCellFields Try.prog #[f0, f1] = true) (hc : Try.prog.cellsOf t = 2)
    (hv : Value.okWide Try.prog w r b0 t v) (h : DataW.Trod enc Try.prog w 0 (fun _ => true) true t v d p) : ∃ x y : ByteArray, v = .agg #[.string x, .string y] ∧ x.size ≤ maxLen ∧ y.size ≤ maxLen := by
  obtain ⟨v0, v1, y0, y1, n, rfl, _, _, e0, e1⟩ := Go.Joins.open_agg2 ht hone hc hv h
  rw [h0] at e0
  rw [h1] at e1
  obtain ⟨x, hx, _, hxs⟩ := DataW.trod_string hs e0
  obtain ⟨y, hy, _, hys⟩ := DataW.trod_string hs e1
  cases hx
  cases hy
  exact ⟨x, y, rfl, hxs, hys⟩
end Go.Proofs.Ytmkddiconpacnaa
