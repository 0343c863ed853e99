/- A node that came in, opened. Written by wip/gen/src.py. -/
import Derived.Test.YtmkddiconpacnaaOpen
import Derived.Test.YtmkddiconpacnaaNod
namespace Go.Proofs.Ytmkddiconpacnaa
open Go.ChangeShapes Go.WideShapes Go.ChangeAt Go.RowKit
set_option linter.unusedVariables false
set_option linter.unusedSimpArgs false
set_option maxRecDepth 100000 in
theorem open_node {H : Type} {enc : TypeId × Value → H} {w : World} {b0 : Nat} {r : Reach} {v : Value} {d : DataW H} {p : List MemPlace}
    (hv : Value.okWide Try.prog w r b0 38 v) (h : DataW.Trod enc Try.prog w 0 (fun _ => true) true 38 v d p) :
    ∃ (l q : List Int) (nm vl : ByteArray), v = .agg (nodC l q nm vl) ∧ (Is32' l ∧ Is32' q) ∧ (nm.size ≤ maxLen ∧ vl.size ≤ maxLen) := by
  obtain ⟨cs, rfl, hsz⟩ := okWide_struct Try.underlying38 hv
  have h66 : Try.prog.cellsOf 38 = 66 := by kernel_rfl
  rw [h66] at hsz
  obtain ⟨fuel, hf⟩ := h
  obtain ⟨xs, m, _, _, hlen, hxl, hfl⟩ := DataW.trod_struct Try.underlying38 hf
  have k0 := hfl 0 _ rfl
  have k1 := hfl 1 _ rfl
  have k2 := hfl 2 _ rfl
  have e32 : Try.prog.cellsOf 36 = 32 := by kernel_rfl
  have e2 : Try.prog.cellsOf 24 = 2 := by kernel_rfl
  have e1 : Try.prog.cellsOf 9 = 1 := by kernel_rfl
  simp only [Value.cells] at k0 k1 k2
  have h3 : xs.length = 3 := hxl
  rw [List.getElem?_eq_getElem (by omega)] at k0 k1 k2
  obtain ⟨l, hl, hl8, hlw⟩ := trod_ints Try.underlying36 Try.underlying5 (by kernel_rfl) e32 k0
  replace hl8 : (cs.toList.drop 0).take (Try.prog.cellsOf 36) = l.map (Value.int .u8) := hl8
  rw [e32, List.drop_zero] at hl8
  obtain ⟨q, hq, hq8, hqw⟩ := trod_ints Try.underlying36 Try.underlying5 (by kernel_rfl) e32 k1
  replace hq8 : (cs.toList.drop 32).take (Try.prog.cellsOf 36) = q.map (Value.int .u8) := hq8
  rw [e32] at hq8
  obtain ⟨ys, m2, _, _, hlen2, hyl, hgl⟩ := DataW.trod_struct Try.underlying24 k2
  have j0 := hgl 0 _ rfl
  have j1 := hgl 1 _ rfl
  have h4 : ys.length = 2 := hyl
  rw [List.getElem?_eq_getElem (by omega)] at j0 j1
  obtain ⟨x, hx, _, hxs⟩ := DataW.trod_string Try.underlying9 j0
  obtain ⟨y, hy, _, hys⟩ := DataW.trod_string Try.underlying9 j1
  replace hx : (((cs.toList.drop 64).take (Try.prog.cellsOf 24)).drop 0).take (Try.prog.cellsOf 9) = [Value.string x] := hx
  replace hy : (((cs.toList.drop 64).take (Try.prog.cellsOf 24)).drop 1).take (Try.prog.cellsOf 9) = [Value.string y] := hy
  rw [e2, e1] at hx hy
  have wf : ∀ z : Int, (Lit.int .u8 z).wf = true → 0 ≤ z ∧ z ≤ 255 := fun z hz => by
    have h : (decide ((0 : Int) ≤ z) && decide (z ≤ 255)) = true := hz
    simp only [Bool.and_eq_true, decide_eq_true_eq] at h
    exact h
  refine ⟨l, q, x, y, ?_, ⟨⟨hl, fun z hz => wf z (hlw z hz)⟩, hq, fun z hz => wf z (hqw z hz)⟩, hxs, hys⟩
  have hL : cs.toList.length = 66 := by simpa using hsz
  have hall : cs.toList = nodL l q x y := by
    have q1 : cs.toList = cs.toList.take 32 ++ ((cs.toList.drop 32).take 32 ++ ((((cs.toList.drop 64).take 2).drop 0).take 1 ++ (((cs.toList.drop 64).take 2).drop 1).take 1)) := by
      have a1 : ∀ (L : List Value), L.length = 2 → (L.drop 0).take 1 ++ (L.drop 1).take 1 = L := by
        intro L hL
        match L, hL with
        | [a, b], _ => rfl
      rw [a1 _ (by rw [List.length_take, List.length_drop, hL]; rfl), show (cs.toList.drop 64).take 2 = cs.toList.drop 64 from List.take_of_length_le (by rw [List.length_drop, hL]; omega), show cs.toList.drop 64 = (cs.toList.drop 32).drop 32 by rw [List.drop_drop], List.take_append_drop, List.take_append_drop]
    rw [q1, hl8, hq8, hx, hy]
    rfl
  unfold nodC
  rw [← hall]
end Go.Proofs.Ytmkddiconpacnaa
