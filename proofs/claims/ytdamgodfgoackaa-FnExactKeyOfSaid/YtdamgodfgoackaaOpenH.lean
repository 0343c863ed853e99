/- A hasher that came in, opened; what came in as a row, as a slice that reads as a list. -/
import Derived.Test.YtdamgodfgoackaaRd
namespace Go.Proofs.Ytdamgodfgoackaa
open Go.ChangeShapes Go.WideShapes Go.ChangeAt Go.RowKit
set_option linter.unusedVariables false
set_option maxRecDepth 100000 in
theorem open_hasher {H : Type} {enc : TypeId × Value → H} {w : World} {b0 : Nat} {r : Reach} {v : Value} {d : DataW H} {p : List MemPlace}
    (hv : Value.okWide Try.prog w r b0 34 v) (h : DataW.Trod enc Try.prog w 0 (fun _ => true) true 34 v d p) :
    ∃ (x0 x1 x2 x3 x4 x5 x6 x7 : Int) (a : Option Addr) (n cap : Nat) (c : Int) (zs : List Int), v = .agg #[.int .u32 x0, .int .u32 x1, .int .u32 x2, .int .u32 x3, .int .u32 x4, .int .u32 x5, .int .u32 x6, .int .u32 x7, .slice a n cap, .int .i64 c] ∧ IsRow .u8 w a n cap zs ∧ (∀ z ∈ [x0, x1, x2, x3, x4, x5, x6, x7], (Lit.int .u32 z).wf = true) ∧ (Lit.int .i64 c).wf = true := by
  obtain ⟨cs, rfl, hsz⟩ := okWide_struct Try.underlying34 hv
  have h10 : Try.prog.cellsOf 34 = 10 := by kernel_rfl
  rw [h10] at hsz
  obtain ⟨fuel, hf⟩ := h
  obtain ⟨xs, m, _, _, hlen, hxl, hfl⟩ := DataW.trod_struct Try.underlying34 hf
  have k0 := hfl 0 _ rfl
  have k1 := hfl 1 _ rfl
  have k2 := hfl 2 _ rfl
  have e8 : Try.prog.cellsOf 32 = 8 := by kernel_rfl
  have e1 : Try.prog.cellsOf 22 = 1 := by kernel_rfl
  have e2 : Try.prog.cellsOf 2 = 1 := by kernel_rfl
  simp only [Value.cells] at k0 k1 k2
  have h3 : xs.length = 3 := hxl
  rw [List.getElem?_eq_getElem (by omega)] at k0 k1 k2
  obtain ⟨l, hl, hl8, hlw⟩ := trod_ints Try.underlying32 Try.underlying31 (by kernel_rfl) e8 k0
  replace hl8 : (cs.toList.drop 0).take (Try.prog.cellsOf 32) = l.map (Value.int .u32) := hl8
  rw [e8, List.drop_zero] at hl8
  obtain ⟨c, hc, _, hcw⟩ := DataW.trod_int Try.underlying2 k2
  replace hc : (cs.toList.drop 9).take (Try.prog.cellsOf 2) = [Value.int .i64 c] := hc
  rw [e2] at hc
  have hrow : ∃ (a : Option Addr) (n cap : Nat) (zs : List Int), (cs.toList.drop 8).take 1 = [.slice a n cap] ∧ IsRow .u8 w a n cap zs := by
    rcases open_ints Try.underlying22 Try.underlying5 (by kernel_rfl) k1 with ⟨hcs, _⟩ | ⟨x, ln, cp, zs, hcs, _, hl', hm, hz, _, hcell, hwz⟩
    · exact ⟨none, 0, 0, [], hcs, .inl ⟨rfl, rfl, rfl, rfl⟩⟩
    · exact ⟨some x, ln, cp, zs, hcs, .inr ⟨x, rfl, hl', hm, by simpa using hz, hcell, hwz⟩⟩
  obtain ⟨a, n, cap, zs, hs, hr⟩ := hrow
  obtain ⟨x0, x1, x2, x3, x4, x5, x6, x7, rfl⟩ := list8 hl
  refine ⟨x0, x1, x2, x3, x4, x5, x6, x7, a, n, cap, c, zs, ?_, hr, hlw, hcw⟩
  have hall : cs.toList = [.int .u32 x0, .int .u32 x1, .int .u32 x2, .int .u32 x3, .int .u32 x4, .int .u32 x5, .int .u32 x6, .int .u32 x7, .slice a n cap, .int .i64 c] := by
    have q1 : cs.toList = cs.toList.take 8 ++ ((cs.toList.drop 8).take 1 ++ ((cs.toList.drop 9).take 1)) := by
      have hL : cs.toList.length = 10 := by simpa using hsz
      apply List.ext_getElem?
      intro i
      simp only [List.getElem?_append, List.length_take, List.length_drop, hL, List.getElem?_take, List.getElem?_drop]
      by_cases h1 : i < 8
      · simp [h1]
      · by_cases h2 : i = 8
        · subst h2; simp
        · by_cases h3 : i = 9
          · subst h3; simp
          · have hn : cs.toList[i]? = none := List.getElem?_eq_none (by omega)
            rw [hn]
            simp [h1, show ¬ i - 8 < 1 by omega, show ¬ i - 8 - 1 < 1 by omega]
    rw [q1, hl8, hs, hc]
    rfl
  have : cs = cs.toList.toArray := by simp
  rw [this, hall]
end Go.Proofs.Ytdamgodfgoackaa
