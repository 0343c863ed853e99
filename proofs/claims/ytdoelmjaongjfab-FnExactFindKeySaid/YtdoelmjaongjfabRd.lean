/- What came in as a row, as a slice that reads as a list. -/
import Derived.Test.YtdoelmjaongjfabOpen
import Derived.Test.YtdoelmjaongjfabBytes
namespace Go.Proofs.Ytdoelmjaongjfab
open Go.ChangeShapes Go.WideShapes Go.ChangeAt Go.RowKit
set_option linter.unusedVariables false
theorem rd_of_row {κ : IntKind} {w : World} {a : Option Addr} {n cap : Nat} {zs : List Int} (h : IsRow κ w a n cap zs) : Rd κ w a n (zs.take n) := by
  rcases h with ⟨rfl, rfl, rfl, rfl⟩ | ⟨x, rfl, hl, hm, hz, hc, hw⟩
  · exact ⟨rfl, Or.inl rfl⟩
  · refine ⟨by simp; omega, ?_⟩
    by_cases h0 : n = 0
    · exact Or.inl h0
    · obtain ⟨b, off, rfl, hcell⟩ := ints_at hc (by omega)
      refine Or.inr ⟨b, off, rfl, World.block_lt_of_cell? w _ (hcell 0 (by omega)), fun j hj => ?_⟩
      rw [hcell j (by omega), List.getElem?_take_of_lt hj, List.getD_eq_getElem?_getD]
theorem rd_wf {κ : IntKind} {w : World} {a : Option Addr} {n cap : Nat} {zs : List Int} (h : IsRow κ w a n cap zs) : ∀ z ∈ zs.take n, (Lit.int κ z).wf = true := by
  rcases h with ⟨rfl, rfl, rfl, rfl⟩ | ⟨x, rfl, hl, hm, hz, hc, hw⟩
  · simp
  · exact fun z hz => hw z (List.mem_of_mem_take hz)
theorem row_len {κ : IntKind} {w : World} {a : Option Addr} {n cap : Nat} {zs : List Int} (h : IsRow κ w a n cap zs) : n ≤ maxLen := by
  rcases h with ⟨rfl, rfl, rfl, rfl⟩ | ⟨x, rfl, hl, hm, hz, hc, hw⟩
  · unfold maxLen; omega
  · omega
theorem list8 {l : List Int} (h : l.length = 8) : ∃ x0 x1 x2 x3 x4 x5 x6 x7 : Int, l = [x0, x1, x2, x3, x4, x5, x6, x7] := by
  match l, h with
  | [x0, x1, x2, x3, x4, x5, x6, x7], _ => exact ⟨x0, x1, x2, x3, x4, x5, x6, x7, rfl⟩
end Go.Proofs.Ytdoelmjaongjfab
