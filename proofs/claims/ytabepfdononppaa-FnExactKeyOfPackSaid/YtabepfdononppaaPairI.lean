/- The key of two keys: the program. -/
import Derived.Test.YtabepfdononppaaHashI
namespace Go.Proofs.Ytabepfdononppaa
open Go.ChangeShapes Go.WideShapes Go.ChangeAt Go.RowKit
set_option linter.unusedVariables false
theorem Rd.owned {w : World} {base : Nat} {v : Value} {n : Nat} {L : List Int} {t : TypeId} (h : w.ownsRow base t 1 v n (L.map (Value.int .u8))) : ∃ a cap, v = .slice a n cap ∧ Rd .u8 w a n L := by
  obtain ⟨h1, h2⟩ := h
  have hl : L.length = n := by simpa using h1
  rcases h2 with ⟨rfl, rfl⟩ | ⟨g, cap, cur, rfl, hb, hg, hc, hm, hs, ht⟩
  · exact ⟨none, 0, rfl, hl, Or.inl rfl⟩
  · refine ⟨_, cap, rfl, hl, Or.inr ⟨g, 0, rfl, (Array.getElem?_eq_some_iff.1 hg).1, fun j hj => ?_⟩⟩
    rw [Nat.zero_add, cell_of_row w g j _ _ _ hg]
    have : (cur.toList.take (n * 1))[j]? = (L.map (Value.int .u8))[j]? := by rw [ht]
    rw [List.getElem?_take_of_lt (by omega), List.getElem?_map, List.getElem?_eq_getElem (l := L) (by omega)] at this
    rw [List.getElem?_eq_getElem (l := L) (by omega)]
    simpa using this
theorem RdS.below {w w1 : World} {a : Option Addr} {k : Nat} {ls : List (List Int)} (h : RdS w a k ls) (hb : Below w.heap.size w w1) : RdS w1 a k ls := by
  obtain ⟨h1, h2⟩ := h
  refine ⟨h1, ?_⟩
  rcases h2 with h2 | ⟨b, off, e, hlt, hc⟩
  · exact Or.inl h2
  · refine Or.inr ⟨b, off, e, Nat.lt_of_lt_of_le hlt hb.size, fun j hj => ?_⟩
    obtain ⟨x, n, c, hcell, hrd⟩ := hc j hj
    exact ⟨x, n, c, by rw [hb.cell (p := ⟨b, off + j, none⟩) hlt]; exact hcell, hrd.below hb⟩
theorem pair_keys {u : World} {x y : Nat} {a b : List Int} (ha : a.length = 32) (hb : b.length = 32) (hx : u.heap[x]? = some (.cells (ints .u8 a) 46)) (hy : u.heap[y]? = some (.cells (ints .u8 b) 46)) :
    RdS (u.alloc (.cells #[.slice (some ⟨x, 0, none⟩) 32 32, .slice (some ⟨y, 0, none⟩) 32 32] 41)) (some ⟨u.heap.size, 0, none⟩) 2 [a, b] := by
  have hg := heap_alloc_last u (.cells #[.slice (some ⟨x, 0, none⟩) 32 32, .slice (some ⟨y, 0, none⟩) 32 32] 41)
  have hbl := (Below.refl u.heap.size u).alloc (Nat.le_refl _) (.cells #[.slice (some ⟨x, 0, none⟩) 32 32, .slice (some ⟨y, 0, none⟩) 32 32] 41)
  have r1 := Rd.row hx
  have r2 := Rd.row hy
  rw [ha] at r1
  rw [hb] at r2
  refine ⟨rfl, Or.inr ⟨u.heap.size, 0, rfl, by simp, fun j hj => ?_⟩⟩
  match j, hj with
  | 0, _ => exact ⟨_, 32, 32, by rw [cell_of_row _ _ _ _ _ _ hg]; rfl, r1.below hbl⟩
  | 1, _ => exact ⟨_, 32, 32, by rw [cell_of_row _ _ _ _ _ _ hg]; rfl, r2.below hbl⟩
  | j + 2, hj => simp at hj; omega
def pairK (tag : Int) (a b : List Int) : List Int := hashK tag (a ++ b)
theorem pairK_len (tag : Int) (a b : List Int) : (pairK tag a b).length = 32 := hashK_len _ _
end Go.Proofs.Ytabepfdononppaa
