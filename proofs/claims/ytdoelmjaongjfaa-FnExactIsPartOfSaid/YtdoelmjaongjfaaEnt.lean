/- Lists of entries: brought over, measured, compared. Written by wip/gen/ent.py. -/
import Derived.Test.YtdoelmjaongjfaaStrs
import Derived.Test.YtdoelmjaongjfaaTk
namespace Go.Proofs.Ytdoelmjaongjfaa
open Go.ChangeShapes Go.WideShapes Go.ChangeAt Go.RowKit
set_option linter.unusedVariables false
set_option linter.unusedSimpArgs false
/-- How many bytes the texts have. -/
def sumS (l : List ByteArray) : Nat := (l.map ByteArray.size).sum
theorem sumS_take {l : List ByteArray} {k : Nat} (h : k < l.length) : sumS (l.take (k + 1)) = sumS (l.take k) + (tx l k).size := by
  unfold sumS tx
  rw [List.take_succ_eq_append_getElem h, List.map_append, List.sum_append, List.getElem?_eq_getElem h]
  simp
theorem sumS_le (l : List ByteArray) (k : Nat) : sumS (l.take k) ≤ sumS l := by
  unfold sumS
  conv => rhs; rw [← List.take_append_drop k l, List.map_append, List.sum_append]
  omega
theorem sumS_two {l : List ByteArray} {n k : Nat} (hl : l.length = 2 * n) (h : k < n) : sumS (l.take (2 * (k + 1))) = sumS (l.take (2 * k)) + (tx l (2 * k)).size + (tx l (2 * k + 1)).size := by
  rw [show 2 * (k + 1) = 2 * k + 1 + 1 by omega, sumS_take (by omega), sumS_take (by omega)]
def noS (n : Nat) : List ByteArray := List.replicate (2 * n) ByteArray.empty
theorem noS_len (n : Nat) : (noS n).length = 2 * n := by simp [noS]
theorem made_ents (n : Nat) : madeCells (strs [ByteArray.empty, ByteArray.empty]) (n * 2) = strs (noS n) := by
  apply Array.ext
  · simp [size_madeCells, strs_size, noS_len]; omega
  · intro i h1 h2
    have hs : (strs [ByteArray.empty, ByteArray.empty]).size = 2 := by rw [strs_size]; rfl
    have hm : i % 2 < 2 := Nat.mod_lt _ (by omega)
    simp only [madeCells, Array.getElem_map, Array.getElem_range, hs]
    rw [getElem!_pos _ _ (by rw [hs]; exact hm)]
    simp only [strs, List.getElem_toArray, List.getElem_map, noS, List.getElem_replicate]
    match i % 2, hm with
    | 0, _ => rfl
    | 1, _ => rfl
theorem heap_setCell_strs {w : World} {g k : Nat} {l : List ByteArray} {t : TypeId} {s : ByteArray} (h : w.heap[g]? = some (.cells (strs l) t)) : (w.setCell ⟨g, k, none⟩ (.string s)).heap[g]? = some (.cells (strs (l.set k s)) t) := by
  rw [heap_setCell_same _ _ _ _ _ _ h, strs_set]
end Go.Proofs.Ytdoelmjaongjfaa
