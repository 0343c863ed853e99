/- Nodes of maps, as rows of cells. Written by wip/gen/nod.py. -/
import Derived.Test.YtmkddiconpacnaaPrio
namespace Go.Proofs.Ytmkddiconpacnaa
open Go.ChangeShapes Go.WideShapes Go.ChangeAt Go.RowKit
set_option linter.unusedVariables false
set_option linter.unusedSimpArgs false
def Is32' (l : List Int) : Prop := l.length = 32 ∧ ∀ z ∈ l, 0 ≤ z ∧ z ≤ 255
/-- The cells of a node: both keys, the name and the value. -/
def nodL (l r : List Int) (nm vl : ByteArray) : List Value := l.map (Value.int .u8) ++ (r.map (Value.int .u8) ++ [.string nm, .string vl])
def nodC (l r : List Int) (nm vl : ByteArray) : Array Value := (nodL l r nm vl).toArray
theorem nodL_len {l r : List Int} (nm vl : ByteArray) (hl : l.length = 32) (hr : r.length = 32) : (nodL l r nm vl).length = 66 := by simp [nodL, hl, hr]
theorem nodC_size {l r : List Int} (nm vl : ByteArray) (hl : l.length = 32) (hr : r.length = 32) : (nodC l r nm vl).size = 66 := by simp [nodC, nodL, hl, hr]
theorem nodC_one (l r : List Int) (nm vl : ByteArray) : (nodC l r nm vl).all (·.oneCell') = true := by simp [nodC, nodL, Value.oneCell']
theorem sizeNode : (Try.prog.info? 45).map (·.size) = some 66 := by kernel_rfl
theorem nodC_at {l r : List Int} {nm vl : ByteArray} {j : Nat} : (nodC l r nm vl)[j]? = (nodL l r nm vl)[j]? := by simp [nodC]
/-- Where the parts of a node lie. -/
theorem nod_left {w : World} {g : Nat} {l r : List Int} {nm vl : ByteArray} {T : TypeId} {fr : Nat × Nat} (hl : l.length = 32) (h : w.heap[g]? = some (.cells (nodC l r nm vl) T fr)) : w.rangeAt g 0 (l.map (Value.int .u8)) := fun j v hv => by
  have hj := (List.getElem?_eq_some_iff.1 hv).1
  rw [cell_of_row w g (0 + j) _ _ _ h, Nat.zero_add, nodC_at, nodL, List.getElem?_append_left hj]
  exact hv
theorem nod_right {w : World} {g : Nat} {l r : List Int} {nm vl : ByteArray} {T : TypeId} {fr : Nat × Nat} (hl : l.length = 32) (hr : r.length = 32) (h : w.heap[g]? = some (.cells (nodC l r nm vl) T fr)) : w.rangeAt g 32 (r.map (Value.int .u8)) := fun j v hv => by
  have hj := (List.getElem?_eq_some_iff.1 hv).1
  rw [cell_of_row w g (32 + j) _ _ _ h, nodC_at, nodL, List.getElem?_append_right (by simp [hl]), List.length_map, hl, Nat.add_sub_cancel_left, List.getElem?_append_left hj]
  exact hv
theorem nod_byte {w : World} {g : Nat} {l r : List Int} {nm vl : ByteArray} {T : TypeId} {fr : Nat × Nat} (hl : l.length = 32) (hr : r.length = 32) (h : w.heap[g]? = some (.cells (nodC l r nm vl) T fr)) {k : Nat} (hk : k < 32) :
    w.cell? ⟨g, k, none⟩ = some (.int .u8 (l[k]?.getD 0)) ∧ w.cell? ⟨g, 32 + k, none⟩ = some (.int .u8 (r[k]?.getD 0)) := by
  constructor
  · have := nod_left hl h k (.int .u8 (l[k]?.getD 0)) (by rw [List.getElem?_map, List.getElem?_eq_getElem (by omega)]; rfl)
    rwa [Nat.zero_add] at this
  · exact nod_right hl hr h k (.int .u8 (r[k]?.getD 0)) (by rw [List.getElem?_map, List.getElem?_eq_getElem (by omega)]; rfl)
theorem nod_texts {w : World} {g : Nat} {l r : List Int} {nm vl : ByteArray} {T : TypeId} {fr : Nat × Nat} (hl : l.length = 32) (hr : r.length = 32) (h : w.heap[g]? = some (.cells (nodC l r nm vl) T fr)) :
    w.cell? ⟨g, 64, none⟩ = some (.string nm) ∧ w.cell? ⟨g, 65, none⟩ = some (.string vl) := by
  constructor
  · rw [cell_of_row w g 64 _ _ _ h, nodC_at, nodL, List.getElem?_append_right (by simp [hl]), List.length_map, hl, List.getElem?_append_right (by simp [hr]), List.length_map, hr]; rfl
  · rw [cell_of_row w g 65 _ _ _ h, nodC_at, nodL, List.getElem?_append_right (by simp [hl]), List.length_map, hl, List.getElem?_append_right (by simp [hr]), List.length_map, hr]; rfl
/-- The bytes of a node. -/
def nodB (l r : List Int) (nm vl : ByteArray) : List Int := l ++ r ++ [(nm.size : Int)] ++ btS nm ++ btS vl
theorem nodB_len {l r : List Int} (nm vl : ByteArray) (hl : l.length = 32) (hr : r.length = 32) : (nodB l r nm vl).length = 65 + nm.size + vl.size := by
  unfold nodB
  simp only [List.length_append, btS_len, hl, hr, List.length_cons, List.length_nil]
theorem nodB_range {l r : List Int} {nm vl : ByteArray} (hl : Is32' l) (hr : Is32' r) (hn : nm.size ≤ 255) : ∀ z ∈ nodB l r nm vl, 0 ≤ z ∧ z ≤ 255 := by
  intro z hz
  unfold nodB at hz
  simp only [List.mem_append, List.mem_singleton] at hz
  rcases hz with ((((h | h) | h) | h) | h)
  · exact hl.2 z h
  · exact hr.2 z h
  · omega
  · exact btS_range nm z h
  · exact btS_range vl z h
end Go.Proofs.Ytmkddiconpacnaa
