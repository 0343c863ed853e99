/- Bytes copied, by the program. Cut out of XCpB. -/
import Derived.Test.YtmgldpiagclcnaaOwnB
import Derived.Laws.IdiomCopy
import Derived.Lib.LazyBuf
import Derived.Laws.AppendOwn
namespace Go.Proofs.Ytmgldpiagclcnaa
open Go.ChangeShapes Go.WideShapes Go.ChangeAt Go.RowKit
set_option linter.unusedVariables false
set_option linter.unusedSimpArgs false
theorem sizeU8cP : (Try.prog.info? 5).map (·.size) = some 1 := by kernel_rfl
theorem row_exactCP {w : World} {g : Nat} {T : TypeId} {N : Nat} {f : Nat → Value} {A : Array Value} (h : w.rowIs g T N f) (hs : A.size = N) (hA : ∀ i, i < N → A[i]? = some (f i)) : w.heap[g]? = some (.cells A T) := by
  obtain ⟨c, hg, hcs, hc⟩ := h
  rw [hg]
  congr 2
  apply Array.ext_getElem?
  intro i
  by_cases hi : i < N
  · rw [hc i hi, hA i hi]
  · rw [Array.getElem?_eq_none (by omega), Array.getElem?_eq_none (by omega)]
theorem row_blockCP {w : World} {g : Nat} {T : TypeId} {A : Array Value} (h : w.heap[g]? = some (.cells A T)) : w.rowIs g T A.size (fun i => A[i]?.getD default) :=
  ⟨A, h, rfl, fun i hi => by show A[i]? = some (A[i]?.getD default); rw [Array.getElem?_eq_getElem hi]; rfl⟩
theorem filledCP {w : World} {g : Nat} {l0 l : List Int} {T : TypeId} (hl : l.length = l0.length) (h : w.heap[g]? = some (.cells (ints .u8 l0) T)) :
    (w.setCells g 0 (l.map (Value.int .u8))).heap[g]? = some (.cells (ints .u8 l) T) := by
  have hb := Go.rowIs_setCells (l.map (Value.int .u8)) 0 _ _ (row_blockCP h)
  refine row_exactCP hb (by rw [ints_size, ints_size, hl]) fun i hi => ?_
  rw [ints_size] at hi
  have hi2 : i < l.length := by omega
  simp [ints, hi2]
set_option maxRecDepth 100000 in
set_option maxHeartbeats 4000000 in
theorem copyOf_implP (y n : Nat) (l : List Int) (hl : l.length = n) (hn : n ≤ 1048576) (w : World) (hy : w.heap[y]? = some (.cells (ints .u8 l) 5)) :
    Calls Try.prog 89 #[.slice (some ⟨y, 0, none⟩) n n] w fun e w' => e = .returned (.slice (some ⟨w.heap.size, 0, none⟩) n n) ∧ w'.heap[w.heap.size]? = some (.cells (ints .u8 l) 5) ∧ Below w.heap.size w w' := by
  have hmk := run_make_row' (P := Try.prog) 41 5 (.int .u8 0) 1 Try.underlying41 infoByte rfl .i64 .i64 n (by omega) (by omega) w
  rw [made_zero] at hmk
  have A1 := heap_alloc_last w (.cells (ints .u8 (List.replicate n 0)) 5)
  have Y1 := keep_block hy ((Below.refl w.heap.size w).alloc (Nat.le_refl _) (.cells (ints .u8 (List.replicate n 0)) 5))
  have B1 := (Below.refl w.heap.size w).alloc (Nat.le_refl _) (.cells (ints .u8 (List.replicate n 0)) 5)
  obtain ⟨W1, hW1⟩ : ∃ W1, w.alloc (.cells (ints .u8 (List.replicate n 0)) 5) = W1 := ⟨_, rfl⟩
  rw [hW1] at A1 Y1 B1 hmk
  have hcp := fun ty => run_copy_cells (P := Try.prog) W1 41 41 ty 5 w.heap.size 0 n n ⟨y, 0, none⟩ n n (l.map (Value.int .u8)) Try.underlying41 sizeU8cP (by rw [List.length_map, hl]; simp)
    (fun j v hj => by rw [addr_add, Nat.zero_add]; exact (cell_of_row W1 y j _ _ _ Y1).trans (by simpa [ints] using hj))
    (fun j hj => by rw [List.length_map, hl] at hj; rw [Nat.zero_add, cell_of_row W1 w.heap.size j _ _ _ A1]; simp [ints, hj])
    (fun j hj => frozen_of_row W1 w.heap.size (0 + j) _ _ A1) (fun v hv => by obtain ⟨z, _, rfl⟩ := List.mem_map.1 hv; rfl)
  rw [List.length_map, hl] at hcp
  have G2 := filledCP (w := W1) (l := l) (by rw [hl, List.length_replicate]) A1
  have B2 := below_setCells_k (g := w.heap.size) (Nat.le_refl _) (l.map (Value.int .u8)) 0 _ B1
  generalize W1.setCells w.heap.size 0 (l.map (Value.int .u8)) = W2 at hcp G2 B2
  have HG := Lib.hid G2
  have HB := Lib.hid B2
  clear G2 B2 A1 Y1 B1 hy hW1
  go_enter Try.func89, Try.ntmps89
  go_wp2
  go_ret
  exact ⟨rfl, HG.out, HB.out⟩
end Go.Proofs.Ytmgldpiagclcnaa
