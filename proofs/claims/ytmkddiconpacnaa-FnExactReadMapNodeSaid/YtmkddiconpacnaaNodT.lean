/- Nodes of maps: brought over, measured, compared. Written by wip/gen/src.py. -/
import Derived.Test.YtmkddiconpacnaaNod
import Derived.Test.YtmkddiconpacnaaEnt
import Derived.Test.YtmkddiconpacnaaSel
import Derived.Lib.LazyBuf
namespace Go.Proofs.Ytmkddiconpacnaa
open Go.ChangeShapes Go.WideShapes Go.ChangeAt Go.RowKit
set_option linter.unusedVariables false
set_option linter.unusedSimpArgs false
theorem nodC_get0 {l r : List Int} {nm vl : ByteArray} (hl : l.length = 32) (hr : r.length = 32) (i : Nat) : (nodC l r nm vl)[i]? = if i < 32 then some (.int .u8 (l[i]?.getD 0)) else if i < 64 then some (.int .u8 (r[i - 32]?.getD 0)) else if i = 64 then some (.string nm) else if i = 65 then some (.string vl) else none := by
  rw [nodC_at, nodL]
  by_cases h : i < 32
  · rw [if_pos h, List.getElem?_append_left (by simp [hl, h]), List.getElem?_map, List.getElem?_eq_getElem (by omega)]; rfl
  · rw [if_neg h, List.getElem?_append_right (by simp [hl]; omega), List.length_map, hl]
    by_cases h2 : i < 64
    · rw [if_pos h2, List.getElem?_append_left (by simp [hr]; omega), List.getElem?_map, List.getElem?_eq_getElem (by omega)]; rfl
    · rw [if_neg h2, List.getElem?_append_right (by simp [hr]; omega), List.length_map, hr]
      by_cases h3 : i = 64
      · subst h3; rw [if_pos rfl]; rfl
      · rw [if_neg h3]
        by_cases h4 : i = 65
        · subst h4; rw [if_pos rfl]; rfl
        · rw [if_neg h4, List.getElem?_eq_none (by simp; omega)]
theorem rowIs_exact {w : World} {g : Nat} {T : TypeId} {N : Nat} {f : Nat → Value} {A : Array Value} (h : w.rowIs g T N f) (hs : A.size = N) (hA : ∀ i, i < N → A[i]? = some (f i)) : w.heap[g]? = some (.cells A T) := by
  obtain ⟨c, hg, hcs, hc⟩ := h
  rw [hg]
  congr 2
  apply Array.ext_getElem?
  intro i
  by_cases hi : i < N
  · rw [hc i hi, hA i hi]
  · rw [Array.getElem?_eq_none (by omega), Array.getElem?_eq_none (by omega)]
theorem rowIs_block {w : World} {g : Nat} {T : TypeId} {A : Array Value} (h : w.heap[g]? = some (.cells A T)) : w.rowIs g T A.size (fun i => A[i]?.getD default) :=
  ⟨A, h, rfl, fun i hi => by show A[i]? = some (A[i]?.getD default); rw [Array.getElem?_eq_getElem hi]; rfl⟩
theorem nod_set0 {w : World} {g : Nat} {l l' r : List Int} {nm vl : ByteArray} {T : TypeId} (hl : l.length = 32) (hl' : l'.length = 32) (hr : r.length = 32) (h : w.heap[g]? = some (.cells (nodC l r nm vl) T)) :
    (w.setCells g 0 (l'.map (Value.int .u8))).heap[g]? = some (.cells (nodC l' r nm vl) T) := by
  have hb := Go.rowIs_setCells (l'.map (Value.int .u8)) 0 _ _ (rowIs_block h)
  refine rowIs_exact hb (by rw [nodC_size nm vl hl hr, nodC_size nm vl hl' hr]) fun i hi => ?_
  rw [nodC_size nm vl hl hr] at hi
  rw [nodC_get0 hl' hr, nodC_get0 hl hr]
  simp only [List.length_map, hl', Nat.zero_add, Nat.sub_zero, Nat.zero_le, true_and]
  by_cases h1 : i < 32
  · rw [if_pos h1, if_pos h1, List.getElem?_map, List.getElem?_eq_getElem (by omega)]; rfl
  · rw [if_neg h1, if_neg h1]
    split
    · rfl
    · split
      · rfl
      · split
        · rfl
        · omega
theorem nod_set1 {w : World} {g : Nat} {l r r' : List Int} {nm vl : ByteArray} {T : TypeId} (hl : l.length = 32) (hr : r.length = 32) (hr' : r'.length = 32) (h : w.heap[g]? = some (.cells (nodC l r nm vl) T)) :
    (w.setCells g 32 (r'.map (Value.int .u8))).heap[g]? = some (.cells (nodC l r' nm vl) T) := by
  have hb := Go.rowIs_setCells (r'.map (Value.int .u8)) 32 _ _ (rowIs_block h)
  refine rowIs_exact hb (by rw [nodC_size nm vl hl hr, nodC_size nm vl hl hr']) fun i hi => ?_
  rw [nodC_size nm vl hl hr] at hi
  rw [nodC_get0 hl hr', nodC_get0 hl hr]
  simp only [List.length_map, hr']
  by_cases h1 : i < 32
  · rw [if_pos h1, if_neg (by omega), if_pos h1]; rfl
  · rw [if_neg h1]
    by_cases h2 : i < 64
    · rw [if_pos h2, if_pos (by omega), List.getElem?_map, List.getElem?_eq_getElem (by omega)]; rfl
    · rcases (show i = 64 ∨ i = 65 by omega) with rfl | rfl <;> rfl
theorem nod_set2 {w : World} {g : Nat} {l r : List Int} {nm vl nm' vl' : ByteArray} {T : TypeId} (hl : l.length = 32) (hr : r.length = 32) (h : w.heap[g]? = some (.cells (nodC l r nm vl) T)) :
    ((w.setCell ⟨g, 64, none⟩ (.string nm')).setCell ⟨g, 65, none⟩ (.string vl')).heap[g]? = some (.cells (nodC l r nm' vl') T) := by
  rw [heap_setCell_same _ _ _ _ _ _ (heap_setCell_same _ _ _ _ _ _ h)]
  congr 2
  apply Array.ext_getElem?
  intro i
  rw [Array.getElem?_setIfInBounds, Array.getElem?_setIfInBounds, nodC_get0 hl hr, nodC_get0 hl hr, Array.size_setIfInBounds, nodC_size nm vl hl hr]
  by_cases h5 : 65 = i
  · subst h5; simp
  · rw [if_neg h5]
    by_cases h4 : 64 = i
    · subst h4; simp
    · rw [if_neg h4, if_neg (show ¬ i = 64 by omega), if_neg (show ¬ i = 65 by omega), if_neg (show ¬ i = 64 by omega), if_neg (show ¬ i = 65 by omega)]
theorem nod_there {w : World} {g o m : Nat} {l r : List Int} {nm vl : ByteArray} {T : TypeId} (hl : l.length = 32) (hr : r.length = 32) (h : w.heap[g]? = some (.cells (nodC l r nm vl) T)) (ho : o + m ≤ 66) : w.there g o m := fun j hj => by
  constructor
  · rw [cell_of_row w g (o + j) _ _ _ h, Array.getElem?_eq_getElem (by rw [nodC_size nm vl hl hr]; omega)]; rfl
  · exact frozen_of_row w g (o + j) _ _ h
theorem nodZ : nodC z32 z32 ⟨#[]⟩ ⟨#[]⟩ = Try.zeroCells45 := by kernel_rfl
theorem below_setsC {B g : Nat} {a w : World} (hg : B ≤ g) (vs : List Value) (o : Nat) (h : Below B a w) : Below B a (w.setCells g o vs) := below_setCells_k hg vs o w h
set_option maxRecDepth 100000 in
set_option maxHeartbeats 2000000 in
theorem toNode (l r : List Int) (nm vl : ByteArray) (hl : l.length = 32) (hr : r.length = 32) (w : World) :
    Calls Try.prog 26 #[.agg (nodC l r nm vl)] w fun e w' => e = .returned (.agg (nodC l r nm vl)) ∧ Below w.heap.size w w' := by
  have HL := Lib.hid hl
  have HR := Lib.hid hr
  have HS := Lib.hid (nodC_size nm vl hl hr)
  have Z0 := Lib.hid nodZ
  obtain ⟨W0, hW0⟩ : ∃ W0, ((w.alloc (.cells (nodC l r nm vl) 38)).alloc (.cells (nodC z32 z32 ⟨#[]⟩ ⟨#[]⟩) 45)).alloc (.cells (nodC z32 z32 ⟨#[]⟩ ⟨#[]⟩) 45) = W0 := ⟨_, rfl⟩
  have A0 := heap3_0 w (.cells (nodC l r nm vl) 38) (.cells (nodC z32 z32 ⟨#[]⟩ ⟨#[]⟩) 45) (.cells (nodC z32 z32 ⟨#[]⟩ ⟨#[]⟩) 45)
  have A1 := heap3_1 w (.cells (nodC l r nm vl) 38) (.cells (nodC z32 z32 ⟨#[]⟩ ⟨#[]⟩) 45) (.cells (nodC z32 z32 ⟨#[]⟩ ⟨#[]⟩) 45)
  have A2 := heap3_2 w (.cells (nodC l r nm vl) 38) (.cells (nodC z32 z32 ⟨#[]⟩ ⟨#[]⟩) 45) (.cells (nodC z32 z32 ⟨#[]⟩ ⟨#[]⟩) 45)
  have B0 := (((Below.refl w.heap.size w).alloc (Nat.le_refl _) (.cells (nodC l r nm vl) 38)).alloc (by simp) (.cells (nodC z32 z32 ⟨#[]⟩ ⟨#[]⟩) 45)).alloc (by simp; omega) (.cells (nodC z32 z32 ⟨#[]⟩ ⟨#[]⟩) 45)
  rw [hW0] at A0 A1 A2 B0
  rw [Z0.out] at hW0
  have X0 := Lib.hid A0
  have X1 := Lib.hid A1
  have X2 := Lib.hid A2
  have B0 := Lib.hid B0
  have R0 := Lib.hid (nod_left hl A0)
  clear A0 A1 A2 hl hr
  go_enter Try.func26, Try.ntmps26
  go_wp2_with (refine wpList_load_ints rfl 36 (.tmp 4) rfl (w.heap.size) 0 rfl .u8 l _ R0.out Try.underlying36 rfl (by rw [HL.out]; exact sizeA32) ?_)
  refine (toKey_ l HL.out _).mono ?_
  rintro e w1 ⟨rfl, hb⟩
  have B1 := Lib.hid (below_call B0.out B0.out.size hb)
  have Y0 := Lib.hid (keep_block X0.out hb)
  have Y1 := Lib.hid (keep_block X1.out hb)
  have Y2 := Lib.hid (keep_block X2.out hb)
  clear hb hW0 X0 X1 X2 R0
  have T2 := Lib.hid (nod_there z32_len z32_len Y2.out (show 0 + 32 ≤ 66 by omega))
  have V2 := Lib.hid (nod_set0 z32_len HL.out z32_len Y2.out)
  have V1 := Lib.hid ((heap_setCells_far (g := w.heap.size + 1 + 1) (g' := w.heap.size + 1) (by omega) (l.map (Value.int .u8)) 0 w1).trans Y1.out)
  have V0 := Lib.hid ((heap_setCells_far (g := w.heap.size + 1 + 1) (g' := w.heap.size) (by omega) (l.map (Value.int .u8)) 0 w1).trans Y0.out)
  have B2 := Lib.hid (below_setsC (g := w.heap.size + 1 + 1) (by omega) (l.map (Value.int .u8)) 0 B1.out)
  have R1 := Lib.hid (nod_right HL.out HR.out V0.out)
  go_wp2_with (first | (refine wpList_store_ints rfl 43 (.tmp 7) (.tmp 6) rfl (w.heap.size + 1 + 1) 0 .u8 l rfl rfl (by rw [HL.out]; exact T2.out) (by rw [HL.out]; exact sizeKey) ?_) | (refine wpList_load_ints rfl 36 (.tmp 8) rfl (w.heap.size) 32 rfl .u8 r _ R1.out Try.underlying36 rfl (by rw [HR.out]; exact sizeA32) ?_))
  generalize w1.setCells (w.heap.size + 1 + 1) 0 (l.map (Value.int .u8)) = w2 at V0 V1 V2 B2 R1 ⊢
  clear Y0 Y1 Y2 T2 B1
  refine (toKey_ r HR.out _).mono ?_
  rintro e w3 ⟨rfl, hb⟩
  have B3 := Lib.hid (below_call B2.out B2.out.size hb)
  have Y0 := Lib.hid (keep_block V0.out hb)
  have Y1 := Lib.hid (keep_block V1.out hb)
  have Y2 := Lib.hid (keep_block V2.out hb)
  clear hb V0 V1 V2 R1 B2
  have T2 := Lib.hid (nod_there HL.out z32_len Y2.out (show 32 + 32 ≤ 66 by omega))
  have V2 := Lib.hid (nod_set1 HL.out z32_len HR.out Y2.out)
  have V1 := Lib.hid ((heap_setCells_far (g := w.heap.size + 1 + 1) (g' := w.heap.size + 1) (by omega) (r.map (Value.int .u8)) 32 w3).trans Y1.out)
  have V0 := Lib.hid ((heap_setCells_far (g := w.heap.size + 1 + 1) (g' := w.heap.size) (by omega) (r.map (Value.int .u8)) 32 w3).trans Y0.out)
  have B4 := Lib.hid (below_setsC (g := w.heap.size + 1 + 1) (by omega) (r.map (Value.int .u8)) 32 B3.out)
  have N0 := nod_texts HL.out HR.out V0.out
  obtain ⟨c64, c65⟩ := N0
  go_wp2_with (refine wpList_store_ints rfl 43 (.tmp 11) (.tmp 10) rfl (w.heap.size + 1 + 1) 32 .u8 r rfl rfl (by rw [HR.out]; exact T2.out) (by rw [HR.out]; exact sizeKey) ?_)
  generalize w3.setCells (w.heap.size + 1 + 1) 32 (r.map (Value.int .u8)) = w4 at V0 V1 V2 B4 c64 c65 ⊢
  clear Y0 Y1 Y2 T2 B3 c64 c65
  refine (toEnt nm vl _).mono ?_
  rintro e w5 ⟨rfl, hb⟩
  have B5 := Lib.hid (below_call B4.out B4.out.size hb)
  have Y1 := Lib.hid (keep_block V1.out hb)
  have Y2 := Lib.hid (keep_block V2.out hb)
  clear hb V0 V1 V2 B4
  have V2 := Lib.hid (nod_set2 (nm' := nm) (vl' := vl) HL.out HR.out Y2.out)
  have V1 := Lib.hid (show ((w5.setCell ⟨w.heap.size + 1 + 1, 64, none⟩ (.string nm)).setCell ⟨w.heap.size + 1 + 1, 65, none⟩ (.string vl)).heap[w.heap.size + 1]? = some (.cells (nodC z32 z32 ⟨#[]⟩ ⟨#[]⟩) 45) from by rw [heap_setCell_other _ _ _ _ (by show w.heap.size + 1 ≠ w.heap.size + 1 + 1; omega), heap_setCell_other _ _ _ _ (by show w.heap.size + 1 ≠ w.heap.size + 1 + 1; omega)]; exact Y1.out)
  have B6 := Lib.hid (show Below w.heap.size w ((w5.setCell ⟨w.heap.size + 1 + 1, 64, none⟩ (.string nm)).setCell ⟨w.heap.size + 1 + 1, 65, none⟩ (.string vl)) from (B5.out.setCell (by show w.heap.size ≤ w.heap.size + 1 + 1; omega) _).setCell (by show w.heap.size ≤ w.heap.size + 1 + 1; omega) _)
  obtain ⟨d64, d65⟩ := nod_texts HL.out HR.out Y2.out
  have f64 := frozen_of_row w5 (w.heap.size + 1 + 1) 64 _ _ Y2.out
  have f65 := frozen_of_row w5 (w.heap.size + 1 + 1) 65 _ _ Y2.out
  go_wp2_with (first | (refine wpList_load_row rfl 45 _ rfl (w.heap.size + 1 + 1) rfl 45 (nodC l r nm vl) (0, 0) _ V2.out Try.underlying45 rfl (by rw [HS.out]; exact sizeNode) ?_) | (refine wpList_store_row rfl 45 _ _ rfl (w.heap.size + 1) (nodC l r nm vl) rfl rfl 45 (nodC z32 z32 ⟨#[]⟩ ⟨#[]⟩) V1.out (by rw [HS.out]; exact sizeNode) (by rw [HS.out, nodC_size _ _ z32_len z32_len]) (nodC_one _ _ _ _) ?_))
  refine bodyPost_ret (results_cell_row rfl _ _ (w.heap.size + 1) 45 (nodC l r nm vl) (0, 0) _ rfl (setRow_heap _ _ _ _ _ _ V1.out) Try.underlying45 rfl (by rw [HS.out]; exact sizeNode)) rfl ⟨rfl, ?_⟩
  exact Below.setRow B6.out (by omega) _
end Go.Proofs.Ytmkddiconpacnaa
