/- The bytes of a node, by the program. Written by wip/gen/src.py. -/
import Derived.Test.YtmkddiconpacnaaNodT
import Derived.Test.YtmkddiconpacnaaNbS
import Derived.Deep.RegionLaw
import Derived.Shelf.Spec.SlicesInsert
namespace Go.Proofs.Ytmkddiconpacnaa
open Go.ChangeShapes Go.WideShapes Go.ChangeAt Go.RowKit
set_option linter.unusedVariables false
set_option linter.unusedSimpArgs false
theorem sizeU8 : (Try.prog.info? 5).map (·.size) = some 1 := by kernel_rfl
theorem sizeRoom : (Try.prog.info? 148).map (·.size) = some 153 := by kernel_rfl
def z153 : List Int := List.replicate 153 0
theorem z153_ints : ints .u8 z153 = Try.zeroCells148 := by kernel_rfl
theorem copy_range {W : World} {G R N so o c : Nat} {RT : TypeId} {f : Nat → Value} {x : List Int} (hx : x.length = 32) (hr : W.rowIs R RT N f) (hs : W.rangeAt G so (x.map (Value.int .u8))) (ho : o + 32 ≤ N) (ty : TypeId) :
    (Builtin.copy_ #[40, 40] ty #[.slice (some ⟨R, o, none⟩) 32 32, .slice (some ⟨G, so, none⟩) 32 c]).run Try.prog W = .ok (goInt 32) (W.setCells R o (x.map (Value.int .u8))) := by
  have h := run_copy_cells (P := Try.prog) W 40 40 ty 5 R o 32 32 ⟨G, so, none⟩ 32 c (x.map (Value.int .u8)) Try.underlying40 sizeU8 (by rw [List.length_map, hx]; rfl)
    (fun j v hj => by rw [addrE]; exact hs j v hj) (fun j hj => by rw [List.length_map, hx] at hj; rw [hr.cell (i := o + j) (by omega)]; rfl) (fun j hj => hr.frozen _) (fun v hv => by obtain ⟨z, _, rfl⟩ := List.mem_map.1 hv; rfl)
  rw [List.length_map, hx] at h
  exact h
theorem btS_cells (s : ByteArray) : (s.data.toList.map fun x => Value.int .u8 (x.toNat : Int)) = (btS s).map (Value.int .u8) := by
  unfold btS
  rw [List.map_map]
  rfl
theorem someD {l : List Value} {k : Nat} (h : k < l.length) : l[k]? = some (l[k]?.getD default) := by rw [List.getElem?_eq_getElem h]; rfl
theorem six (A B : List Value) (x : Value) (C D E : List Value) (ha : A.length = 32) (hb : B.length = 32) (i : Nat) (hi : i < 65 + C.length + D.length + E.length) : (A ++ B ++ [x] ++ C ++ D ++ E)[i]? = some (if 65 + C.length ≤ i ∧ i < 65 + C.length + D.length then D[i - (65 + C.length)]?.getD default else if 65 ≤ i ∧ i < 65 + C.length then C[i - 65]?.getD default else if i = 64 then x else if 32 ≤ i ∧ i < 32 + B.length then B[i - 32]?.getD default else if 0 ≤ i ∧ i < 0 + A.length then A[i - 0]?.getD default else E[i - (65 + C.length + D.length)]?.getD default) := by
  simp only [List.append_assoc]
  by_cases h1 : i < 32
  · rw [if_neg (by omega), if_neg (by omega), if_neg (by omega), if_neg (by omega), if_pos (by omega), List.getElem?_append_left (by omega), Nat.sub_zero]
    exact someD (by omega)
  rw [List.getElem?_append_right (by omega), ha]
  by_cases h2 : i < 64
  · rw [if_neg (by omega), if_neg (by omega), if_neg (by omega), if_pos (by omega), List.getElem?_append_left (by omega)]
    exact someD (by omega)
  rw [List.getElem?_append_right (by omega), hb]
  by_cases h3 : i = 64
  · subst h3
    rw [if_neg (by omega), if_neg (by omega), if_pos rfl]
    rfl
  rw [show i - 32 - 32 = (i - 65) + 1 by omega, List.singleton_append, List.getElem?_cons_succ]
  by_cases h4 : i < 65 + C.length
  · rw [if_neg (by omega), if_pos (by omega), List.getElem?_append_left (by omega)]
    exact someD (by omega)
  rw [List.getElem?_append_right (by omega)]
  by_cases h5 : i < 65 + C.length + D.length
  · rw [if_pos (by omega), List.getElem?_append_left (by omega), show i - 65 - C.length = i - (65 + C.length) by omega]
    exact someD (by omega)
  rw [List.getElem?_append_right (by omega), if_neg (by omega), if_neg (by omega), if_neg h3, if_neg (by omega), if_neg (by omega), show i - 65 - C.length - D.length = i - (65 + C.length + D.length) by omega]
  exact someD (by omega)
set_option maxRecDepth 100000 in
set_option maxHeartbeats 8000000 in
theorem nb_impl (l r : List Int) (nm vl : ByteArray) (hl : l.length = 32) (hr : r.length = 32) (hn1 : 1 ≤ nm.size) (hn : nm.size ≤ 24) (hv : vl.size ≤ 64) (w : World) :
    Calls Try.prog 80 #[.agg (nodC l r nm vl)] w fun e w' => ∃ g L, e = .returned (.slice (some ⟨g, 0, none⟩) (65 + nm.size + vl.size) (65 + nm.size + vl.size)) ∧ w.heap.size ≤ g ∧ w'.heap[g]? = some (.cells (ints .u8 (nodB l r nm vl ++ L)) 148) ∧ Below w.heap.size w w' := by
  have A0 := heap_alloc2_old w (.cells (nodC l r nm vl) 45) (.cells (ints .u8 z153) 148)
  have A1 := heap_alloc2_new w (.cells (nodC l r nm vl) 45) (.cells (ints .u8 z153) 148)
  have B0 := ((Below.refl w.heap.size w).alloc (Nat.le_refl _) (.cells (nodC l r nm vl) 45)).alloc (by simp) (.cells (ints .u8 z153) 148)
  obtain ⟨W1, hW1⟩ : ∃ W1, (w.alloc (.cells (nodC l r nm vl) 45)).alloc (.cells (ints .u8 z153) 148) = W1 := ⟨_, rfl⟩
  rw [hW1] at A0 A1 B0
  rw [z153_ints] at hW1
  have R1 := rowIs_block A1
  have e0 : (ints .u8 z153).size = 153 := rfl
  rw [e0] at R1
  have D1 := R1.drew
  have hcp1 := fun ty => copy_range (c := 32) (o := 0) hl D1 (nod_left (w := W1.drew) hl A0) (by omega) ty
  obtain ⟨W2, hW2⟩ : ∃ W2, W2 = W1.drew.setCells (w.heap.size + 1) 0 (l.map (Value.int .u8)) := ⟨_, rfl⟩
  have R2 := Go.rowIs_setCells (l.map (Value.int .u8)) 0 _ _ D1
  have A2 := (heap_setCells_far (g := w.heap.size + 1) (g' := w.heap.size) (by omega) (l.map (Value.int .u8)) 0 W1.drew).trans A0
  have B2 := below_setsC (g := w.heap.size + 1) (by omega) (l.map (Value.int .u8)) 0 B0.drew
  rw [← hW2] at hcp1 R2 A2 B2
  have D2 := R2.drew
  have hcp2 := fun ty => copy_range (c := 32) (o := 32) hr D2 (nod_right (w := W2.drew) hl hr A2) (by omega) ty
  obtain ⟨W3, hW3⟩ : ∃ W3, W3 = W2.drew.setCells (w.heap.size + 1) 32 (r.map (Value.int .u8)) := ⟨_, rfl⟩
  have R3 := Go.rowIs_setCells (r.map (Value.int .u8)) 32 _ _ D2
  have A3 := (heap_setCells_far (g := w.heap.size + 1) (g' := w.heap.size) (by omega) (r.map (Value.int .u8)) 32 W2.drew).trans A2
  have B3 := below_setsC (g := w.heap.size + 1) (by omega) (r.map (Value.int .u8)) 32 B2.drew
  rw [← hW3] at hcp2 R3 A3 B3
  have n0 : w.heap.size ≠ w.heap.size + 1 := by omega
  -- the byte with the length
  obtain ⟨W4, hW4⟩ : ∃ W4, W4 = W3.setCell ⟨w.heap.size + 1, 64, none⟩ (.int .u8 (nm.size : Int)) := ⟨_, rfl⟩
  have R4 := R3.set 64 (.int .u8 (nm.size : Int))
  have A4 : (W3.setCell ⟨w.heap.size + 1, 64, none⟩ (.int .u8 (nm.size : Int))).heap[w.heap.size]? = _ := (heap_setCell_other _ _ _ _ n0).trans A3
  have B4 := B3.setCell (p := ⟨w.heap.size + 1, 64, none⟩) (by show w.heap.size ≤ w.heap.size + 1; omega) (.int .u8 (nm.size : Int))
  have c64 : W3.cell? ⟨w.heap.size + 1, 64, none⟩ = some _ := R3.cell (i := 64) (by omega)
  have f64 : W3.frozen? ⟨w.heap.size + 1, 64, none⟩ = false := R3.frozen 64
  rw [← hW4] at R4 A4 B4
  obtain ⟨W5, hW5⟩ : ∃ W5, W5 = W4.drew.setCells (w.heap.size + 1) 65 (nm.data.toList.map fun x => Value.int .u8 (x.toNat : Int)) := ⟨_, rfl⟩
  have R5 := Go.rowIs_setCells (nm.data.toList.map fun x => Value.int .u8 (x.toNat : Int)) 65 _ _ R4.drew
  have A5 := (heap_setCells_far (g := w.heap.size + 1) (g' := w.heap.size) n0 (nm.data.toList.map fun x => Value.int .u8 (x.toNat : Int)) 65 W4.drew).trans A4
  have B5 := below_setsC (g := w.heap.size + 1) (by omega) (nm.data.toList.map fun x => Value.int .u8 (x.toNat : Int)) 65 B4.drew
  have D4 := R4.drew
  rw [← hW5] at R5 A5 B5
  have D5 := R5.drew
  have R6 := Go.rowIs_setCells (vl.data.toList.map fun x => Value.int .u8 (x.toNat : Int)) (65 + nm.size) _ _ D5
  have B6 := below_setsC (g := w.heap.size + 1) (by omega) (vl.data.toList.map fun x => Value.int .u8 (x.toNat : Int)) (65 + nm.size) B5.drew
  obtain ⟨W6, hW6⟩ : ∃ W6, W6 = W5.drew.setCells (w.heap.size + 1) (65 + nm.size) (vl.data.toList.map fun x => Value.int .u8 (x.toNat : Int)) := ⟨_, rfl⟩
  rw [← hW6] at R6 B6
  have hz8 : ∀ w, (Go.sizeOf 5).run Try.prog w = .ok 1 w := fun w => by
    obtain ⟨i, hi, _, h1, _⟩ := infoB
    simp [sizeOf, typeInfo, hi, h1]
  have S5 := Lib.hid (And.intro (show nm.size ≤ nm.size from Nat.le_refl _) (And.intro (show ∀ j, j < nm.size → (W4.drew.cell? ⟨w.heap.size + 1, 65 + j, none⟩).isSome = true from fun j hj => by rw [D4.cell (i := 65 + j) (by omega)]; rfl) (show ∀ j, j < nm.size → W4.drew.frozen? ⟨w.heap.size + 1, 65 + j, none⟩ = false from fun j _ => D4.frozen _)))
  have S6 := Lib.hid (And.intro (show vl.size ≤ 153 - (65 + nm.size) by omega) (And.intro (show ∀ j, j < vl.size → (W5.drew.cell? ⟨w.heap.size + 1, 65 + nm.size + j, none⟩).isSome = true from fun j hj => by rw [D5.cell (i := 65 + nm.size + j) (by omega)]; rfl) (show ∀ j, j < vl.size → W5.drew.frozen? ⟨w.heap.size + 1, 65 + nm.size + j, none⟩ = false from fun j _ => D5.frozen _)))
  obtain ⟨t3, _⟩ := nod_texts hl hr A3
  obtain ⟨t4, _⟩ := nod_texts hl hr A4
  obtain ⟨_, t5⟩ := nod_texts hl hr A5
  have T3 := Lib.hid t3
  have T4 := Lib.hid t4
  have T5 := Lib.hid t5
  have X := Lib.hid (And.intro R6 B6)
  have HW2 := Lib.hid hW2
  have HW3 := Lib.hid hW3
  have HW4 := Lib.hid hW4
  have HW5 := Lib.hid hW5
  have HW6 := Lib.hid hW6
  have C1 := Lib.hid hcp1
  have C2 := Lib.hid hcp2
  have C64 := Lib.hid c64
  have F64 := Lib.hid f64
  have HL := Lib.hid hl
  have HR := Lib.hid hr
  clear hW2 hW3 hW4 hW5 hW6 t3 t4 t5 hcp1 hcp2 c64 f64 R1 R2 R3 R4 R5 R6 A0 A1 A2 A3 A4 A5 B0 B2 B3 B4 B5 B6 D1 D2 D4 D5 hl hr
  go_enter Try.func80, Try.ntmps80
  go_wp2_with fail
  go_region_law (refine step_copy_runI rfl (.tmp 5) (.tmp 7) 40 40 rfl (.slice (some ⟨w.heap.size + 1, 0, none⟩) 32 32) (.slice (some ⟨w.heap.size, 0, none⟩) 32 32) (by simp [Act.eval, Act.put]) (by simp [Act.eval, Act.put]) (C1.out _) ?_)
  go_wp2_with fail
  go_region_law (refine step_copy_runI rfl (.tmp 9) (.tmp 11) 40 40 rfl (.slice (some ⟨w.heap.size + 1, 32, none⟩) 32 32) (.slice (some ⟨w.heap.size, 32, none⟩) 32 32) (by simp [Act.eval, Act.put]) (by simp [Act.eval, Act.put]) (C2.out _) ?_)
  have hW4 := HW4.out.symm
  have c64 := C64.out
  have f64 := F64.out
  have t3 := T3.out
  have t4 := T4.out
  have s0 : (0 : Int) ≤ (nm.size : Int) := by omega
  have s1 : (nm.size : Int) ≤ 24 := by omega
  have s2 : (nm.size : Int) % 256 = (nm.size : Int) := by omega
  go_wp2_with fail
  clear hW4 c64 f64 t3
  have hne : ¬ nm = ByteArray.empty := fun h => by rw [h] at hn1; exact absurd hn1 (by decide)
  have m0 : (65 + (nm.size : Int)).toNat = 65 + nm.size := by omega
  have m1 : 65 + nm.size - 65 = nm.size := by omega
  have m2 : ¬ 65 + nm.size = 65 := by omega
  have m3 : (0 : Int) ≤ 65 + (nm.size : Int) := by omega
  have m4 : (65 : Int) ≤ 65 + (nm.size : Int) := by omega
  have m5 : 65 + (nm.size : Int) ≤ 153 := by omega
  have m6 : ¬ 153 = 65 + nm.size := by omega
  go_region_law (refine step_copy_string rfl (.tmp 26) (.tmp 29) 40 9 rfl 5 Try.underlying40 hz8 (w.heap.size + 1) 65 nm.size nm.size (by simp [Act.eval, Act.put, hne]) nm (by simp [Act.eval, Act.put]) S5.out.1 S5.out.2.1 S5.out.2.2 ?_; rw [← HW5.out])
  clear t4
  have t5 := T5.out
  go_wp2_with fail
  have v0 : (0 : Int) ≤ (vl.size : Int) := by omega
  have v1 : (vl.size : Int) ≤ 64 := by omega
  have k0 : (65 + (nm.size : Int) + (vl.size : Int)).toNat = 65 + nm.size + vl.size := by omega
  have k1 : (0 : Int) ≤ 65 + (nm.size : Int) + (vl.size : Int) := by omega
  have k2 : 65 + (nm.size : Int) + (vl.size : Int) ≤ 153 := by omega
  go_region_law (refine step_copy_string rfl (.tmp 33) (.tmp 36) 40 9 rfl 5 Try.underlying40 hz8 (w.heap.size + 1) (65 + nm.size) (153 - (65 + nm.size)) (153 - (65 + nm.size)) (by simp [Act.eval, Act.put, m6]) vl (by simp [Act.eval, Act.put]) S6.out.1 S6.out.2.1 S6.out.2.2 ?_; rw [← HW6.out])
  clear t5
  go_wp2_with fail
  go_ret
  refine ⟨w.heap.size + 1, List.replicate (153 - (65 + nm.size + vl.size)) 0, rfl, by omega, ?_, X.out.2⟩
  refine rowIs_exact X.out.1 (by rw [ints_size, List.length_append, nodB_len nm vl HL.out HR.out, List.length_replicate]; omega) fun i hi => ?_
  have hA : (ints .u8 (nodB l r nm vl ++ List.replicate (153 - (65 + nm.size + vl.size)) 0))[i]? = (l.map (Value.int .u8) ++ r.map (Value.int .u8) ++ [Value.int .u8 (nm.size : Int)] ++ (btS nm).map (Value.int .u8) ++ (btS vl).map (Value.int .u8) ++ List.replicate (153 - (65 + nm.size + vl.size)) (Value.int .u8 0))[i]? := by
    unfold ints nodB
    simp only [List.map_append, List.map_cons, List.map_nil, List.map_replicate, List.getElem?_toArray]
  rw [hA, six _ _ _ _ _ _ (by simp [HL.out]) (by simp [HR.out]) i (by simp [btS_len]; omega)]
  simp only [btS_cells]
  have hE : ∀ k, k < 153 - (65 + nm.size + vl.size) → (List.replicate (153 - (65 + nm.size + vl.size)) (Value.int .u8 0))[k]?.getD default = Value.int .u8 0 := fun k hk => by simp [hk]
  have hZ : (ints .u8 z153)[i]?.getD default = Value.int .u8 0 := by
    rw [ints_get _ _ _ (show i < z153.length from hi), show z153[i]?.getD 0 = 0 from by rw [show z153 = List.replicate 153 0 from rfl, List.getElem?_replicate]; split <;> rfl]
    rfl
  rw [hZ]
  congr 1
  simp only [List.length_map, btS_len, HL.out, HR.out]
  by_cases q1 : 65 + nm.size ≤ i ∧ i < 65 + nm.size + vl.size
  · rw [if_pos q1, if_pos q1]
  · rw [if_neg q1, if_neg q1]
    by_cases q2 : 65 ≤ i ∧ i < 65 + nm.size
    · rw [if_pos q2, if_pos q2]
    · rw [if_neg q2, if_neg q2]
      by_cases q3 : i = 64
      · rw [if_pos q3, if_pos q3]
      · rw [if_neg q3, if_neg q3]
        by_cases q4 : 32 ≤ i ∧ i < 32 + 32
        · rw [if_pos q4, if_pos q4]
        · rw [if_neg q4, if_neg q4]
          by_cases q5 : 0 ≤ i ∧ i < 0 + 32
          · rw [if_pos q5, if_pos q5]
          · rw [if_neg q5, if_neg q5]
            exact hE _ (by omega)
end Go.Proofs.Ytmkddiconpacnaa
