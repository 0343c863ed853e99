/- Commits: opened, brought over, measured, compared. Written by hand after XNodT. -/
import Derived.Test.YtnnplebebhjfaaaOpen
import Derived.Test.YtnnplebebhjfaaaKeys
import Derived.Test.YtnnplebebhjfaaaStrs
import Derived.Lib.LazyBuf
namespace Go.Proofs.Ytnnplebebhjfaaa
open Go.ChangeShapes Go.WideShapes Go.ChangeAt Go.RowKit
set_option linter.unusedVariables false
set_option linter.unusedSimpArgs false
theorem rowIs_exactU {w : World} {g : Nat} {T : TypeId} {N : Nat} {f : Nat → Value} {A : Array Value} (h : w.rowIs g T N f) (hs : A.size = N) (hA : ∀ i, i < N → A[i]? = some (f i)) : w.heap[g]? = some (.cells A T) := by
  obtain ⟨c, hg, hcs, hc⟩ := h
  rw [hg]
  congr 2
  apply Array.ext_getElem?
  intro i
  by_cases hi : i < N
  · rw [hc i hi, hA i hi]
  · rw [Array.getElem?_eq_none (by omega), Array.getElem?_eq_none (by omega)]
theorem rowIs_blockU {w : World} {g : Nat} {T : TypeId} {A : Array Value} (h : w.heap[g]? = some (.cells A T)) : w.rowIs g T A.size (fun i => A[i]?.getD default) :=
  ⟨A, h, rfl, fun i hi => by show A[i]? = some (A[i]?.getD default); rw [Array.getElem?_eq_getElem hi]; rfl⟩
/-- The cells of a commit: its root, the slice of its parents, its number, its note. -/
def comL (r : List Int) (v : Value) (z : Int) (nt : ByteArray) : List Value := r.map (Value.int .u8) ++ [v, .int .i64 z, .string nt]
def comC (r : List Int) (v : Value) (z : Int) (nt : ByteArray) : Array Value := (comL r v z nt).toArray
theorem comC_size {r : List Int} (v : Value) (z : Int) (nt : ByteArray) (hr : r.length = 32) : (comC r v z nt).size = 35 := by simp [comC, comL, hr]
theorem comC_get0 {r : List Int} {v : Value} {z : Int} {nt : ByteArray} (hr : r.length = 32) (i : Nat) : (comC r v z nt)[i]? = if i < 32 then some (.int .u8 (r[i]?.getD 0)) else if i = 32 then some v else if i = 33 then some (.int .i64 z) else if i = 34 then some (.string nt) else none := by
  rw [comC, List.getElem?_toArray, comL]
  by_cases h : i < 32
  · rw [if_pos h, List.getElem?_append_left (by simp [hr, h]), List.getElem?_map, List.getElem?_eq_getElem (by omega)]; rfl
  · rw [if_neg h, List.getElem?_append_right (by simp [hr]; omega), List.length_map, hr]
    by_cases h2 : i = 32
    · subst h2; rfl
    · rw [if_neg h2]
      by_cases h3 : i = 33
      · subst h3; rfl
      · rw [if_neg h3]
        by_cases h4 : i = 34
        · subst h4; rfl
        · rw [if_neg h4, List.getElem?_eq_none (by simp; omega)]
theorem comC_one (r : List Int) (v : Value) (z : Int) (nt : ByteArray) (hv : v.oneCell' = true) : (comC r v z nt).all (·.oneCell') = true := by
  rw [Array.all_eq_true_iff_forall_mem]
  intro x hx
  simp only [comC, comL, List.mem_toArray, List.mem_append, List.mem_map, List.mem_cons, List.not_mem_nil, or_false] at hx
  rcases hx with ⟨y, _, rfl⟩ | rfl | rfl | rfl
  · rfl
  · exact hv
  · rfl
  · rfl
theorem com_root {w : World} {g : Nat} {r : List Int} {v : Value} {z : Int} {nt : ByteArray} {T : TypeId} (hr : r.length = 32) (h : w.heap[g]? = some (.cells (comC r v z nt) T)) : w.rangeAt g 0 (r.map (Value.int .u8)) := by
  intro j u hu
  have hj : j < 32 := by have := (List.getElem?_eq_some_iff.1 hu).1; simpa [hr] using this
  rw [Nat.zero_add, cell_of_row w g j _ _ _ h, comC_get0 hr, if_pos hj]
  rw [List.getElem?_map, List.getElem?_eq_getElem (by omega)] at hu
  rw [← hu, List.getElem?_eq_getElem (by omega)]
  rfl
theorem com_cells {w : World} {g : Nat} {r : List Int} {v : Value} {z : Int} {nt : ByteArray} {T : TypeId} (hr : r.length = 32) (h : w.heap[g]? = some (.cells (comC r v z nt) T)) : w.cell? ⟨g, 32, none⟩ = some v ∧ w.cell? ⟨g, 33, none⟩ = some (.int .i64 z) ∧ w.cell? ⟨g, 34, none⟩ = some (.string nt) := by
  refine ⟨?_, ?_, ?_⟩
  · rw [cell_of_row w g 32 _ _ _ h, comC_get0 hr]; rfl
  · rw [cell_of_row w g 33 _ _ _ h, comC_get0 hr]; rfl
  · rw [cell_of_row w g 34 _ _ _ h, comC_get0 hr]; rfl
theorem com_set0 {w : World} {g : Nat} {r r' : List Int} {v : Value} {z : Int} {nt : ByteArray} {T : TypeId} (hr : r.length = 32) (hr' : r'.length = 32) (h : w.heap[g]? = some (.cells (comC r v z nt) T)) :
    (w.setCells g 0 (r'.map (Value.int .u8))).heap[g]? = some (.cells (comC r' v z nt) T) := by
  have hb := Go.rowIs_setCells (r'.map (Value.int .u8)) 0 _ _ (rowIs_blockU h)
  refine rowIs_exactU hb (by rw [comC_size _ _ _ hr, comC_size _ _ _ hr']) fun i hi => ?_
  rw [comC_size _ _ _ hr] at hi
  rw [comC_get0 hr', comC_get0 hr]
  simp only [List.length_map, hr', Nat.zero_add, Nat.sub_zero, Nat.zero_le, true_and]
  by_cases h1 : i < 32
  · rw [if_pos h1, if_pos h1, List.getElem?_map, List.getElem?_eq_getElem (by omega)]; rfl
  · rw [if_neg h1, if_neg h1]
    rcases (show i = 32 ∨ i = 33 ∨ i = 34 by omega) with rfl | rfl | rfl <;> rfl
theorem com_set1 {w : World} {g : Nat} {r : List Int} {v v' : Value} {z : Int} {nt : ByteArray} {T : TypeId} (hr : r.length = 32) (h : w.heap[g]? = some (.cells (comC r v z nt) T)) :
    (w.setCell ⟨g, 32, none⟩ v').heap[g]? = some (.cells (comC r v' z nt) T) := by
  rw [heap_setCell_same _ _ _ _ _ _ h]
  congr 2
  apply Array.ext_getElem?
  intro i
  rw [Array.getElem?_setIfInBounds, comC_get0 hr, comC_get0 hr, comC_size _ _ _ hr]
  by_cases h5 : 32 = i
  · subst h5; simp
  · rw [if_neg h5, if_neg (show ¬ i = 32 by omega), if_neg (show ¬ i = 32 by omega)]
theorem com_set2 {w : World} {g : Nat} {r : List Int} {v : Value} {z z' : Int} {nt : ByteArray} {T : TypeId} (hr : r.length = 32) (h : w.heap[g]? = some (.cells (comC r v z nt) T)) :
    (w.setCell ⟨g, 33, none⟩ (.int .i64 z')).heap[g]? = some (.cells (comC r v z' nt) T) := by
  rw [heap_setCell_same _ _ _ _ _ _ h]
  congr 2
  apply Array.ext_getElem?
  intro i
  rw [Array.getElem?_setIfInBounds, comC_get0 hr, comC_get0 hr, comC_size _ _ _ hr]
  by_cases h5 : 33 = i
  · subst h5; simp
  · rw [if_neg h5, if_neg (show ¬ i = 33 by omega), if_neg (show ¬ i = 33 by omega)]
theorem com_set3 {w : World} {g : Nat} {r : List Int} {v : Value} {z : Int} {nt nt' : ByteArray} {T : TypeId} (hr : r.length = 32) (h : w.heap[g]? = some (.cells (comC r v z nt) T)) :
    (w.setCell ⟨g, 34, none⟩ (.string nt')).heap[g]? = some (.cells (comC r v z nt') T) := by
  rw [heap_setCell_same _ _ _ _ _ _ h]
  congr 2
  apply Array.ext_getElem?
  intro i
  rw [Array.getElem?_setIfInBounds, comC_get0 hr, comC_get0 hr, comC_size _ _ _ hr]
  by_cases h5 : 34 = i
  · subst h5; simp
  · rw [if_neg h5, if_neg (show ¬ i = 34 by omega), if_neg (show ¬ i = 34 by omega)]
theorem com_there {w : World} {g o m : Nat} {r : List Int} {v : Value} {z : Int} {nt : ByteArray} {T : TypeId} (hr : r.length = 32) (h : w.heap[g]? = some (.cells (comC r v z nt) T)) (ho : o + m ≤ 35) : w.there g o m := fun j hj => by
  constructor
  · rw [cell_of_row w g (o + j) _ _ _ h, Array.getElem?_eq_getElem (by rw [comC_size _ _ _ hr]; omega)]; rfl
  · exact frozen_of_row w g (o + j) _ _ h
set_option maxRecDepth 100000 in
theorem open_commit {H : Type} {enc : TypeId × Value → H} {w : World} {b0 : Nat} {r : Reach} {v : Value} {d : DataW H} {p : List MemPlace}
    (hv : Value.okWide Try.prog w r b0 25 v) (h : DataW.Trod enc Try.prog w 0 (fun _ => true) true 25 v d p) :
    ∃ (l : List Int) (a : Option Addr) (n cap : Nat) (fl : List Int) (z : Int) (nt : ByteArray), v = .agg (comC l (.slice a n cap) z nt) ∧ (l.length = 32 ∧ ∀ y ∈ l, 0 ≤ y ∧ y ≤ 255) ∧ IsKeys w a n fl ∧ nt.size ≤ maxLen ∧ (Lit.int .i64 z).wf = true := by
  obtain ⟨cs, rfl, hsz⟩ := okWide_struct Try.underlying25 hv
  have h35 : Try.prog.cellsOf 25 = 35 := by kernel_rfl
  rw [h35] at hsz
  obtain ⟨fuel, hf⟩ := h
  obtain ⟨xs, m, _, _, hlen, hxl, hfl⟩ := DataW.trod_struct Try.underlying25 hf
  have k0 := hfl 0 _ rfl
  have k1 := hfl 1 _ rfl
  have k2 := hfl 2 _ rfl
  have k3 := hfl 3 _ rfl
  have e32 : Try.prog.cellsOf 22 = 32 := by kernel_rfl
  have eS : Try.prog.cellsOf 23 = 1 := by kernel_rfl
  have eI : Try.prog.cellsOf 2 = 1 := by kernel_rfl
  have e1 : Try.prog.cellsOf 9 = 1 := by kernel_rfl
  simp only [Value.cells] at k0 k1 k2 k3
  have h3 : xs.length = 4 := hxl
  rw [List.getElem?_eq_getElem (by omega)] at k0 k1 k2 k3
  obtain ⟨l, hl, hl8, hlw⟩ := trod_ints Try.underlying22 Try.underlying5 (by kernel_rfl) e32 k0
  replace hl8 : (cs.toList.drop 0).take (Try.prog.cellsOf 22) = l.map (Value.int .u8) := hl8
  rw [e32, List.drop_zero] at hl8
  have hS : ∃ (a : Option Addr) (n cap : Nat) (fl : List Int), (cs.toList.drop 32).take 1 = [.slice a n cap] ∧ IsKeys w a n fl := by
    have hsl : ∃ (a : Option Addr) (n cap : Nat), (cs.toList.drop 32).take (Try.prog.cellsOf 23) = [.slice a n cap] := by
      rcases DataW.trod_slice Try.underlying23 k1 with ⟨h0, _⟩ | ⟨x, len, cap, elems, rest, n, _, hcs, _⟩
      · exact ⟨none, 0, 0, h0⟩
      · exact ⟨some x, len, cap, hcs⟩
    obtain ⟨a, n, cap, hsl⟩ := hsl
    have k1' : DataW.trod enc Try.prog w 0 (fun _ => true) true _ 23 [.slice a n cap] = some _ := hsl ▸ k1
    obtain ⟨fl, hfl2⟩ := open_keys (a := a) (len := n) (cap := cap) Try.underlying23 Try.underlying22 Try.underlying5 (by kernel_rfl) (by kernel_rfl) ⟨_, k1'⟩
    rw [eS] at hsl
    exact ⟨a, n, cap, fl, hsl, hfl2⟩
  obtain ⟨a, n, cap, fl, hs1, hkeys⟩ := hS
  obtain ⟨z, hz, _, hzw⟩ := DataW.trod_int Try.underlying2 k2
  replace hz : (cs.toList.drop 33).take (Try.prog.cellsOf 2) = [Value.int .i64 z] := hz
  rw [eI] at hz
  obtain ⟨x, hx, _, hxs⟩ := DataW.trod_string Try.underlying9 k3
  replace hx : (cs.toList.drop 34).take (Try.prog.cellsOf 9) = [Value.string x] := hx
  rw [e1] at hx
  have wf : ∀ z : Int, (Lit.int .u8 z).wf = true → 0 ≤ z ∧ z ≤ 255 := fun z hz => by
    have h : (decide ((0 : Int) ≤ z) && decide (z ≤ 255)) = true := hz
    simp only [Bool.and_eq_true, decide_eq_true_eq] at h
    exact h
  refine ⟨l, a, n, cap, fl, z, x, ?_, ⟨hl, fun y hy => wf y (hlw y hy)⟩, hkeys, hxs, hzw⟩
  have hL : cs.toList.length = 35 := by simpa using hsz
  have hall : cs.toList = comL l (.slice a n cap) z x := by
    have q1 : cs.toList = cs.toList.take 32 ++ ((cs.toList.drop 32).take 1 ++ ((cs.toList.drop 33).take 1 ++ (cs.toList.drop 34).take 1)) := by
      have a3 : ∀ (L : List Value), L.length = 3 → L.take 1 ++ ((L.drop 1).take 1 ++ (L.drop 2).take 1) = L := by
        intro L hL
        match L, hL with
        | [a, b, c], _ => rfl
      have a4 := a3 (cs.toList.drop 32) (by rw [List.length_drop, hL])
      rw [List.drop_drop, List.drop_drop] at a4
      rw [a4, List.take_append_drop]
    rw [q1, hl8, hs1, hz, hx]
    rfl
  unfold comC
  rw [← hall]
theorem comZ : comC z32 (.slice none 0 0) 0 ⟨#[]⟩ = #[.int .u8 0, .int .u8 0, .int .u8 0, .int .u8 0, .int .u8 0, .int .u8 0, .int .u8 0, .int .u8 0, .int .u8 0, .int .u8 0, .int .u8 0, .int .u8 0, .int .u8 0, .int .u8 0, .int .u8 0, .int .u8 0, .int .u8 0, .int .u8 0, .int .u8 0, .int .u8 0, .int .u8 0, .int .u8 0, .int .u8 0, .int .u8 0, .int .u8 0, .int .u8 0, .int .u8 0, .int .u8 0, .int .u8 0, .int .u8 0, .int .u8 0, .int .u8 0, .slice none 0 0, .int .i64 0, .string ⟨#[]⟩] := rfl
theorem sizeCom : (Try.prog.info? 31).map (·.size) = some 35 := by kernel_rfl
theorem sizeA32c : (Try.prog.info? 22).map (·.size) = some 32 := by kernel_rfl
theorem below_setsU {B g : Nat} {a w : World} (hg : B ≤ g) (vs : List Value) (o : Nat) (h : Below B a w) : Below B a (w.setCells g o vs) := below_setCells_k hg vs o w h
set_option maxRecDepth 100000 in
set_option maxHeartbeats 4000000 in
theorem toCom (r : List Int) (a : Option Addr) (n cap : Nat) (fl : List Int) (z : Int) (nt : ByteArray) (hr : r.length = 32) (hn : n ≤ 1048576) (w : World) (hk : RdK w a n fl) :
    Calls Try.prog 11 #[.agg (comC r (.slice a n cap) z nt)] w fun e w' => ∃ g, e = .returned (.agg (comC r (.slice (some ⟨g, 0, none⟩) n n) z nt)) ∧ w.heap.size ≤ g ∧ w'.heap[g]? = some (.cells (ints .u8 fl) 28) ∧ Below w.heap.size w w' := by
  have HR := Lib.hid hr
  have HS := Lib.hid (fun v => comC_size v z nt hr)
  have Z0 := Lib.hid comZ
  obtain ⟨W0, hW0⟩ : ∃ W0, ((w.alloc (.cells (comC r (.slice a n cap) z nt) 25)).alloc (.cells (comC z32 (.slice none 0 0) 0 ⟨#[]⟩) 31)).alloc (.cells (comC z32 (.slice none 0 0) 0 ⟨#[]⟩) 31) = W0 := ⟨_, rfl⟩
  have A0 := heap3_0 w (.cells (comC r (.slice a n cap) z nt) 25) (.cells (comC z32 (.slice none 0 0) 0 ⟨#[]⟩) 31) (.cells (comC z32 (.slice none 0 0) 0 ⟨#[]⟩) 31)
  have A1 := heap3_1 w (.cells (comC r (.slice a n cap) z nt) 25) (.cells (comC z32 (.slice none 0 0) 0 ⟨#[]⟩) 31) (.cells (comC z32 (.slice none 0 0) 0 ⟨#[]⟩) 31)
  have A2 := heap3_2 w (.cells (comC r (.slice a n cap) z nt) 25) (.cells (comC z32 (.slice none 0 0) 0 ⟨#[]⟩) 31) (.cells (comC z32 (.slice none 0 0) 0 ⟨#[]⟩) 31)
  have B0' := (((Below.refl w.heap.size w).alloc (Nat.le_refl _) (.cells (comC r (.slice a n cap) z nt) 25)).alloc (by simp) (.cells (comC z32 (.slice none 0 0) 0 ⟨#[]⟩) 31)).alloc (by simp; omega) (.cells (comC z32 (.slice none 0 0) 0 ⟨#[]⟩) 31)
  rw [hW0] at A0 A1 A2 B0'
  rw [Z0.out] at hW0
  have X0 := Lib.hid A0
  have X1 := Lib.hid A1
  have X2 := Lib.hid A2
  have B0 := Lib.hid B0'
  have R0 := Lib.hid (com_root hr A0)
  have KW := Lib.hid hk
  clear A0 A1 A2 B0' hr hk
  go_enter Try.func11, Try.ntmps11
  go_wp2_with (refine wpList_load_ints rfl 22 _ rfl (w.heap.size) 0 rfl .u8 r _ R0.out Try.underlying22 rfl (by rw [HR.out]; exact sizeA32c) ?_)
  refine (toKey_ r HR.out _).mono ?_
  rintro e w1 ⟨rfl, hb⟩
  have B1 := Lib.hid (below_call B0.out B0.out.size hb)
  have Y0 := Lib.hid (keep_block X0.out hb)
  have Y1 := Lib.hid (keep_block X1.out hb)
  have Y2 := Lib.hid (keep_block X2.out hb)
  clear hb hW0 X0 X1 X2 R0
  have T2 := Lib.hid (com_there z32_len Y2.out (show 0 + 32 ≤ 35 by omega))
  have V2 := Lib.hid (com_set0 z32_len HR.out Y2.out)
  have V1 := Lib.hid ((heap_setCells_far (g := w.heap.size + 1 + 1) (g' := w.heap.size + 1) (by omega) (r.map (Value.int .u8)) 0 w1).trans Y1.out)
  have V0 := Lib.hid ((heap_setCells_far (g := w.heap.size + 1 + 1) (g' := w.heap.size) (by omega) (r.map (Value.int .u8)) 0 w1).trans Y0.out)
  have B2 := Lib.hid (below_setsU (g := w.heap.size + 1 + 1) (by omega) (r.map (Value.int .u8)) 0 B1.out)
  go_upto_region 3 with (refine wpList_store_ints rfl 28 _ _ rfl (w.heap.size + 1 + 1) 0 .u8 r rfl rfl (by rw [HR.out]; exact T2.out) (by rw [HR.out]; exact sizeKey) ?_)
  generalize w1.setCells (w.heap.size + 1 + 1) 0 (r.map (Value.int .u8)) = w2 at V0 V1 V2 B2 ⊢
  clear Y0 Y1 Y2 T2 B1
  obtain ⟨c32, c33, c34⟩ := com_cells HR.out V0.out
  go_wp2_with fail
  refine (toKS a n cap fl hn _ (KW.out.below B2.out)).mono ?_
  rintro e w3 ⟨rfl, hg, hb⟩
  have B3 := Lib.hid (below_call B2.out B2.out.size hb)
  have Y0 := Lib.hid (keep_block V0.out hb)
  have Y1 := Lib.hid (keep_block V1.out hb)
  have Y2 := Lib.hid (keep_block V2.out hb)
  have G3 := Lib.hid hg
  have SZ := Lib.hid (show w.heap.size + 1 + 1 < w2.heap.size from (Array.getElem?_eq_some_iff.1 V2.out).1)
  generalize w2.heap.size = g at G3 SZ ⊢
  clear hb hg V0 V1 V2 B2 c32 c33 c34
  obtain ⟨c32, c33, c34⟩ := com_cells HR.out Y0.out
  obtain ⟨d32, d33, d34⟩ := com_cells HR.out Y2.out
  have f32 := frozen_of_row w3 (w.heap.size + 1 + 1) 32 _ _ Y2.out
  have f33 := frozen_of_row w3 (w.heap.size + 1 + 1) 33 _ _ Y2.out
  have f34 := frozen_of_row w3 (w.heap.size + 1 + 1) 34 _ _ Y2.out
  have N1 := com_set1 (v' := .slice (some ⟨g, 0, none⟩) n n) HR.out Y2.out
  have N2 := com_set2 (z' := z) HR.out N1
  have N3 := com_set3 (nt' := nt) HR.out N2
  have V2 := Lib.hid N3
  have hne : ∀ (q : Nat) (W : World) (o : Nat) (u : Value), q ≠ w.heap.size + 1 + 1 → (W.setCell ⟨w.heap.size + 1 + 1, o, none⟩ u).heap[q]? = W.heap[q]? := fun q W o u hq => heap_setCell_other _ _ _ _ hq
  have V1 := Lib.hid ((hne (w.heap.size + 1) _ 34 (.string nt) (by omega)).trans ((hne (w.heap.size + 1) _ 33 (.int .i64 z) (by omega)).trans ((hne (w.heap.size + 1) w3 32 (.slice (some ⟨g, 0, none⟩) n n) (by omega)).trans Y1.out)))
  have G4 := Lib.hid ((hne g _ 34 (.string nt) (by have := SZ.out; omega)).trans ((hne g _ 33 (.int .i64 z) (by have := SZ.out; omega)).trans ((hne g w3 32 (.slice (some ⟨g, 0, none⟩) n n) (by have := SZ.out; omega)).trans G3.out)))
  have B4 := Lib.hid (((B3.out.setCell (p := ⟨w.heap.size + 1 + 1, 32, none⟩) (by show w.heap.size ≤ w.heap.size + 1 + 1; omega) (.slice (some ⟨g, 0, none⟩) n n)).setCell (p := ⟨w.heap.size + 1 + 1, 33, none⟩) (by show w.heap.size ≤ w.heap.size + 1 + 1; omega) (.int .i64 z)).setCell (p := ⟨w.heap.size + 1 + 1, 34, none⟩) (by show w.heap.size ≤ w.heap.size + 1 + 1; omega) (.string nt))
  clear N1 N2 N3 hne
  go_upto_region 6 with fail
  generalize ((w3.setCell ⟨w.heap.size + 1 + 1, 32, none⟩ (.slice (some ⟨g, 0, none⟩) n n)).setCell ⟨w.heap.size + 1 + 1, 33, none⟩ (.int .i64 z)).setCell ⟨w.heap.size + 1 + 1, 34, none⟩ (.string nt) = w4 at V1 V2 G4 B4 ⊢
  clear c32 c33 c34 d32 d33 d34 f32 f33 f34
  go_wp2_with (first | (refine wpList_load_row rfl 31 _ rfl (w.heap.size + 1 + 1) rfl 31 (comC r (.slice (some ⟨g, 0, none⟩) n n) z nt) (0, 0) _ V2.out Try.underlying31 rfl (by rw [HS.out]; exact sizeCom) ?_) | (refine wpList_store_row rfl 31 _ _ rfl (w.heap.size + 1) (comC r (.slice (some ⟨g, 0, none⟩) n n) z nt) rfl rfl 31 (comC z32 (.slice none 0 0) 0 ⟨#[]⟩) V1.out (by rw [HS.out]; exact sizeCom) (by rw [HS.out, comC_size _ _ _ z32_len]) (comC_one _ _ _ _ rfl) ?_))
  refine bodyPost_ret (results_cell_row rfl _ _ (w.heap.size + 1) 31 (comC r (.slice (some ⟨g, 0, none⟩) n n) z nt) (0, 0) _ rfl (setRow_heap _ _ _ _ _ _ V1.out) Try.underlying31 rfl (by rw [HS.out]; exact sizeCom)) rfl ?_
  exact ⟨g, rfl, by have := SZ.out; omega, (setRow_other _ _ _ _ (by have := SZ.out; omega)).trans G4.out, Below.setRow B4.out (by omega) _⟩
set_option maxRecDepth 100000 in
set_option maxHeartbeats 4000000 in
theorem szCom (r : List Int) (a : Option Addr) (n cap : Nat) (z : Int) (nt : ByteArray) (hr : r.length = 32) (hn : n ≤ maxLen) (hs : nt.size ≤ maxLen) (left : Int) (h0 : 0 ≤ left) (h1 : left ≤ 1099511627776) (w : World) :
    Calls Try.prog 9 #[.agg (comC r (.slice a n cap) z nt), .int .i64 left] w fun e w' => (∃ r0, e = .returned (.int .i64 r0) ∧ (r0 = -1 ∨ (0 ≤ r0 ∧ r0 = left - n - nt.size))) ∧ Below w.heap.size w w' := by
  have A0 := heap_alloc_last w (.cells (comC r (.slice a n cap) z nt) 25)
  obtain ⟨c32, c33, c34⟩ := com_cells hr A0
  have HB := Lib.hid ((Below.refl w.heap.size w).alloc (Nat.le_refl _) (.cells (comC r (.slice a n cap) z nt) 25))
  have hml : maxLen = 9223372036854775807 := by unfold maxLen; rfl
  clear A0
  by_cases hnl : (n : Int) ≤ left
  · have HS := Lib.hid (fun U => szKS_in a n cap left h0 h1 hnl U)
    have HA := Lib.hid (heap_alloc_last w (.cells (comC r (.slice a n cap) z nt) 25))
    go_enter Try.func9, Try.ntmps9
    go_wp2_with fail
    refine (HS.out _).mono ?_
    rintro e w1 ⟨rfl, rfl⟩
    have k1 : ¬ left - (n : Int) < 0 := by omega
    obtain ⟨c32, c33, c34⟩ := com_cells hr HA.out
    by_cases h2 : (nt.size : Int) ≤ left - n
    · have k2 : ¬ left - (n : Int) - (nt.size : Int) < 0 := by omega
      go_wp2_with fail
      go_ret
      exact ⟨⟨_, rfl, .inr ⟨by omega, rfl⟩⟩, HB.out⟩
    · have k2 : left - (n : Int) - (nt.size : Int) < 0 := by omega
      go_wp2_with fail
      go_ret
      exact ⟨⟨_, rfl, .inl rfl⟩, HB.out⟩
  · have HS := Lib.hid (fun U => szKS_out a n cap left h0 h1 (by omega) (by omega) U)
    go_enter Try.func9, Try.ntmps9
    go_wp2_with fail
    refine (HS.out _).mono ?_
    rintro e w1 ⟨rfl, rfl⟩
    go_wp2_with fail
    go_ret
    exact ⟨⟨_, rfl, .inl rfl⟩, HB.out⟩
set_option maxRecDepth 100000 in
set_option maxHeartbeats 4000000 in
theorem eqCom (r : List Int) (a b : Option Addr) (n ca cb : Nat) (fl : List Int) (z : Int) (nt : ByteArray) (hr : r.length = 32) (hn : n ≤ 1048576) (w : World) (hk : RdK w a n fl) (hk2 : RdK w b n fl) :
    Calls Try.prog 13 #[.agg (comC r (.slice a n ca) z nt), .agg (comC r (.slice b n cb) z nt)] w fun e w' => e = .returned (.bool true) ∧ Below w.heap.size w w' := by
  have A0 := heap_alloc2_old w (.cells (comC r (.slice a n ca) z nt) 31) (.cells (comC r (.slice b n cb) z nt) 31)
  have A1 := heap_alloc2_new w (.cells (comC r (.slice a n ca) z nt) 31) (.cells (comC r (.slice b n cb) z nt) 31)
  have B0' := ((Below.refl w.heap.size w).alloc (Nat.le_refl _) (.cells (comC r (.slice a n ca) z nt) 31)).alloc (by simp) (.cells (comC r (.slice b n cb) z nt) 31)
  obtain ⟨w0, hw0⟩ : ∃ w0, (w.alloc (.cells (comC r (.slice a n ca) z nt) 31)).alloc (.cells (comC r (.slice b n cb) z nt) 31) = w0 := ⟨_, rfl⟩
  rw [hw0] at A0 A1 B0'
  have E0 := Lib.hid A0
  have F0 := Lib.hid A1
  have B0 := Lib.hid B0'
  have KA := Lib.hid hk
  have KB := Lib.hid hk2
  have HR := Lib.hid hr
  have RA := Lib.hid (com_root hr A0)
  have RB := Lib.hid (com_root hr A1)
  clear A0 A1 B0' hk hk2 hr
  go_enter Try.func13, Try.ntmps13
  go_wp2_with (first | (refine wpList_load_ints rfl 28 _ rfl w.heap.size 0 rfl .u8 r _ RA.out Try.underlying28 rfl (by rw [HR.out]; exact sizeKey) ?_) | (refine wpList_load_ints rfl 28 _ rfl (w.heap.size + 1) 0 rfl .u8 r _ RB.out Try.underlying28 rfl (by rw [HR.out]; exact sizeKey) ?_))
  refine (eqKey_ r HR.out _).mono ?_
  rintro e w1 ⟨rfl, hb⟩
  have B1 := Lib.hid (below_call B0.out B0.out.size hb)
  have E1 := Lib.hid (keep_block E0.out hb)
  have F1 := Lib.hid (keep_block F0.out hb)
  clear hb E0 F0 B0 RA RB hw0
  obtain ⟨c32, -, -⟩ := com_cells HR.out E1.out
  obtain ⟨d32, -, -⟩ := com_cells HR.out F1.out
  go_wp2_with fail
  refine (eqKS a b n ca cb fl hn _ (KA.out.below B1.out) (KB.out.below B1.out)).mono ?_
  rintro e w2 ⟨rfl, hb⟩
  have B2 := Lib.hid (below_call B1.out B1.out.size hb)
  obtain ⟨-, c33, c34⟩ := com_cells HR.out (keep_block E1.out hb)
  obtain ⟨-, d33, d34⟩ := com_cells HR.out (keep_block F1.out hb)
  clear hb c32 d32
  go_wp2_with fail
  go_ret
  exact ⟨rfl, B2.out⟩
end Go.Proofs.Ytnnplebebhjfaaa
