/- The library's sort laid at keys. Cut out of XSrt and XSrf. -/
import Derived.Test.YtdoelmjaongjfabKo
import Derived.Test.YtdoelmjaongjfabKm
import Derived.Test.YtdoelmjaongjfabCmp
import Derived.Test.YtdoelmjaongjfabFill
import Derived.Test.YtdoelmjaongjfabGrd
import Derived.Test.YtdoelmjaongjfabSort
import Derived.Shelf.SlSortCmp.NoneTotal
namespace Go.Proofs.Ytdoelmjaongjfab
open Go.ChangeShapes Go.WideShapes Go.ChangeAt Go.RowKit
set_option linter.unusedVariables false
set_option linter.unusedSimpArgs false
open Go.Sort Go.Shelf
def encL (x : KeyS) : List Value := x.1.map (Value.int .u8)
theorem encL_len (x : KeyS) : (encL x).length = 32 := by unfold encL; rw [List.length_map]; exact x.2.1
theorem flatK_get : ∀ (ss : List KeyS) (i j : Nat) (x : KeyS), ss[i]? = some x → j < 32 → (flatK ss)[32 * i + j]? = x.1[j]?
  | [], _, _, _, h, _ => by simp at h
  | y :: r, 0, j, x, h, hj => by
    simp at h
    subst h
    show (y.1 ++ flatK r)[32 * 0 + j]? = _
    rw [List.getElem?_append_left (by rw [y.2.1]; omega)]
    congr 1
    omega
  | y :: r, i + 1, j, x, h, hj => by
    show (y.1 ++ flatK r)[32 * (i + 1) + j]? = _
    rw [List.getElem?_append_right (by rw [y.2.1]; omega), y.2.1, show 32 * (i + 1) + j - 32 = 32 * i + j by omega]
    exact flatK_get r i j x (by simpa using h) hj
theorem flat_cells (ss : List KeyS) : (Go.Sort.flatK encL 32 ss.toArray).toList = (flatK ss).map (Value.int .u8) := by
  apply List.ext_getElem (by rw [Array.length_toList, Go.Sort.size_flatK, List.length_map, flatK_len]; simp; omega)
  intro t h1 h2
  rw [Array.length_toList, Go.Sort.size_flatK] at h1
  have hs : ss.toArray.size = ss.length := by simp
  rw [hs] at h1
  have hi : t / 32 < ss.length := by omega
  have hj : t % 32 < 32 := by omega
  have e1 : (Go.Sort.flatK encL 32 ss.toArray)[t]! = (encL ss.toArray[t / 32]!)[t % 32]! := Go.Sort.get_flatK _ _ _ _ (by rw [hs]; exact h1)
  have e2 := flatK_get ss (t / 32) (t % 32) ss[t / 32] (List.getElem?_eq_getElem hi) hj
  rw [show 32 * (t / 32) + t % 32 = t by omega] at e2
  have e3 : ss.toArray[t / 32]! = ss[t / 32] := by simp [hi]
  rw [e3] at e1
  have hx : t % 32 < (ss[t / 32]).1.length := by rw [(ss[t / 32]).2.1]; exact hj
  rw [List.getElem?_eq_getElem hx] at e2
  have h3 : t < (flatK ss).length := by rw [flatK_len]; omega
  rw [List.getElem?_eq_getElem h3] at e2
  have e4 : (encL ss[t / 32])[t % 32]! = Value.int .u8 ((ss[t / 32]).1[t % 32]) := by
    rw [getElem!_pos _ _ (by rw [encL_len]; exact hj)]
    simp [encL]
  rw [e4] at e1
  rw [Array.getElem_toList, List.getElem_map, Option.some.inj e2, ← e1, getElem!_pos]
theorem holds_keys {w : World} {g n : Nat} {cur : Array Value} {e : TypeId} {ss : List KeyS} (hn : n = ss.length) (hb : w.heap[g]? = some (.cells cur e (0, 0))) (ht : cur.toList.take (n * 32) = (flatK ss).map (Value.int .u8)) : HoldsK encL 32 w g 0 ss.toArray := by
  intro j hj
  have hj0 := hj
  rw [Go.Sort.size_flatK] at hj
  have hs : ss.toArray.size = ss.length := by simp
  rw [hs] at hj
  refine ⟨?_, by simp [World.frozen?, hb]⟩
  have h1 : (cur.toList.take (n * 32))[j]? = (Go.Sort.flatK encL 32 ss.toArray).toList[j]? := by rw [ht, flat_cells]
  rw [List.getElem?_take_of_lt (by rw [hn]; exact hj)] at h1
  simp only [World.cell?, hb, Nat.zero_add, Option.isSome_none, Bool.false_eq_true, if_false]
  rw [← Array.getElem?_toList, h1, Array.getElem?_toList, Array.getElem?_eq_getElem hj0]
  show some _ = some (id _)
  exact congrArg some (getElem!_pos (Go.Sort.flatK encL 32 ss.toArray) j hj0).symm
theorem heap_sortedK {w : World} {g n : Nat} {os : Array Obj} {cur : Array Value} {e : TypeId} {fr : Nat × Nat} (d : Array KeyS) (hb : w.heap[g]? = some (.cells cur e fr)) :
    (sortWorldK encL 32 w g 0 n d os).heap[g]? = some (.cells (putCells id 0 (Go.Sort.flatK encL 32 d) cur) e fr) := by
  have hg : g < w.heap.size := (Array.getElem?_eq_some_iff.1 hb).1
  unfold sortWorldK putRowK
  rw [heap_grow_old _ _ (by simpa using hg)]
  simp [putRow, mapBlock, Sort.ahead, Array.getElem?_modify, hb, onCells]
theorem grownBy_sortedK {w : World} {g n : Nat} {os : Array Obj} (d : Array KeyS) : w.grownBy (sortWorldK encL 32 w g 0 n d os) (some g) := by
  unfold sortWorldK putRowK
  refine ⟨rfl, rfl, rfl, by simp, fun k hk hne => ?_⟩
  rw [heap_grow_old _ _ (by simpa using hk)]
  have : g ≠ k := fun e => hne (by rw [e])
  simp [putRow, mapBlock, Sort.ahead, Array.getElem?_modify, this]
theorem take_putCellsK (cur F : Array Value) (h : F.size ≤ cur.size) : (putCells id 0 F cur).toList.take F.size = F.toList := by
  apply List.ext_getElem?
  intro j
  by_cases hj : j < F.size
  · rw [List.getElem?_take_of_lt hj, Array.getElem?_toList]
    simp [putCells, hj, show j < cur.size by omega]
  · rw [List.getElem?_take_eq_none (by omega), List.getElem?_eq_none (by simp; omega)]
theorem owns_sortedK {w : World} {base g cap m n : Nat} {os : Array Obj} {cur : Array Value} {e : TypeId} {ts : List KeyS} (hl : ts.length = m) (hbase : base ≤ g) (hb : w.heap[g]? = some (.cells cur e (0, 0))) (h1 : m ≤ cap) (h2 : cap ≤ maxLen) (h3 : cur.size = cap * 32) :
    (sortWorldK encL 32 w g 0 n ts.toArray os).ownsRow base e 32 (.slice (some ⟨g, 0, none⟩) m cap) m ((flatK ts).map (Value.int .u8)) := by
  have hF : (Go.Sort.flatK encL 32 ts.toArray).size = m * 32 := by rw [Go.Sort.size_flatK]; simp [hl]
  refine ⟨by rw [List.length_map, flatK_len, hl]; omega, .inr ⟨g, cap, _, rfl, hbase, heap_sortedK _ hb, h1, h2, by simp [putCells, h3], ?_⟩⟩
  rw [← hF, take_putCellsK _ _ (by rw [hF]; omega), flat_cells]
set_option maxRecDepth 100000 in
set_option maxHeartbeats 1000000 in
theorem cmp_grow (a b : List Int) (ha : a.length = 32) (hb : b.length = 32) (fa : ∀ x ∈ a, 0 ≤ x ∧ x ≤ 255) (fb : ∀ x ∈ b, 0 ≤ x ∧ x ≤ 255) (w : World) :
    Calls Try.prog 29 #[.agg (ints .u8 a), .agg (ints .u8 b)] w fun e w' => e = .returned (.int .i64 (cmpI a b)) ∧ ∃ q os', w' = grow (w.drewN q) os' := by
  have Ha := Lib.hid ha
  have Hb := Lib.hid hb
  have Fa := Lib.hid fa
  have Fb := Lib.hid fb
  clear ha hb fa fb
  have c1 := Lib.hid (cells_of_row (κ := .u8) (l := a) (heap_alloc2_old w (.cells (ints .u8 a) 32) (.cells (ints .u8 b) 32)))
  have c2 := Lib.hid (cells_of_row (κ := .u8) (l := b) (heap_alloc2_new w (.cells (ints .u8 a) 32) (.cells (ints .u8 b) 32)))
  go_enter Try.func29, Try.ntmps29
  go_wp2_with fail
  go_quiet ((go_at_call 75; exact Calls.quiet_of_same (bytes_compare a b _ _ _ 32 Ha.out Hb.out Fa.out Fb.out (fun i hi => c1.out i (by rw [Ha.out]; exact hi)) (fun i hi => c2.out i (by rw [Hb.out]; exact hi)))))
  go_wp2
  go_ret
  exact ⟨rfl, _, #[.cells (ints .u8 a) 32, .cells (ints .u8 b) 32], by rw [alloc_eq_grow, alloc_eq_grow, grow_grow]; rfl⟩
theorem isAggK : ∀ w, (isAgg 32).run Try.prog w = .ok true w := Try.isAgg32
theorem sizeOfK : ∀ w, (Go.sizeOf 32).run Try.prog w = .ok 32 w := Try.sizeOf32
set_option maxRecDepth 100000 in
set_option maxHeartbeats 2000000 in
theorem ord_grow (x y : KeyS) (w : World) :
    Calls Try.prog 98 #[.agg (ints .u8 x.1), .agg (ints .u8 y.1)] w fun e w' => e = .returned (.int .i64 (cfK x y)) ∧ ∃ q os', w' = grow (w.drewN q) os' := by
  have HX := Lib.hid x.2
  have HY := Lib.hid y.2
  have hcmp := Lib.hid (fun W => cmp_grow x.1 y.1 x.2.1 y.2.1 x.2.2 y.2.2 W)
  have e1 : cfK x y = cmpI x.1 y.1 := rfl
  rw [e1]
  clear e1
  have c1 := Lib.hid (heap_alloc2_old w (.cells (ints .u8 x.1) 32) (.cells (ints .u8 y.1) 32))
  have c2 := Lib.hid (heap_alloc2_new w (.cells (ints .u8 x.1) 32) (.cells (ints .u8 y.1) 32))
  generalize x.1 = a at *
  generalize y.1 = b at *
  go_enter Try.func98, Try.ntmps98
  go_wp2_with (first
    | (refine wpList_load_row rfl 32 _ rfl w.heap.size rfl 32 (ints .u8 a) (0, 0) _ c1.out Try.underlying32 rfl (by rw [ints_size, HX.out.1]; exact sizeKey) ?_)
    | (refine wpList_load_row rfl 32 _ rfl (w.heap.size + 1) rfl 32 (ints .u8 b) (0, 0) _ c2.out Try.underlying32 rfl (by rw [ints_size, HY.out.1]; exact sizeKey) ?_)
    | (go_at_call 29; refine (hcmp.out _).mono ?_; rintro e w' ⟨rfl, q, os, rfl⟩))
  go_ret
  refine ⟨rfl, q, #[.cells (ints .u8 a) 32, .cells (ints .u8 b) 32] ++ os, ?_⟩
  rw [alloc_eq_grow, alloc_eq_grow, grow_grow]
  exact grow_grow (w.drewN q) _ os
theorem cmpLaysK (blk off size : Nat) (w : World) : CmpLays Try.prog 98 #[] encL 32 cfK blk off size w := fun _ _ _ _ x y => ord_grow x y _
theorem sort_keys (blk cap : Nat) (ks : List KeyS) (w : World) (hH : HoldsK encL 32 w blk 0 ks.toArray) (hblk : blk < w.heap.size) (hsz : ks.length ≤ 1048576) :
    Calls Try.prog 70 #[.slice (some ⟨blk, 0, none⟩) ks.length cap, .func (.func 98) #[] #[]] w fun e w' => e = .returned (.tuple #[]) ∧ ∃ n os, w' = sortWorldK encL 32 w blk 0 n (sortK ks).toArray os := by
  have eg : ∀ args w, (callFunc 98 args).run Try.prog w = .ok (.enter 98 args) w := enters_of Try.func98 (by kernel_rfl) rfl
  have h := AnyQ.slices_SortFunc_total Try.sortKeys 32 isAggK sizeOfK encL encL_len (fun x v hv => by simp only [encL, List.mem_map] at hv; obtain ⟨z, _, rfl⟩ := hv; rfl) cfK swoK 98 #[] blk 0 cap ks.toArray w eg (cmpLaysK blk 0 _ w) hH hblk (by simp; omega) totK
  have es : ks.toArray.size = ks.length := by simp
  rw [es] at h
  exact h
theorem sort_none (p : Option Addr) (cap : Nat) (fv : Value) (w : World) :
    Calls Try.prog 70 #[.slice p 0 cap, fv] w fun e w' => e = .returned (.tuple #[]) ∧ w' = w := AnyF.slices_SortFunc_none Try.sortKeys p cap fv w
theorem below_sorted {w : World} {base g n : Nat} {os : Array Obj} (d : Array KeyS) (h : base ≤ g) (hl : g < w.heap.size) : Below base w (sortWorldK encL 32 w g 0 n d os) := by
  have hg := grownBy_sortedK (w := w) (g := g) (n := n) (os := os) d
  exact ⟨hg.os, hg.tape, hg.output, hg.size, fun k hk => hg.block k (by omega) (by simp; omega)⟩
end Go.Proofs.Ytdoelmjaongjfab
