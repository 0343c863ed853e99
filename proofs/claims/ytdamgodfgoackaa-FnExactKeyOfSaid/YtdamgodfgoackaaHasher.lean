/- Hashers: brought over, compared. -/
import Derived.Test.YtdamgodfgoackaaRow
import Derived.Test.YtdamgodfgoackaaBytes
namespace Go.Proofs.Ytdamgodfgoackaa
open Go.ChangeShapes Go.WideShapes Go.ChangeAt Go.RowKit
set_option linter.unusedVariables false
theorem setRow3_1 (w : World) (A C : Obj) (c c' : Array Value) (t : TypeId) : (((w.alloc A).alloc (.cells c t)).alloc C).setRow (w.heap.size + 1) c' = ((w.alloc A).alloc (.cells c' t)).alloc C := by
  simp only [World.setRow, World.alloc]
  congr 1
  apply Array.ext_getElem?
  intro i
  rw [Array.getElem?_modify]
  by_cases h : w.heap.size + 1 = i
  · subst h
    have h2 : ¬ w.heap.size + 1 = w.heap.size + 1 + 1 := by omega
    simp only [Array.getElem?_push, Array.size_push, if_neg h2, if_true, Option.map_some]
  · have h' : ¬ i = w.heap.size + 1 := fun e => h e.symm
    simp [h, h', Array.getElem?_push]
set_option maxHeartbeats 1000000 in
theorem toU32X (l : List Int) (hl : l.length = 8) (w : World) :
    Calls Try.prog 74 #[.agg (ints .u32 l)] w fun e w' => e = .returned (.agg (ints .u32 l)) ∧ w' = ((w.alloc (.cells (ints .u32 l) 32)).alloc (.cells (ints .u32 l) 32)).alloc (.cells (ints .u32 l) 32) := by
  have hl' : z8.length = l.length := by rw [hl]; rfl
  have Hz := Lib.hid z8_ints
  have Hl := Lib.hid hl
  clear hl
  go_enter Try.func74, Try.ntmps74
  go_wp2
  go_loopw [4] (fun i wr => ∃ k : Nat, k ≤ 8 ∧ i = .int .i64 k ∧ wr = ((w.alloc (.cells (ints .u32 l) 32)).alloc (.cells (ints .u32 z8) 32)).alloc (.cells (ints .u32 (upTo z8 l k)) 32)) (fun i _ => 8 - (intOf i).toNat)
  case atStart => exact ⟨0, by omega, rfl, by rw [upTo_zero, Hz.out]⟩
  case round =>
    obtain ⟨k, hk, rfl, rfl⟩ := hrel
    by_cases hlt : k < 8
    · have hg := ints_get .u32 l k (by rw [Hl.out]; exact hlt)
      have hs := upTo_get .u32 (k := k) hl' (by rw [Hl.out]; exact hlt)
      have ht := upTo_set .u32 (k := k) hl' (by rw [Hl.out]; exact hlt) rfl
      go_wp2
      go_roundw
      case rel => exact ⟨k + 1, by omega, by go_num, rfl⟩
      case measure => simp [intOf]; omega
    · obtain rfl : k = 8 := by omega
      have e8 := upTo_all z8_len Hl.out
      rw [e8]
      clear e8
      go_wp2_with (first | (refine wpList_load_row rfl 32 _ rfl (w.heap.size + 1 + 1) rfl 32 (ints .u32 l) (0, 0) _ (heap3_2 _ _ _ _) Try.underlying32 rfl (by rw [ints_size, Hl.out]; exact sizeA8) ?_) | (refine wpList_store_row rfl 32 _ _ rfl (w.heap.size + 1) (ints .u32 l) rfl rfl 32 (ints .u32 z8) (heap3_1 _ _ _ _) (by rw [ints_size, Hl.out]; exact sizeA8) (by rw [ints_size, ints_size, Hl.out]; rfl) (ints_one _ _) ?_))
      refine bodyPost_ret (results_cell_row rfl _ _ (w.heap.size + 1) 32 (ints .u32 l) (0, 0) _ rfl (setRow_heap _ _ _ _ _ _ (heap3_1 _ _ _ _)) Try.underlying32 rfl (by rw [ints_size, Hl.out]; exact sizeA8)) rfl ⟨rfl, ?_⟩
      rw [setRow3_1]
theorem heap_at {w : World} {g : Nat} (h : g = w.heap.size) (o : Obj) : (w.alloc o).heap[g]? = some o := by
  subst h
  exact heap_alloc_last _ _
theorem toU32X8 (x0 x1 x2 x3 x4 x5 x6 x7 : Int) (w : World) : Calls Try.prog 74 #[.agg #[.int .u32 x0, .int .u32 x1, .int .u32 x2, .int .u32 x3, .int .u32 x4, .int .u32 x5, .int .u32 x6, .int .u32 x7]] w fun e w' => e = .returned (.agg #[.int .u32 x0, .int .u32 x1, .int .u32 x2, .int .u32 x3, .int .u32 x4, .int .u32 x5, .int .u32 x6, .int .u32 x7]) ∧ w' = ((w.alloc (.cells #[.int .u32 x0, .int .u32 x1, .int .u32 x2, .int .u32 x3, .int .u32 x4, .int .u32 x5, .int .u32 x6, .int .u32 x7] 32)).alloc (.cells #[.int .u32 x0, .int .u32 x1, .int .u32 x2, .int .u32 x3, .int .u32 x4, .int .u32 x5, .int .u32 x6, .int .u32 x7] 32)).alloc (.cells #[.int .u32 x0, .int .u32 x1, .int .u32 x2, .int .u32 x3, .int .u32 x4, .int .u32 x5, .int .u32 x6, .int .u32 x7] 32) := toU32X [x0, x1, x2, x3, x4, x5, x6, x7] rfl w
set_option maxRecDepth 100000 in
set_option maxHeartbeats 2000000 in
theorem toH (x0 x1 x2 x3 x4 x5 x6 x7 : Int) (a : Option Addr) (n cap : Nat) (l : List Int) (c : Int) (hn : n ≤ 1048576) (w : World) (hr : Rd .u8 w a n l) :
    Calls Try.prog 22 #[.agg #[.int .u32 x0, .int .u32 x1, .int .u32 x2, .int .u32 x3, .int .u32 x4, .int .u32 x5, .int .u32 x6, .int .u32 x7, .slice a n cap, .int .i64 c]] w fun e w' => e = .returned (.agg #[.int .u32 x0, .int .u32 x1, .int .u32 x2, .int .u32 x3, .int .u32 x4, .int .u32 x5, .int .u32 x6, .int .u32 x7, .slice (some ⟨w.heap.size + 6, 0, none⟩) n n, .int .i64 c]) ∧ w'.heap[w.heap.size + 6]? = some (.cells (ints .u8 l) 5) ∧ Below w.heap.size w w' := by
  have Hr := Lib.hid hr
  clear hr
  go_enter Try.func22, Try.ntmps22
  go_wp2_with fail
  refine (toU32X8 _ _ _ _ _ _ _ _ _).mono ?_
  rintro e w1 ⟨rfl, rfl⟩
  go_wp2_with fail
  refine (toBS a n cap l hn _ (Hr.out.below (by go_grown))).mono ?_
  rintro e w2 ⟨rfl, rfl⟩
  go_wp2
  go_returns
  exact ⟨rfl, heap_at (by simp) _, by go_grown⟩
set_option maxRecDepth 100000 in
set_option maxHeartbeats 2000000 in
theorem eqH (x0 x1 x2 x3 x4 x5 x6 x7 : Int) (a b : Option Addr) (n ca cb : Nat) (l : List Int) (c : Int) (hn : n ≤ 1048576) (w : World) (hr : Rd .u8 w a n l) (hs : Rd .u8 w b n l) :
    Calls Try.prog 24 #[.agg #[.int .u32 x0, .int .u32 x1, .int .u32 x2, .int .u32 x3, .int .u32 x4, .int .u32 x5, .int .u32 x6, .int .u32 x7, .slice a n ca, .int .i64 c], .agg #[.int .u32 x0, .int .u32 x1, .int .u32 x2, .int .u32 x3, .int .u32 x4, .int .u32 x5, .int .u32 x6, .int .u32 x7, .slice b n cb, .int .i64 c]] w fun e w' => e = .returned (.bool true) ∧ Below w.heap.size w w' := by
  have Hr := Lib.hid hr
  have Hs := Lib.hid hs
  clear hr hs
  go_enter Try.func24, Try.ntmps24
  go_wp2_with fail
  refine (eqU32A8 [x0, x1, x2, x3, x4, x5, x6, x7] rfl _).mono ?_
  rintro e w1 ⟨rfl, hb1⟩
  have hB1 := Lib.hid (((((Below.refl w.heap.size w).alloc (by simp) _).alloc (by simp) _).trans (hb1.mono (by simp; omega))))
  have hA := (hb1.block w.heap.size (by simp; omega)).trans (heap_alloc2_old _ _ _)
  have hB := (hb1.block (w.heap.size + 1) (by simp)).trans (heap_alloc2_new _ _ _)
  have HA := Lib.hid hA
  have HB := Lib.hid hB
  have a8 := cell_of_row w1 w.heap.size 8 _ _ _ hA
  have b8 := cell_of_row w1 (w.heap.size + 1) 8 _ _ _ hB
  clear hb1 hA hB
  simp only [List.getElem?_toArray, List.getElem?_cons_succ, List.getElem?_cons_zero] at a8 b8
  go_wp2_with fail
  refine (eqBS a b n ca cb l hn _ (Hr.out.below hB1.out) (Hs.out.below hB1.out)).mono ?_
  rintro e w2 ⟨rfl, hb2⟩
  have hB2 := Lib.hid (below_call hB1.out hB1.out.size hb2)
  have a9 := cell_of_row w2 w.heap.size 9 _ _ _ (keep_block HA.out hb2)
  have b9 := cell_of_row w2 (w.heap.size + 1) 9 _ _ _ (keep_block HB.out hb2)
  clear hb2
  simp only [List.getElem?_toArray, List.getElem?_cons_succ, List.getElem?_cons_zero] at a9 b9
  clear a8 b8
  go_wp2
  go_ret
  exact ⟨rfl, hB2.out⟩
end Go.Proofs.Ytdamgodfgoackaa
