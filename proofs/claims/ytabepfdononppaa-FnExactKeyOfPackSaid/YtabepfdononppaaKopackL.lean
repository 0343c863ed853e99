/- The statement on KeyOfPack: its walk. Written by wip/gen/kop.py. -/
import Derived.Test.YtabepfdononppaaKop2
import Derived.Test.YtabepfdononppaaBytes
namespace Go.Proofs.Ytabepfdononppaa
open Go.ChangeShapes Go.WideShapes Go.ChangeAt Go.RowKit
set_option linter.unusedVariables false
set_option linter.unusedSimpArgs false
set_option maxRecDepth 100000 in
set_option maxHeartbeats 1000000 in
theorem fnExactKeyOfPack_in (a : Option Addr) (n cap : Nat) (l V : List Int) (E : Int) (hV : V.length = 32) (hn : n ≤ 1048576) (w : World) (hr : Rd .u8 w a n l)
    (hs : ∀ W g, g < W.heap.size → (∀ j, j < n → W.cell? ⟨g, 0 + j, none⟩ = some (.int .u8 (l[j]?.getD 0))) → Calls Try.prog 56 #[.slice (some ⟨g, 0, none⟩) n n] W fun e w' => e = .returned (.tuple #[.agg (ints .u8 V), .int .i64 E]) ∧ Below W.heap.size W w')
    (hi : ∀ W g, Rd .u8 W (some ⟨g, 0, none⟩) n l → Calls Try.prog 57 #[.slice (some ⟨g, 0, none⟩) n n] W fun e w' => e = .returned (.tuple #[.agg (ints .u8 V), .int .i64 E]) ∧ Below W.heap.size W w') :
    Calls Try.prog 14 #[.slice a n cap] w fun e w' => e = .returned (.bool true) ∧ Below w.heap.size w w' := by
  have Hr := Lib.hid hr
  have Hz := Lib.hid z32_ints
  have HV := Lib.hid hV
  have Hs := Lib.hid hs
  have Hi := Lib.hid hi
  have Hl := Lib.hid hr.1
  clear hr hs hi hV
  go_enter Try.func14, Try.ntmps14
  go_wp2_with fail
  refine (toBS a n cap l hn _ Hr.out).mono ?_
  rintro e v1 ⟨rfl, rfl⟩
  have X1 := Lib.hid (heap_alloc_last w (.cells (ints .u8 l) 5))
  go_wp2_with fail
  refine (Hs.out _ w.heap.size (by simp) (fun j hj => by rw [Nat.zero_add, cell_of_row _ _ _ _ _ _ X1.out, ints_get .u8 l j (by rw [Hl.out]; exact hj)])).mono ?_
  rintro e w1 ⟨rfl, hb⟩
  have L1 := Lib.hid (((Below.refl w.heap.size w).alloc (by simp) (.cells (ints .u8 l) 5)).trans (hb.mono (by simp)))
  clear hb X1
  go_wp2_with (refine wpList_store_row rfl 46 _ _ rfl w1.heap.size (ints .u8 V) rfl rfl 46 (ints .u8 z32) (by rw [Hz.out]; exact heap_alloc_last _ _) (by rw [ints_size, HV.out]; exact sizeKey) (by rw [ints_size, ints_size, HV.out]; rfl) (ints_one _ _) ?_; rw [World.setRow_alloc_new])
  have K1 := Lib.hid (heap_alloc_last w1 (.cells (ints .u8 V) 46))
  have L1b := Lib.hid (L1.out.alloc L1.out.size (.cells (ints .u8 V) 46))
  refine (toBS a n cap l hn _ (Hr.out.below L1b.out)).mono ?_
  rintro e v2 ⟨rfl, rfl⟩
  have L2 := Lib.hid (L1b.out.alloc L1b.out.size (.cells (ints .u8 l) 5))
  have K2 := Lib.hid ((Below.heap_alloc (w1.alloc (.cells (ints .u8 V) 46)) (.cells (ints .u8 l) 5) _ (by simp)).trans K1.out)
  have R2 := Rd.row (heap_alloc_last (w1.alloc (.cells (ints .u8 V) 46)) (.cells (ints .u8 l) 5))
  rw [Hl.out, World.size_alloc] at R2
  have HR2 := Lib.hid R2
  clear R2 K1
  go_wp2_with fail
  refine (Hi.out _ _ HR2.out).mono ?_
  rintro e w3 ⟨rfl, hb⟩
  have L3 := Lib.hid (below_call L2.out L2.out.size hb)
  have R3 := Lib.hid (HR2.out.below hb)
  have K3 := Lib.hid (keep_block K2.out hb)
  clear hb
  have K4 := Lib.hid ((Below.heap_alloc w3 (.cells (ints .u8 V) 46) _ (Array.getElem?_eq_some_iff.1 K3.out).1).trans K3.out)
  have L4 := Lib.hid (L3.out.alloc L3.out.size (.cells (ints .u8 V) 46))
  have R4 := Lib.hid (R3.out.below ((Below.refl w3.heap.size w3).alloc (Nat.le_refl _) (.cells (ints .u8 V) 46)))
  go_wp2_with (first | (refine wpList_store_row rfl 46 _ _ rfl w3.heap.size (ints .u8 V) rfl rfl 46 (ints .u8 z32) (by rw [Hz.out]; exact heap_alloc_last _ _) (by rw [ints_size, HV.out]; exact sizeKey) (by rw [ints_size, ints_size, HV.out]; rfl) (ints_one _ _) ?_; rw [World.setRow_alloc_new]) | (refine wpList_load_row rfl 46 _ rfl w3.heap.size rfl 46 (ints .u8 V) (0, 0) _ (heap_alloc_last _ _) Try.underlying46 rfl (by rw [ints_size, HV.out]; exact sizeKey) ?_) | (refine wpList_load_row rfl 46 _ rfl w1.heap.size rfl 46 (ints .u8 V) (0, 0) _ K4.out Try.underlying46 rfl (by rw [ints_size, HV.out]; exact sizeKey) ?_))
  refine (eqKey_ V HV.out _).mono ?_
  rintro e w5 ⟨rfl, hb⟩
  have L5 := Lib.hid (below_call L4.out L4.out.size hb)
  have R5 := Lib.hid (R4.out.below hb)
  clear hb
  go_wp2_with fail
  refine (toBS a n cap l hn _ (Hr.out.below L5.out)).mono ?_
  rintro e v6 ⟨rfl, rfl⟩
  have L6 := Lib.hid (L5.out.alloc L5.out.size (.cells (ints .u8 l) 5))
  have R6 := Rd.row (heap_alloc_last w5 (.cells (ints .u8 l) 5))
  rw [Hl.out] at R6
  have HR6 := Lib.hid R6
  clear R6
  go_wp2_with fail
  refine (eqBS _ _ n n n l hn _ (R5.out.below ((Below.refl _ _).alloc (by simp) _)) HR6.out).mono ?_
  rintro e w7 ⟨rfl, hb⟩
  have L7 := Lib.hid (below_call L6.out L6.out.size hb)
  clear hb
  go_wp2
  go_ret
  exact ⟨rfl, L7.out⟩
set_option maxHeartbeats 1000000 in
theorem fnExactKeyOfPack_out (a : Option Addr) (n cap : Nat) (hm : n ≤ maxLen) (hn : ¬ n ≤ 1048576) (w : World) :
    Calls Try.prog 14 #[.slice a n cap] w fun e w' => e = .returned (.bool true) ∧ Below w.heap.size w w' := by
  unfold maxLen at hm
  have h1 : (1048576 : Int) < (n : Int) := by omega
  go_enter Try.func14, Try.ntmps14
  go_wp2
  go_ret
  exact ⟨rfl, Below.refl _ _⟩
theorem FnExactKeyOfPack_walk (a : Option Addr) (n cap : Nat) (zs : List Int) (w : World) (f : IsRow .u8 w a n cap zs) :
    Calls Try.prog 14 #[.slice a n cap] w fun e w' => e = .returned (.bool true) ∧ Below w.heap.size w w' := by
  by_cases hn : n ≤ 1048576
  · have hr := rd_of_row f
    have fl : ∀ z ∈ zs.take n, 0 ≤ z ∧ z ≤ 255 := fun z hz => bounds_u8 (rd_wf f z hz)
    exact fnExactKeyOfPack_in a n cap (zs.take n) (kopV (zs.take n)) (kopE (zs.take n)) (kopV_len _) hn w hr (fun W g hg hc => kop_spec g 0 n n _ fl hn W hr.1 hg hc) (fun W g h => kop_impl _ n n _ fl hn W h)
  · exact fnExactKeyOfPack_out a n cap (row_len f) hn w
end Go.Proofs.Ytabepfdononppaa
