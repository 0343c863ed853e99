/- The statement on EmptyMapKey: its walk. Written by wip/gen/prio.py. -/
import Derived.Test.YtojfojkfopplnabPrioE
namespace Go.Proofs.Ytojfojkfopplnab
open Go.ChangeShapes Go.WideShapes Go.ChangeAt Go.RowKit
set_option linter.unusedVariables false
set_option linter.unusedSimpArgs false
set_option maxRecDepth 100000 in
set_option maxHeartbeats 2000000 in
theorem FnExactEmptyMapKey_walk (w : World) :
    Calls Try.prog 11 #[] w fun e w' => e = .returned (.bool true) ∧ Below w.heap.size w w' := by
  have Hz := Lib.hid z32_ints
  have HV := Lib.hid emK_len
  have Hs := Lib.hid (fun W => empty_spec W)
  have Hi := Lib.hid (fun W => empty_impl W)
  generalize emK = V at HV Hs Hi
  go_enter Try.func11, Try.ntmps11
  go_wp2_with fail
  refine (Hs.out _).mono ?_
  rintro e w1 ⟨rfl, hb⟩
  have B1 := Lib.hid hb
  clear hb
  have LB := layB w1 (ints .u8 z32) (ints .u8 V) 48
  have N1 := Lib.hid (layN w1 (ints .u8 z32) (ints .u8 V) 48)
  have D1 := Lib.hid (below_call B1.out B1.out.size LB)
  clear LB
  rw [Hz.out] at N1 D1
  go_wp2_with (refine wpList_store_row rfl 48 _ _ rfl w1.heap.size (ints .u8 V) rfl rfl 48 (ints .u8 z32) (by rw [Hz.out]; exact heap_alloc_last _ _) (by rw [ints_size, HV.out]; exact sizeKey) (by rw [ints_size, ints_size, HV.out]; rfl) (ints_one _ _) ?_)
  generalize (w1.alloc (.cells #[.int .u8 0, .int .u8 0, .int .u8 0, .int .u8 0, .int .u8 0, .int .u8 0, .int .u8 0, .int .u8 0, .int .u8 0, .int .u8 0, .int .u8 0, .int .u8 0, .int .u8 0, .int .u8 0, .int .u8 0, .int .u8 0, .int .u8 0, .int .u8 0, .int .u8 0, .int .u8 0, .int .u8 0, .int .u8 0, .int .u8 0, .int .u8 0, .int .u8 0, .int .u8 0, .int .u8 0, .int .u8 0, .int .u8 0, .int .u8 0, .int .u8 0, .int .u8 0] 48)).setRow w1.heap.size (ints .u8 V) = W1 at N1 D1 ⊢
  generalize w1.heap.size = g1 at N1 ⊢
  refine (Hi.out _).mono ?_
  rintro e w2 ⟨rfl, hb⟩
  have B2 := Lib.hid (below_call D1.out D1.out.size hb)
  have N2 := Lib.hid (keep_block N1.out hb)
  clear hb
  have LB := layB w2 (ints .u8 z32) (ints .u8 V) 48
  have M2 := Lib.hid (layN w2 (ints .u8 z32) (ints .u8 V) 48)
  have D2 := Lib.hid (below_call B2.out B2.out.size LB)
  have N3 := Lib.hid (keep_block N2.out LB)
  clear LB
  rw [Hz.out] at N3 M2 D2
  go_wp2_with (first | (refine wpList_store_row rfl 48 _ _ rfl w2.heap.size (ints .u8 V) rfl rfl 48 (ints .u8 z32) (by rw [Hz.out]; exact heap_alloc_last _ _) (by rw [ints_size, HV.out]; exact sizeKey) (by rw [ints_size, ints_size, HV.out]; rfl) (ints_one _ _) ?_) | (refine wpList_load_row rfl 48 (.tmp 2) rfl (w2.heap.size) rfl 48 (ints .u8 V) (0, 0) _ M2.out Try.underlying48 rfl (by rw [ints_size, HV.out]; exact sizeKey) ?_) | (refine wpList_load_row rfl 48 (.tmp 1) rfl (g1) rfl 48 (ints .u8 V) (0, 0) _ N3.out Try.underlying48 rfl (by rw [ints_size, HV.out]; exact sizeKey) ?_))
  generalize (w2.alloc (.cells #[.int .u8 0, .int .u8 0, .int .u8 0, .int .u8 0, .int .u8 0, .int .u8 0, .int .u8 0, .int .u8 0, .int .u8 0, .int .u8 0, .int .u8 0, .int .u8 0, .int .u8 0, .int .u8 0, .int .u8 0, .int .u8 0, .int .u8 0, .int .u8 0, .int .u8 0, .int .u8 0, .int .u8 0, .int .u8 0, .int .u8 0, .int .u8 0, .int .u8 0, .int .u8 0, .int .u8 0, .int .u8 0, .int .u8 0, .int .u8 0, .int .u8 0, .int .u8 0] 48)).setRow w2.heap.size (ints .u8 V) = W2 at D2 ⊢
  refine (eqKey_ V HV.out _).mono ?_
  rintro e w3 ⟨rfl, hb⟩
  have B3 := Lib.hid (below_call D2.out D2.out.size hb)
  clear hb
  go_wp2
  go_ret
  exact ⟨rfl, B3.out⟩
end Go.Proofs.Ytojfojkfopplnab
