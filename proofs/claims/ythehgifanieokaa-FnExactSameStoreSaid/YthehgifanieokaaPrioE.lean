/- Priorities, and the key of the empty map. Written by wip/gen/prio.py. -/
import Derived.Test.YthehgifanieokaaPrio
namespace Go.Proofs.Ythehgifanieokaa
open Go.ChangeShapes Go.WideShapes Go.ChangeAt Go.RowKit
set_option linter.unusedVariables false
set_option linter.unusedSimpArgs false
set_option maxRecDepth 100000 in
set_option maxHeartbeats 2000000 in
theorem maph_impl (a : Option Addr) (n cap : Nat) (l : List Int) (fl : ∀ z ∈ l, 0 ≤ z ∧ z ≤ 255) (hn : n ≤ 4096) (w : World) (hr : Rd .u8 w a n l) :
    Calls Try.prog 120 #[.slice a n cap] w fun e w' => e = .returned (.agg (ints .u8 (hashK 5 l))) ∧ Below w.heap.size w w' := by
  have Hz := Lib.hid z32_ints
  have A0 := Lib.hid (heap_alloc_last w (.cells (ints .u8 z32) 33))
  have B0 := Lib.hid ((Below.refl w.heap.size w).alloc (Nat.le_refl _) (.cells (ints .u8 z32) 33))
  obtain ⟨W0, hW0⟩ : ∃ W0, w.alloc (.cells (ints .u8 z32) 33) = W0 := ⟨_, rfl⟩
  rw [hW0] at A0 B0
  rw [Hz.out] at hW0
  have HV := Lib.hid (hashK_len 5 l)
  have HH := Lib.hid (hash_imp 5 a n cap l (by omega) (by omega) fl hn W0 (hr.below B0.out))
  generalize hashK 5 l = V at HV HH ⊢
  clear hr
  go_enter Try.func120, Try.ntmps120
  go_wp2_with fail
  clear hW0
  refine HH.out.mono ?_
  rintro e w1 ⟨rfl, hb⟩
  have B1 := Lib.hid (below_call B0.out B0.out.size hb)
  have A1 := Lib.hid (keep_block A0.out hb)
  clear hb
  have LA := layB w1 (ints .u8 z32) (ints .u8 V) 33
  have B2 := Lib.hid (below_call B1.out B1.out.size LA)
  have A2 := Lib.hid (keep_block A1.out LA)
  have F2 := Lib.hid (layN w1 (ints .u8 z32) (ints .u8 V) 33)
  clear LA
  rw [Hz.out] at A2 F2 B2
  go_wp2_with (first | (refine wpList_store_row rfl 33 _ _ rfl w1.heap.size (ints .u8 V) rfl rfl 33 (ints .u8 z32) (by rw [Hz.out]; exact heap_alloc_last _ _) (by rw [ints_size, HV.out]; exact sizeKey) (by rw [ints_size, ints_size, HV.out]; rfl) (ints_one _ _) ?_) | (refine wpList_load_row rfl 33 (.tmp 3) rfl (w1.heap.size) rfl 33 (ints .u8 V) (0, 0) _ F2.out Try.underlying33 rfl (by rw [ints_size, HV.out]; exact sizeKey) ?_) | (refine wpList_store_row rfl 33 _ _ rfl w.heap.size (ints .u8 V) rfl rfl 33 (ints .u8 z32) A2.out (by rw [ints_size, HV.out]; exact sizeKey) (by rw [ints_size, ints_size, HV.out]; rfl) (ints_one _ _) ?_))
  refine bodyPost_ret (results_cell_row rfl _ _ w.heap.size 33 (ints .u8 V) (0, 0) _ rfl (setRow_heap _ _ (ints .u8 z32) _ _ _ A2.out) Try.underlying33 rfl (by rw [ints_size, HV.out]; exact sizeKey)) rfl ⟨rfl, ?_⟩
  exact Below.setRow B2.out (Nat.le_refl _) _
theorem emK_len : emK.length = 32 := hashK_len _ _
set_option maxRecDepth 100000 in
set_option maxHeartbeats 2000000 in
theorem empty_impl (w : World) : Calls Try.prog 99 #[] w fun e w' => e = .returned (.agg (ints .u8 emK)) ∧ Below w.heap.size w w' := by
  have Hz := Lib.hid z32_ints
  have A0 := Lib.hid (heap_alloc_last w (.cells (ints .u8 z32) 33))
  have B0 := Lib.hid ((Below.refl w.heap.size w).alloc (Nat.le_refl _) (.cells (ints .u8 z32) 33))
  obtain ⟨W0, hW0⟩ : ∃ W0, w.alloc (.cells (ints .u8 z32) 33) = W0 := ⟨_, rfl⟩
  rw [hW0] at A0 B0
  rw [Hz.out] at hW0
  have HV := Lib.hid emK_len
  have HH := Lib.hid (maph_impl none 0 0 [] (by simp) (by omega) W0 ⟨rfl, Or.inl rfl⟩)
  rw [show hashK 5 [] = emK from rfl] at HH
  generalize emK = V at HV HH ⊢
  go_enter Try.func99, Try.ntmps99
  go_wp2_with fail
  clear hW0
  refine HH.out.mono ?_
  rintro e w1 ⟨rfl, hb⟩
  have B1 := Lib.hid (below_call B0.out B0.out.size hb)
  have A1 := Lib.hid (keep_block A0.out hb)
  clear hb
  go_wp2_with (refine wpList_store_row rfl 33 _ _ rfl w.heap.size (ints .u8 V) rfl rfl 33 (ints .u8 z32) A1.out (by rw [ints_size, HV.out]; exact sizeKey) (by rw [ints_size, ints_size, HV.out]; rfl) (ints_one _ _) ?_)
  refine bodyPost_ret (results_cell_row rfl _ _ w.heap.size 33 (ints .u8 V) (0, 0) _ rfl (setRow_heap _ _ (ints .u8 z32) _ _ _ A1.out) Try.underlying33 rfl (by rw [ints_size, HV.out]; exact sizeKey)) rfl ⟨rfl, ?_⟩
  exact Below.setRow B1.out (Nat.le_refl _) _
set_option maxRecDepth 100000 in
set_option maxHeartbeats 2000000 in
theorem empty_spec1 (w : World) : Calls Try.prog 98 #[] w fun e w' => e = .returned (.agg (ints .u8 emK)) ∧ Below w.heap.size w w' := by
  have Hz := Lib.hid z32_ints
  have A0 := Lib.hid (heap_alloc_last w (.cells (ints .u8 z32) 33))
  have B0 := Lib.hid ((Below.refl w.heap.size w).alloc (Nat.le_refl _) (.cells (ints .u8 z32) 33))
  obtain ⟨W0, hW0⟩ : ∃ W0, w.alloc (.cells (ints .u8 z32) 33) = W0 := ⟨_, rfl⟩
  rw [hW0] at A0 B0
  rw [Hz.out] at hW0
  have HV := Lib.hid emK_len
  have HH := Lib.hid (fun U (h : W0.heap.size < U.heap.size) => hash_spec 5 W0.heap.size 0 0 0 [] (by omega) (by omega) (by simp) (by omega) U rfl h (fun j hj => by omega))
  rw [show hashK 5 [] = emK from rfl] at HH
  generalize emK = V at HV HH ⊢
  go_enter Try.func98, Try.ntmps98
  go_wp2_with fail
  clear hW0
  refine (HH.out _ (by simp)).mono ?_
  rintro e w1 ⟨rfl, hb⟩
  have hb := ((Below.refl W0.heap.size W0).alloc (Nat.le_refl _) (.cells #[] 5)).trans (hb.mono (by simp))
  have B1 := Lib.hid (below_call B0.out B0.out.size hb)
  have A1 := Lib.hid (keep_block A0.out hb)
  clear hb
  go_wp2_with (refine wpList_store_row rfl 33 _ _ rfl w.heap.size (ints .u8 V) rfl rfl 33 (ints .u8 z32) A1.out (by rw [ints_size, HV.out]; exact sizeKey) (by rw [ints_size, ints_size, HV.out]; rfl) (ints_one _ _) ?_)
  refine bodyPost_ret (results_cell_row rfl _ _ w.heap.size 33 (ints .u8 V) (0, 0) _ rfl (setRow_heap _ _ (ints .u8 z32) _ _ _ A1.out) Try.underlying33 rfl (by rw [ints_size, HV.out]; exact sizeKey)) rfl ⟨rfl, ?_⟩
  exact Below.setRow B1.out (Nat.le_refl _) _
def poV (s : ByteArray) : List Int := if isNm s then hashK 4 (btS s) else z32
def poE (s : ByteArray) : Int := if isNm s then 0 else 1
theorem poV_len (s : ByteArray) : (poV s).length = 32 := by unfold poV; split; (· exact hashK_len _ _); (· rfl)
end Go.Proofs.Ythehgifanieokaa
