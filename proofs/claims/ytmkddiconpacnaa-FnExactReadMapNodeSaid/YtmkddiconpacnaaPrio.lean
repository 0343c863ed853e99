/- Priorities of names, and keys of maps. Written by wip/gen/prio.py. -/
import Derived.Test.YtmkddiconpacnaaVal
import Derived.Test.YtmkddiconpacnaaHashI
import Derived.Lib.ConvBytes
namespace Go.Proofs.Ytmkddiconpacnaa
open Go.ChangeShapes Go.WideShapes Go.ChangeAt Go.RowKit
set_option linter.unusedVariables false
set_option linter.unusedSimpArgs false
/-- The bytes of a text, as numbers. -/
def btS (s : ByteArray) : List Int := s.data.toList.map fun b => (b.toNat : Int)
theorem btS_len (s : ByteArray) : (btS s).length = s.size := by simp [btS]
theorem btS_range (s : ByteArray) : ∀ z ∈ btS s, 0 ≤ z ∧ z ≤ 255 := by
  intro z hz
  obtain ⟨b, _, rfl⟩ := List.mem_map.1 hz
  have := b.toNat_lt
  omega
theorem layB (w : World) (old new : Array Value) (t : TypeId) : Below w.heap.size w ((w.alloc (.cells old t)).setRow w.heap.size new) := Below.setRow ((Below.refl _ _).alloc (Nat.le_refl _) _) (Nat.le_refl _) _
theorem layN (w : World) (old new : Array Value) (t : TypeId) : ((w.alloc (.cells old t)).setRow w.heap.size new).heap[w.heap.size]? = some (.cells new t) := setRow_heap _ _ old new _ _ (heap_alloc_last w (.cells old t))
/-- A text as a slice of bytes. -/
theorem conv_bytes (s : ByteArray) (w : World) : ∃ W1 cap, (convert 9 40 (.string s)).run Try.prog w = .ok (.slice (some ⟨w.heap.size, 0, none⟩) s.size cap) W1 ∧ Below w.heap.size w W1 ∧ w.heap.size < W1.heap.size ∧ (∀ j, j < s.size → W1.cell? ⟨w.heap.size, 0 + j, none⟩ = some (.int .u8 ((btS s)[j]?.getD 0))) := by
  refine ⟨_, _, Lib.run_convert_string_bytes w 9 40 5 s Try.underlying9 Try.underlying40 Try.underlying5, ?_, by rw [Lib.bytesWorld_size]; omega, fun j hj => ?_⟩
  · exact ⟨rfl, rfl, rfl, by rw [Lib.bytesWorld_size]; omega, fun k hk => Lib.bytesWorld_at_old w 5 s k hk⟩
  · rw [Nat.zero_add, Lib.bytesWorld_cell w 5 s j hj]
    simp [btS, List.getElem?_eq_getElem (show j < s.data.toList.length by simpa using hj)]
/-- The key of the empty map. -/
def emK : List Int := hashK 5 []
theorem hash_imp (tag : Int) (a : Option Addr) (n cap : Nat) (l : List Int) (h0 : 0 ≤ tag) (h1 : tag ≤ 255) (fl : ∀ z ∈ l, 0 ≤ z ∧ z ≤ 255) (hn : n ≤ 4096) (w : World) (hr : Rd .u8 w a n l) :
    Calls Try.prog 119 #[.int .u8 tag, .slice a n cap] w fun e w' => e = .returned (.tuple #[.agg (ints .u8 (hashK tag l)), .int .i64 0]) ∧ Below w.heap.size w w' := by
  have h := hasho_impl tag a n cap l h0 h1 fl (by omega) w hr
  unfold hashV hashE at h
  rw [if_pos (by rw [hr.1]; exact hn), if_pos (by rw [hr.1]; exact hn)] at h
  exact h
set_option maxRecDepth 100000 in
set_option maxHeartbeats 2000000 in
theorem prio_spec (s : ByteArray) (hs : s.size ≤ 4096) (w : World) :
    Calls Try.prog 147 #[.string s] w fun e w' => e = .returned (.agg (ints .u8 (hashK 4 (btS s)))) ∧ Below w.heap.size w w' := by
  have Hz := Lib.hid z32_ints
  have A0 := Lib.hid (heap_alloc_last w (.cells (ints .u8 z32) 43))
  have B0 := Lib.hid ((Below.refl w.heap.size w).alloc (Nat.le_refl _) (.cells (ints .u8 z32) 43))
  obtain ⟨W0, hW0⟩ : ∃ W0, w.alloc (.cells (ints .u8 z32) 43) = W0 := ⟨_, rfl⟩
  rw [hW0] at A0 B0
  rw [Hz.out] at hW0
  obtain ⟨W1, cp, hcv, hb, hlt, hr⟩ := conv_bytes s W0
  have HV := Lib.hid (hashK_len 4 (btS s))
  have HH := Lib.hid (hash_spec 4 W0.heap.size 0 s.size cp (btS s) (by omega) (by omega) (btS_range s) (by omega) W1 (btS_len s) hlt hr)
  generalize hashK 4 (btS s) = V at HV HH ⊢
  have HB := Lib.hid hb
  clear hb hr hlt
  go_enter Try.func147, Try.ntmps147
  go_wp2_with fail
  clear hW0 hcv
  refine HH.out.mono ?_
  rintro e w1 ⟨rfl, hb⟩
  have hb := HB.out.trans (hb.mono HB.out.size)
  have B1 := Lib.hid (below_call B0.out B0.out.size hb)
  have A1 := Lib.hid (keep_block A0.out hb)
  clear hb
  go_wp2_with (refine wpList_store_row rfl 43 _ _ rfl w.heap.size (ints .u8 V) rfl rfl 43 (ints .u8 z32) A1.out (by rw [ints_size, HV.out]; exact sizeKey) (by rw [ints_size, ints_size, HV.out]; rfl) (ints_one _ _) ?_)
  refine bodyPost_ret (results_cell_row rfl _ _ w.heap.size 43 (ints .u8 V) (0, 0) _ rfl (setRow_heap _ _ (ints .u8 z32) _ _ _ A1.out) Try.underlying43 rfl (by rw [ints_size, HV.out]; exact sizeKey)) rfl ⟨rfl, ?_⟩
  exact Below.setRow B1.out (Nat.le_refl _) _
set_option maxRecDepth 100000 in
set_option maxHeartbeats 2000000 in
theorem prio_impl (s : ByteArray) (hs : s.size ≤ 4096) (w : World) :
    Calls Try.prog 122 #[.string s] w fun e w' => e = .returned (.agg (ints .u8 (hashK 4 (btS s)))) ∧ Below w.heap.size w w' := by
  have Hz := Lib.hid z32_ints
  have A0 := Lib.hid (heap_alloc_last w (.cells (ints .u8 z32) 43))
  have B0 := Lib.hid ((Below.refl w.heap.size w).alloc (Nat.le_refl _) (.cells (ints .u8 z32) 43))
  obtain ⟨W0, hW0⟩ : ∃ W0, w.alloc (.cells (ints .u8 z32) 43) = W0 := ⟨_, rfl⟩
  rw [hW0] at A0 B0
  rw [Hz.out] at hW0
  obtain ⟨W1, cp, hcv, hb, hlt, hr⟩ := conv_bytes s W0
  have HV := Lib.hid (hashK_len 4 (btS s))
  have HH := Lib.hid (hash_imp 4 _ _ cp (btS s) (by omega) (by omega) (btS_range s) hs W1 ⟨btS_len s, Or.inr ⟨_, _, rfl, hlt, hr⟩⟩)
  generalize hashK 4 (btS s) = V at HV HH ⊢
  have HB := Lib.hid hb
  clear hb hr hlt
  go_enter Try.func122, Try.ntmps122
  go_wp2_with fail
  clear hW0 hcv
  refine HH.out.mono ?_
  rintro e w1 ⟨rfl, hb⟩
  have hb := HB.out.trans (hb.mono HB.out.size)
  have B1 := Lib.hid (below_call B0.out B0.out.size hb)
  have A1 := Lib.hid (keep_block A0.out hb)
  clear hb
  have LA := layB w1 (ints .u8 z32) (ints .u8 V) 43
  have B2 := Lib.hid (below_call B1.out B1.out.size LA)
  have A2 := Lib.hid (keep_block A1.out LA)
  have F2 := Lib.hid (layN w1 (ints .u8 z32) (ints .u8 V) 43)
  clear LA
  rw [Hz.out] at A2 F2 B2
  go_wp2_with (first | (refine wpList_store_row rfl 43 _ _ rfl w1.heap.size (ints .u8 V) rfl rfl 43 (ints .u8 z32) (by rw [Hz.out]; exact heap_alloc_last _ _) (by rw [ints_size, HV.out]; exact sizeKey) (by rw [ints_size, ints_size, HV.out]; rfl) (ints_one _ _) ?_) | (refine wpList_load_row rfl 43 (.tmp 3) rfl (w1.heap.size) rfl 43 (ints .u8 V) (0, 0) _ F2.out Try.underlying43 rfl (by rw [ints_size, HV.out]; exact sizeKey) ?_) | (refine wpList_store_row rfl 43 _ _ rfl w.heap.size (ints .u8 V) rfl rfl 43 (ints .u8 z32) A2.out (by rw [ints_size, HV.out]; exact sizeKey) (by rw [ints_size, ints_size, HV.out]; rfl) (ints_one _ _) ?_))
  refine bodyPost_ret (results_cell_row rfl _ _ w.heap.size 43 (ints .u8 V) (0, 0) _ rfl (setRow_heap _ _ (ints .u8 z32) _ _ _ A2.out) Try.underlying43 rfl (by rw [ints_size, HV.out]; exact sizeKey)) rfl ⟨rfl, ?_⟩
  exact Below.setRow B2.out (Nat.le_refl _) _
end Go.Proofs.Ytmkddiconpacnaa
