/- The key of data, as the specification has it. -/
import Derived.Test.YtdoelmjaongjfaaEnd
import Derived.Test.YtdoelmjaongjfaaStart
namespace Go.Proofs.Ytdoelmjaongjfaa
open Go.ChangeShapes Go.WideShapes Go.ChangeAt Go.RowKit
set_option linter.unusedVariables false
theorem startW_ok {tag : Int} (h0 : 0 ≤ tag) (h1 : tag ≤ 255) : W32 (startW tag) := by
  refine ⟨startW_len tag, fun x hx => ?_⟩
  obtain ⟨i, hi, rfl⟩ := List.mem_iff_getElem.1 hx
  have h8 := startW_len tag
  have := startW_at tag i (by omega)
  rw [List.getElem?_eq_getElem hi] at this
  simp only [Option.getD_some] at this
  rw [this]
  omega
/-- The key of data with a tag. -/
def hashK (tag : Int) (l : List Int) : List Int := endK (startW tag) l l.length
theorem hashK_len (tag : Int) (l : List Int) : (hashK tag l).length = 32 := keyS_len _
set_option maxRecDepth 100000 in
set_option maxHeartbeats 1000000 in
theorem hash_spec (tag : Int) (b off n cap : Nat) (l : List Int) (h0 : 0 ≤ tag) (h1 : tag ≤ 255) (fl : ∀ z ∈ l, 0 ≤ z ∧ z ≤ 255) (hn : n ≤ 1048576) (w : World) (hl : l.length = n) (hb : b < w.heap.size) (hc : ∀ j, j < n → w.cell? ⟨b, off + j, none⟩ = some (.int .u8 (l[j]?.getD 0))) :
    Calls Try.prog 106 #[.int .u8 tag, .slice (some ⟨b, off, none⟩) n cap] w fun e w' => e = .returned (.agg (ints .u8 (hashK tag l))) ∧ Below w.heap.size w w' := by
  have He := Lib.hid (fun (W : World) hb hc => end_spec (startW tag) b off n cap l n (startW_ok h0 h1) fl hn (by omega) (by omega) W hl hb hc)
  have Hs := Lib.hid (fun W => start_spec0 tag h0 h1 W)
  have Hq : Hid (hashK tag l = endK (startW tag) l n) := Lib.hid (by unfold hashK; rw [hl])
  have Hkl := Lib.hid (hashK_len tag l)
  have Hz := Lib.hid z32_ints
  rw [← Hq.out] at He
  have HC := Lib.hid hc
  have HL := Lib.hid hb
  clear hc hb fl hl Hq
  generalize hashK tag l = K at He Hkl
  generalize startW tag = S at He Hs
  go_enter Try.func106, Try.ntmps106
  go_wp2_with fail
  refine (Hs.out _).mono ?_
  rintro e w1 ⟨rfl, hb1⟩
  have B1 := Lib.hid (((Below.refl w.heap.size w).alloc (by simp) (.cells (ints .u8 z32) 46)).trans (by rw [Hz.out]; exact hb1.mono (by simp)))
  have G1 := Lib.hid (keep_block (heap_alloc_last w (.cells (ints .u8 z32) 46)) (by rw [Hz.out]; exact hb1))
  clear hb1
  go_wp2_with fail
  refine (He.out _ (Nat.lt_of_lt_of_le HL.out B1.out.size) (fun j hj => by rw [B1.out.cell (p := ⟨b, off + j, none⟩) HL.out]; exact HC.out j hj)).mono ?_
  rintro e w2 ⟨rfl, hb2⟩
  have B2 := Lib.hid (below_call B1.out B1.out.size hb2)
  have G2 := Lib.hid (keep_block G1.out hb2)
  clear hb2
  go_wp2_with (refine wpList_store_row rfl 46 _ _ rfl w.heap.size (ints .u8 K) rfl rfl 46 (ints .u8 z32) G2.out (by rw [ints_size, Hkl.out]; exact sizeKey) (by rw [ints_size, ints_size, Hkl.out]; rfl) (ints_one _ _) ?_)
  refine bodyPost_ret (results_cell_row rfl _ _ w.heap.size 46 (ints .u8 K) (0, 0) _ rfl (setRow_heap _ _ _ _ _ _ G2.out) Try.underlying46 rfl (by rw [ints_size, Hkl.out]; exact sizeKey)) rfl ⟨rfl, ?_⟩
  exact Below.setRow B2.out (Nat.le_refl _) _
end Go.Proofs.Ytdoelmjaongjfaa
