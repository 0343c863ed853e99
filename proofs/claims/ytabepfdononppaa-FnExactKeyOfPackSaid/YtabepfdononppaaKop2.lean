/- The key of a pack's bytes, by specification and program. Written by wip/gen/kop.py. -/
import Derived.Test.YtabepfdononppaaFeK
import Derived.Test.YtabepfdononppaaHashI
import Derived.Test.YtabepfdononppaaKeyOf
import Derived.Test.YtabepfdononppaaStartH
namespace Go.Proofs.Ytabepfdononppaa
open Go.ChangeShapes Go.WideShapes Go.ChangeAt Go.RowKit
set_option linter.unusedVariables false
set_option linter.unusedSimpArgs false
def kopV (l : List Int) : List Int := if l.length ≤ 140000 then hashK 8 l else z32
def kopE (l : List Int) : Int := if l.length ≤ 140000 then 0 else 3
theorem kopV_len (l : List Int) : (kopV l).length = 32 := by unfold kopV; split; (· exact hashK_len _ _); (· rfl)
set_option maxRecDepth 100000 in
set_option maxHeartbeats 4000000 in
set_option maxRecDepth 100000 in
set_option maxHeartbeats 1000000 in
theorem kop_spec (b off n cap : Nat) (l : List Int) (fl : ∀ z ∈ l, 0 ≤ z ∧ z ≤ 255) (hn : n ≤ 1048576) (w : World) (hl : l.length = n) (hb : b < w.heap.size) (hc : ∀ j, j < n → w.cell? ⟨b, off + j, none⟩ = some (.int .u8 (l[j]?.getD 0))) :
    Calls Try.prog 56 #[.slice (some ⟨b, off, none⟩) n cap] w fun e w' => e = .returned (.tuple #[.agg (ints .u8 (kopV l)), .int .i64 (kopE l)]) ∧ Below w.heap.size w w' := by
  have Hz := Lib.hid z32_ints
  by_cases hle : n ≤ 140000
  · have Hk := Lib.hid (fun W hb hc => hash_spec 8 b off n cap l (by omega) (by omega) fl hn W hl hb hc)
    have HV : Hid (kopV l = hashK 8 l) := Lib.hid (by unfold kopV; rw [if_pos (by rw [hl]; exact hle)])
    have HE : Hid (kopE l = 0) := Lib.hid (by unfold kopE; rw [if_pos (by rw [hl]; exact hle)])
    have Hvl := Lib.hid (kopV_len l)
    rw [← HV.out] at Hk
    have HC := Lib.hid hc
    have HL := Lib.hid hb
    clear hc hb fl HV
    generalize kopV l = V at Hvl Hk
    generalize kopE l = E at HE
    have b0 : (n : Int) ≤ 140000 := by omega
    go_enter Try.func56, Try.ntmps56
    go_wp2_with fail
    refine (Hk.out _ (by rw [World.size_alloc]; have := HL.out; omega) (fun j hj => by rw [((Below.refl w.heap.size w).alloc (by simp) _).cell (p := ⟨b, off + j, none⟩) HL.out]; exact HC.out j hj)).mono ?_
    rintro e w4 ⟨rfl, hb⟩
    have B4 := Lib.hid (((Below.refl w.heap.size w).alloc (by simp) (.cells (ints .u8 z32) 46)).trans (by rw [Hz.out]; exact hb.mono (by simp)))
    have G4 := Lib.hid (keep_block (heap_alloc_last w (.cells (ints .u8 z32) 46)) (by rw [Hz.out]; exact hb))
    clear hb
    go_wp2_with (refine wpList_store_row rfl 46 _ _ rfl w.heap.size (ints .u8 V) rfl rfl 46 (ints .u8 z32) G4.out (by rw [ints_size, Hvl.out]; exact sizeKey) (by rw [ints_size, ints_size, Hvl.out]; rfl) (ints_one _ _) ?_)
    refine bodyPost_ret (results_cell2_row rfl _ _ w.heap.size 46 (ints .u8 V) (0, 0) _ rfl (setRow_heap _ _ (ints .u8 z32) _ _ _ G4.out) Try.underlying46 rfl (by rw [ints_size, Hvl.out]; exact sizeKey)) rfl ⟨?_, ?_⟩
    · rw [HE.out]; rfl
    · exact Below.setRow B4.out (Nat.le_refl _) _
  · have HV : Hid (kopV l = z32) := Lib.hid (by unfold kopV; rw [if_neg (by rw [hl]; exact hle)])
    have HE : Hid (kopE l = 3) := Lib.hid (by unfold kopE; rw [if_neg (by rw [hl]; exact hle)])
    clear hc hb fl
    generalize kopV l = V at HV
    generalize kopE l = E at HE
    have b0 : (140000 : Int) < (n : Int) := by omega
    have G1 := Lib.hid (heap_alloc_last w (.cells (ints .u8 z32) 46))
    go_enter Try.func56, Try.ntmps56
    go_wp2_with (refine wpList_store_row rfl 46 _ _ rfl w.heap.size (ints .u8 z32) rfl rfl 46 (ints .u8 z32) (by rw [Hz.out]; exact heap_alloc_last _ _) (by rw [ints_size]; exact sizeKey) rfl (ints_one _ _) ?_)
    refine bodyPost_ret (results_cell2_row rfl _ _ w.heap.size 46 (ints .u8 z32) (0, 0) _ rfl (setRow_heap _ _ (ints .u8 z32) _ _ _ (by rw [Hz.out]; exact heap_alloc_last _ _)) Try.underlying46 rfl (by rw [ints_size]; exact sizeKey)) rfl ⟨?_, ?_⟩
    · rw [HV.out, HE.out]; rfl
    · rw [← Hz.out]; exact Below.setRow ((Below.refl _ _).alloc (by simp) _) (Nat.le_refl _) _
set_option maxRecDepth 100000 in
set_option maxHeartbeats 4000000 in
theorem kp_impl0 (a : Option Addr) (n cap : Nat) (l : List Int) (fl : ∀ z ∈ l, 0 ≤ z ∧ z ≤ 255) (hn : n ≤ 1048576) (w : World) (hr : Rd .u8 w a n l) :
    Calls Try.prog 91 #[.slice a n cap] w fun e w' => e = .returned (.agg (ints .u8 (hashK 8 l))) ∧ Below w.heap.size w w' := by
  have Hz := Lib.hid z32_ints
  have hl := hr.1
  obtain ⟨s0, s1, s2, s3, s4, s5, s6, s7, hs⟩ : ∃ s0 s1 s2 s3 s4 s5 s6 s7, startW 8 = [s0, s1, s2, s3, s4, s5, s6, s7] := ⟨_, _, _, _, _, _, _, _, rfl⟩
  have hsr : W32 [s0, s1, s2, s3, s4, s5, s6, s7] := by rw [← hs]; exact startW_ok (by omega) (by omega)
  have HSt := Lib.hid (fun U => startH_impl 8 (by omega) (by omega) s0 s1 s2 s3 s4 s5 s6 s7 hs U)
  have HFd := Lib.hid (fun U (hU : Below w.heap.size w U) => fed_impl s0 s1 s2 s3 s4 s5 s6 s7 none a 0 0 n cap [] l 0 hsr (by simp) fl (by omega) hn (by omega) (by omega) U ⟨rfl, Or.inl rfl⟩ (hr.below hU))
  have HFO := Lib.hid (show W32 (fedS [s0, s1, s2, s3, s4, s5, s6, s7] l) from mixB_ok hsr _)
  have HT := Lib.hid (show ∀ z ∈ fedT l, 0 ≤ z ∧ z ≤ 255 from fun z hz => fl z (List.mem_of_mem_drop hz))
  have HTl := Lib.hid (show (fedT l).length ≤ 1048576 by unfold fedT; simp; omega)
  have HEQ := Lib.hid (show endK (fedS [s0, s1, s2, s3, s4, s5, s6, s7] l) (fedT l) (n : Int) = hashK 8 l by rw [endK_fed, ← hs]; unfold hashK; rw [hl])
  have HVL := Lib.hid (hashK_len 8 l)
  generalize hashK 8 l = V at HEQ HVL ⊢
  have K0 := Lib.hid (heap_alloc_last w (.cells (ints .u8 z32) 46))
  have B0 := Lib.hid ((Below.refl w.heap.size w).alloc (Nat.le_refl _) (.cells (ints .u8 z32) 46))
  clear hs hsr hr fl hl
  go_enter Try.func91, Try.ntmps91
  go_wp2_with fail
  refine (HSt.out _).mono ?_
  rintro e w1 ⟨rfl, hb⟩
  have B1 := Lib.hid (B0.out.trans (by rw [Hz.out]; exact hb.mono (by simp)))
  have K1 := Lib.hid (keep_block K0.out (by rw [Hz.out]; exact hb))
  clear hb
  go_wp2_with fail
  refine (HFd.out _ B1.out).mono ?_
  rintro e w2 ⟨y0, y1, y2, y3, y4, y5, y6, y7, v, hy, rfl, ho, hb⟩
  rw [List.nil_append] at hy ho
  have B2 := Lib.hid (below_call B1.out B1.out.size hb)
  have K2 := Lib.hid (keep_block K1.out hb)
  obtain ⟨ta, tc, rfl, hrd⟩ := Rd.owned ho
  have HR := Lib.hid hrd
  have HY := Lib.hid hy
  clear hb ho hrd hy
  go_wp2_with fail
  with_reducible refine (key_impl y0 y1 y2 y3 y4 y5 y6 y7 ta _ tc (fedT l) (n : Int) (by rw [← HY.out]; exact HFO.out) HT.out HTl.out (by omega) (by omega) w2 HR.out).mono ?_
  rintro e w3 ⟨rfl, hb⟩
  rw [← HY.out, HEQ.out]
  have B3 := Lib.hid (below_call B2.out B2.out.size hb)
  have K3 := Lib.hid (keep_block K2.out hb)
  clear hb
  go_wp2_with (refine wpList_store_row rfl 46 _ _ rfl w.heap.size (ints .u8 V) rfl rfl 46 (ints .u8 z32) K3.out (by rw [ints_size, HVL.out]; exact sizeKey) (by rw [ints_size, ints_size, HVL.out]; rfl) (ints_one _ _) ?_)
  refine bodyPost_ret (results_cell_row rfl _ _ w.heap.size 46 (ints .u8 V) (0, 0) _ rfl (setRow_heap _ _ (ints .u8 z32) _ _ _ K3.out) Try.underlying46 rfl (by rw [ints_size, HVL.out]; exact sizeKey)) rfl ⟨rfl, ?_⟩
  exact Below.setRow B3.out (Nat.le_refl _) _
set_option maxRecDepth 100000 in
set_option maxHeartbeats 4000000 in
set_option maxRecDepth 100000 in
set_option maxHeartbeats 1000000 in
theorem kop_impl (a : Option Addr) (n cap : Nat) (l : List Int) (fl : ∀ z ∈ l, 0 ≤ z ∧ z ≤ 255) (hn : n ≤ 1048576) (w : World) (hr : Rd .u8 w a n l) :
    Calls Try.prog 57 #[.slice a n cap] w fun e w' => e = .returned (.tuple #[.agg (ints .u8 (kopV l)), .int .i64 (kopE l)]) ∧ Below w.heap.size w w' := by
  have Hz := Lib.hid z32_ints
  have hl := hr.1
  by_cases hle : n ≤ 140000
  · have Hk := Lib.hid (fun W (hW : Below w.heap.size w W) => kp_impl0 a n cap l fl hn W (hr.below hW))
    have HV : Hid (kopV l = hashK 8 l) := Lib.hid (by unfold kopV; rw [if_pos (by rw [hl]; exact hle)])
    have HE : Hid (kopE l = 0) := Lib.hid (by unfold kopE; rw [if_pos (by rw [hl]; exact hle)])
    have Hvl := Lib.hid (kopV_len l)
    rw [← HV.out] at Hk
    clear hr fl HV
    generalize kopV l = V at Hvl Hk
    generalize kopE l = E at HE
    have b0 : (n : Int) ≤ 140000 := by omega
    go_enter Try.func57, Try.ntmps57
    go_wp2_with fail
    refine (Hk.out _ ((Below.refl _ _).alloc (Nat.le_refl _) _)).mono ?_
    rintro e w4 ⟨rfl, hb⟩
    have B4 := Lib.hid (((Below.refl w.heap.size w).alloc (by simp) (.cells (ints .u8 z32) 46)).trans (by rw [Hz.out]; exact hb.mono (by simp)))
    have G4 := Lib.hid (keep_block (heap_alloc_last w (.cells (ints .u8 z32) 46)) (by rw [Hz.out]; exact hb))
    clear hb
    go_wp2_with (refine wpList_store_row rfl 46 _ _ rfl w.heap.size (ints .u8 V) rfl rfl 46 (ints .u8 z32) G4.out (by rw [ints_size, Hvl.out]; exact sizeKey) (by rw [ints_size, ints_size, Hvl.out]; rfl) (ints_one _ _) ?_)
    refine bodyPost_ret (results_cell2_row rfl _ _ w.heap.size 46 (ints .u8 V) (0, 0) _ rfl (setRow_heap _ _ (ints .u8 z32) _ _ _ G4.out) Try.underlying46 rfl (by rw [ints_size, Hvl.out]; exact sizeKey)) rfl ⟨?_, ?_⟩
    · rw [HE.out]; rfl
    · exact Below.setRow B4.out (Nat.le_refl _) _
  · have HV : Hid (kopV l = z32) := Lib.hid (by unfold kopV; rw [if_neg (by rw [hl]; exact hle)])
    have HE : Hid (kopE l = 3) := Lib.hid (by unfold kopE; rw [if_neg (by rw [hl]; exact hle)])
    clear hr fl
    generalize kopV l = V at HV
    generalize kopE l = E at HE
    have b0 : (140000 : Int) < (n : Int) := by omega
    have G1 := Lib.hid (heap_alloc_last w (.cells (ints .u8 z32) 46))
    go_enter Try.func57, Try.ntmps57
    go_wp2_with (refine wpList_store_row rfl 46 _ _ rfl w.heap.size (ints .u8 z32) rfl rfl 46 (ints .u8 z32) (by rw [Hz.out]; exact heap_alloc_last _ _) (by rw [ints_size]; exact sizeKey) rfl (ints_one _ _) ?_)
    refine bodyPost_ret (results_cell2_row rfl _ _ w.heap.size 46 (ints .u8 z32) (0, 0) _ rfl (setRow_heap _ _ (ints .u8 z32) _ _ _ (by rw [Hz.out]; exact heap_alloc_last _ _)) Try.underlying46 rfl (by rw [ints_size]; exact sizeKey)) rfl ⟨?_, ?_⟩
    · rw [HV.out, HE.out]; rfl
    · rw [← Hz.out]; exact Below.setRow ((Below.refl _ _).alloc (by simp) _) (Nat.le_refl _) _
end Go.Proofs.Ytabepfdononppaa
