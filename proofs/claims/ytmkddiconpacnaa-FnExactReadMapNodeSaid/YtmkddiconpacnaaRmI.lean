/- ReadMapNode, by the program. Written by wip/gen/rmn.py. -/
import Derived.Test.YtmkddiconpacnaaRmM
import Derived.Test.YtmkddiconpacnaaBlocks
namespace Go.Proofs.Ytmkddiconpacnaa
open Go.ChangeShapes Go.WideShapes Go.ChangeAt Go.RowKit
set_option linter.unusedVariables false
set_option linter.unusedSimpArgs false
set_option maxRecDepth 100000 in
set_option maxHeartbeats 8000000 in
theorem rm_in (b off n cap : Nat) (l : List Int) (hn : n ≤ 1048576) (hc : n ≤ cap) (hm : cap ≤ maxLen) (fl : ∀ z ∈ l, 0 ≤ z ∧ z ≤ 255) (w : World) (hl : l.length = n) (h65 : 65 ≤ n) (hq : 65 + rnQ l ≤ n) (hb : b < w.heap.size) (hcell : ∀ j, j < n → w.cell? ⟨b, off + j, none⟩ = some (.int .u8 (l[j]?.getD 0))) :
    Calls Try.prog 33 #[.slice (some ⟨b, off, none⟩) n cap] w fun e w' => e = .returned (.tuple #[.agg (rnC l), .int .i64 (rnE l)]) ∧ Below w.heap.size w w' := by
  have TL := Lib.hid (take32_len (l := l) (by omega))
  have BN := Lib.hid (built_node (l.take 32) ((l.drop 32).take 32) (rnN l) (rnW l) TL.out.1 TL.out.2)
  have A0 := heap_alloc_last w (.cells (nodC z32 z32 ⟨#[]⟩ ⟨#[]⟩) 45)
  have B0' := (Below.refl w.heap.size w).alloc (Nat.le_refl _) (.cells (nodC z32 z32 ⟨#[]⟩ ⟨#[]⟩) 45)
  obtain ⟨W0, hW0⟩ : ∃ W0, w.alloc (.cells (nodC z32 z32 ⟨#[]⟩ ⟨#[]⟩) 45) = W0 := ⟨_, rfl⟩
  rw [hW0] at A0 B0'
  rw [nodZ] at hW0
  have X0 := Lib.hid A0
  have B0 := Lib.hid B0'
  have cellsU : ∀ U, Below W0.heap.size W0 U → ∀ j, j < n → U.cell? ⟨b, off + j, none⟩ = some (.int .u8 (l[j]?.getD 0)) := fun U hU j hj => by
    rw [(below_call B0' B0'.size hU).cell (p := ⟨b, off + j, none⟩) hb]
    exact hcell j hj
  have R0 := Lib.hid (show W0.rangeAt b off ((l.take 32).map (Value.int .u8)) from by have := rd_range hl (cellsU W0 (Below.refl _ _)) 0 32 (by omega); rwa [Nat.add_zero, List.drop_zero] at this)
  have R1 := Lib.hid (show W0.rangeAt b (off + 32) (((l.drop 32).take 32).map (Value.int .u8)) from rd_range hl (cellsU W0 (Below.refl _ _)) 32 32 (by omega))
  have hz : (l[64]?.getD 0) = ((rnQ l : Nat) : Int) := by
    have := fl (l[64]'(by omega)) (List.getElem_mem _)
    unfold rnQ
    rw [List.getElem?_eq_getElem (by omega)]
    simp only [Option.getD_some]
    omega
  have c64 := cellsU W0 (Below.refl _ _) 64 (by omega)
  rw [hz] at c64
  obtain ⟨A1, hA1⟩ : ∃ A : Addr, (if 65 + rnQ l = 65 then some (⟨b, off, none⟩ : Addr) else some ⟨b, off + 65, none⟩) = some A := by split <;> exact ⟨_, rfl⟩
  obtain ⟨A2, hA2⟩ : ∃ A : Addr, (if cap = 65 + rnQ l then some (⟨b, off, none⟩ : Addr) else some ⟨b, off + (65 + rnQ l), none⟩) = some A := by split <;> exact ⟨_, rfl⟩
  have CV1 := Lib.hid (show ∀ U, Below W0.heap.size W0 U → (convert 40 9 (.slice (some A1) (rnQ l) (rnQ l))).run Try.prog U = .ok (.string (rnN l)) U from fun U hU => by
    split at hA1
    · rename_i h0
      injection hA1 with hA1
      subst hA1
      have h00 : rnQ l = 0 := by omega
      exact run_convert_bytes_arg (P := Try.prog) (w := U) 40 5 Try.underlying40 Try.underlying5 b off (rnQ l) (rnQ l) ((l.drop 65).take (rnQ l)) (by rw [List.length_take, List.length_drop]; omega) (fun i hi => by omega) 9 Try.underlying9
    · injection hA1 with hA1
      subst hA1
      exact run_convert_bytes_arg (P := Try.prog) (w := U) 40 5 Try.underlying40 Try.underlying5 b (off + 65) (rnQ l) (rnQ l) ((l.drop 65).take (rnQ l)) (by rw [List.length_take, List.length_drop]; omega) (fun i hi => by
        rw [Nat.add_assoc, cellsU U hU (65 + i) (by omega), List.getD_eq_getElem?_getD, List.getElem?_take_of_lt hi, List.getElem?_drop]) 9 Try.underlying9)
  have CV2 := Lib.hid (show ∀ U, Below W0.heap.size W0 U → (convert 40 9 (.slice (some A2) (n - (65 + rnQ l)) (cap - (65 + rnQ l)))).run Try.prog U = .ok (.string (rnW l)) U from fun U hU => by
    split at hA2
    · rename_i h0
      injection hA2 with hA2
      subst hA2
      exact run_convert_bytes_arg (P := Try.prog) (w := U) 40 5 Try.underlying40 Try.underlying5 b off (n - (65 + rnQ l)) (cap - (65 + rnQ l)) (l.drop (65 + rnQ l)) (by rw [List.length_drop]; omega) (fun i hi => by omega) 9 Try.underlying9
    · injection hA2 with hA2
      subst hA2
      exact run_convert_bytes_arg (P := Try.prog) (w := U) 40 5 Try.underlying40 Try.underlying5 b (off + (65 + rnQ l)) (n - (65 + rnQ l)) (cap - (65 + rnQ l)) (l.drop (65 + rnQ l)) (by rw [List.length_drop]; omega) (fun i hi => by
        rw [Nat.add_assoc, cellsU U hU (65 + rnQ l + i) (by omega), List.getD_eq_getElem?_getD, List.getElem?_drop]) 9 Try.underlying9)
  have HA1 := Lib.hid hA1
  have HA2 := Lib.hid hA2
  have hs1 : (rnN l).size ≤ maxLen := by rw [rnN_size (by omega)]; unfold maxLen; omega
  have hs2 : (rnW l).size ≤ maxLen := by rw [rnW_size]; unfold maxLen; omega
  have HVN := Lib.hid (fun U => valid_node (l.take 32) ((l.drop 32).take 32) (rnN l) (rnW l) TL.out.1 TL.out.2 hs1 hs2 U)
  have HSZ := Lib.hid (nodC_size (rnN l) (rnW l) TL.out.1 TL.out.2)
  have hBe := rnB_is (l := l) (by omega) (by omega)
  rw [← hBe] at HVN
  have HC := Lib.hid (show rnC l = if rnB l = true then nodC (l.take 32) ((l.drop 32).take 32) (rnN l) (rnW l) else (nodC z32 z32 ⟨#[]⟩ ⟨#[]⟩) from rfl)
  have HE := Lib.hid (show rnE l = if rnB l = true then 0 else 5 from rfl)
  have hm' := hm
  unfold maxLen at hm'
  have q255 : rnQ l ≤ 255 := by
    have := fl (l[64]'(by omega)) (List.getElem_mem _)
    unfold rnQ
    rw [List.getElem?_eq_getElem (by omega)]
    simp only [Option.getD_some]
    omega
  clear hBe hs1 hs2 hA1 hA2 hz fl hcell A0 B0' hl
  clear cellsU
  generalize rnC l = RC at HC ⊢
  generalize rnE l = RE at HE ⊢
  generalize rnB l = BB at HVN HC HE
  generalize rnN l = nm at BN CV1 HVN HSZ HC
  generalize rnW l = vl at BN CV2 HVN HSZ HC
  generalize rnQ l = q at *
  have m0 : (65 + (q : Int)).toNat = 65 + q := by omega
  have m1 : 65 + q - 65 = q := by omega
  have m3 : (0 : Int) ≤ 65 + (q : Int) := by omega
  have m4 : (65 : Int) ≤ 65 + (q : Int) := by omega
  have m5 : 65 + (q : Int) ≤ (n : Int) := by omega
  have m6 : 65 + (q : Int) ≤ (cap : Int) := by omega
  have m7 : (64 : Int) ≤ (cap : Int) := by omega
  have m8 : (32 : Int) ≤ (cap : Int) := by omega
  have m9 : (64 : Int) < (n : Int) := by omega
  have m10 : ¬ (n : Int) < 65 := by omega
  have m11 : ¬ (n : Int) < 65 + (q : Int) := by omega
  have m12 : 65 + q ≤ cap := by omega
  have m13 : 65 ≤ cap := by omega
  generalize hND : nodC (l.take 32) ((l.drop 32).take 32) nm vl = ND at BN HVN HSZ HC
  have HND := Lib.hid hND
  clear hND
  go_enter Try.func33, Try.ntmps33
  go_upto_region 6 with fail
  refine wp_region_held_drew (S := Below (W0).heap.size (W0)) (by kernel_rfl) ((Below.refl _ _).drew) (fun hS => ?_)
  refine takeS (i := 0) (v := .slice (some ⟨b, off, none⟩) n cap) rfl rfl (by kernel_rfl) (by kernel_rfl) (by kernel_rfl) (fun _ _ _ h => h) (Or.inl ⟨by rfl, fun U hU => by go_simp⟩) hS ?_
  try simp only [List.setIfInBounds_toArray, List.set_cons_zero, List.set_cons_succ]
  refine takeS (i := 1) (v := .slice (some ⟨b, off, none⟩) 32 32) rfl rfl (by kernel_rfl) (by kernel_rfl) (by kernel_rfl) (fun _ _ _ h => h) (Or.inl ⟨by rfl, fun U hU => by go_simp⟩) hS ?_
  try simp only [List.setIfInBounds_toArray, List.set_cons_zero, List.set_cons_succ]
  refine takeS (i := 2) (v := .pointer (some ⟨b, off, none⟩)) rfl rfl (by kernel_rfl) (by kernel_rfl) (by kernel_rfl) (fun _ _ _ h => h) (Or.inl ⟨by rfl, fun U hU => by go_simp; rw [run_arrayAt Try.underlying43 (by decide)]; rfl⟩) hS ?_
  try simp only [List.setIfInBounds_toArray, List.set_cons_zero, List.set_cons_succ]
  refine takeS (i := 3) (v := .agg (ints .u8 (l.take 32))) rfl rfl (by kernel_rfl) (by kernel_rfl) (by kernel_rfl) (fun _ _ _ h => h) (yieldsIf_load_mid (by rfl) 43 _ rfl b (off) rfl ((l.take 32).map (Value.int .u8)) _ (fun U hU => rangeAt_below (w := W0) R0.out (hU)) Try.underlying43 rfl (by rw [List.length_map, TL.out.1]; exact sizeKey)) hS ?_
  try simp only [List.setIfInBounds_toArray, List.set_cons_zero, List.set_cons_succ]
  refine takeS (i := 4) (v := .slice (some ⟨b, off, none⟩) n cap) rfl rfl (by kernel_rfl) (by kernel_rfl) (by kernel_rfl) (fun _ _ _ h => h) (Or.inl ⟨by rfl, fun U hU => by go_simp⟩) hS ?_
  try simp only [List.setIfInBounds_toArray, List.set_cons_zero, List.set_cons_succ]
  refine takeS (i := 5) (v := .slice (some ⟨b, off + 32, none⟩) 32 32) rfl rfl (by kernel_rfl) (by kernel_rfl) (by kernel_rfl) (fun _ _ _ h => h) (Or.inl ⟨by rfl, fun U hU => by go_simp⟩) hS ?_
  try simp only [List.setIfInBounds_toArray, List.set_cons_zero, List.set_cons_succ]
  refine takeS (i := 6) (v := .pointer (some ⟨b, off + 32, none⟩)) rfl rfl (by kernel_rfl) (by kernel_rfl) (by kernel_rfl) (fun _ _ _ h => h) (Or.inl ⟨by rfl, fun U hU => by go_simp; rw [run_arrayAt Try.underlying43 (by decide)]; rfl⟩) hS ?_
  try simp only [List.setIfInBounds_toArray, List.set_cons_zero, List.set_cons_succ]
  refine takeS (i := 7) (v := .agg (ints .u8 ((l.drop 32).take 32))) rfl rfl (by kernel_rfl) (by kernel_rfl) (by kernel_rfl) (fun _ _ _ h => h) (yieldsIf_load_mid (by rfl) 43 _ rfl b (off + 32) rfl (((l.drop 32).take 32).map (Value.int .u8)) _ (fun U hU => rangeAt_below (w := W0) R1.out (hU)) Try.underlying43 rfl (by rw [List.length_map, TL.out.2]; exact sizeKey)) hS ?_
  try simp only [List.setIfInBounds_toArray, List.set_cons_zero, List.set_cons_succ]
  refine takeS (i := 8) (v := .slice (some ⟨b, off, none⟩) n cap) rfl rfl (by kernel_rfl) (by kernel_rfl) (by kernel_rfl) (fun _ _ _ h => h) (Or.inl ⟨by rfl, fun U hU => by go_simp⟩) hS ?_
  try simp only [List.setIfInBounds_toArray, List.set_cons_zero, List.set_cons_succ]
  refine takeS (i := 9) (v := .int .i64 (65 + (q : Int))) rfl rfl (by kernel_rfl) (by kernel_rfl) (by kernel_rfl) (fun _ _ _ h => h) (Or.inl ⟨by rfl, fun U hU => by go_simp⟩) hS ?_
  try simp only [List.setIfInBounds_toArray, List.set_cons_zero, List.set_cons_succ]
  refine takeS (i := 10) (v := .int .i64 (65 + (q : Int))) rfl rfl (by kernel_rfl) (by kernel_rfl) (by kernel_rfl) (fun _ _ _ h => h) (Or.inl ⟨by rfl, fun U hU => by go_simp⟩) hS ?_
  try simp only [List.setIfInBounds_toArray, List.set_cons_zero, List.set_cons_succ]
  refine takeS (i := 11) (v := .slice (some A1) q q) rfl rfl (by kernel_rfl) (by kernel_rfl) (by kernel_rfl) (fun _ _ _ h => h) (Or.inl ⟨by rfl, fun U hU => by rw [← HA1.out]; go_simp⟩) hS ?_
  try simp only [List.setIfInBounds_toArray, List.set_cons_zero, List.set_cons_succ]
  refine takeS (i := 12) (v := .string nm) rfl rfl (by kernel_rfl) (by kernel_rfl) (by kernel_rfl) (fun _ _ _ h => h) (Or.inl ⟨by rfl, fun U hU => by have cu := CV1.out U hU; go_simp⟩) hS ?_
  try simp only [List.setIfInBounds_toArray, List.set_cons_zero, List.set_cons_succ]
  refine takeS (i := 13) (v := .slice (some ⟨b, off, none⟩) n cap) rfl rfl (by kernel_rfl) (by kernel_rfl) (by kernel_rfl) (fun _ _ _ h => h) (Or.inl ⟨by rfl, fun U hU => by go_simp⟩) hS ?_
  try simp only [List.setIfInBounds_toArray, List.set_cons_zero, List.set_cons_succ]
  refine takeS (i := 14) (v := .int .i64 (65 + (q : Int))) rfl rfl (by kernel_rfl) (by kernel_rfl) (by kernel_rfl) (fun _ _ _ h => h) (Or.inl ⟨by rfl, fun U hU => by go_simp⟩) hS ?_
  try simp only [List.setIfInBounds_toArray, List.set_cons_zero, List.set_cons_succ]
  refine takeS (i := 15) (v := .slice (some A2) (n - (65 + q)) (cap - (65 + q))) rfl rfl (by kernel_rfl) (by kernel_rfl) (by kernel_rfl) (fun _ _ _ h => h) (Or.inl ⟨by rfl, fun U hU => by rw [← HA2.out]; go_simp⟩) hS ?_
  try simp only [List.setIfInBounds_toArray, List.set_cons_zero, List.set_cons_succ]
  refine takeS (i := 16) (v := .string vl) rfl rfl (by kernel_rfl) (by kernel_rfl) (by kernel_rfl) (fun _ _ _ h => h) (Or.inl ⟨by rfl, fun U hU => by have cu := CV2.out U hU; go_simp⟩) hS ?_
  try simp only [List.setIfInBounds_toArray, List.set_cons_zero, List.set_cons_succ]
  refine takeS (i := 17) (v := .agg #[.string nm, .string vl]) rfl rfl (by kernel_rfl) (by kernel_rfl) (by kernel_rfl) (fun _ _ _ h => h) (Or.inl ⟨by rfl, fun U hU => by go_simp⟩) hS ?_
  try simp only [List.setIfInBounds_toArray, List.set_cons_zero, List.set_cons_succ]
  refine takeS (i := 18) (v := .agg ND) rfl rfl (by kernel_rfl) (by kernel_rfl) (by kernel_rfl) (fun _ _ _ h => h) (yields_builtN (by rfl) 45 _ ND rfl (by simp only [List.map_toArray, List.map_cons, List.map_nil]; exact BN.out)) hS ?_
  try simp only [List.setIfInBounds_toArray, List.set_cons_zero, List.set_cons_succ]
  refine wpAnyH_ready (rs := [19]) (by kernel_rfl) (by simp) ?_
  refine AllReadyH.cons rfl (fun KQ hK => ?_) AllReadyH.nil
  rw [if_pos (by rfl)]
  go_simp
  have N1 := new_block (t := 45) nodZ hS
  have hgg := hS.size
  refine hK.out _ _ (hS.alloc hS.size _) (fun hS => ?_)
  clear hK
  have N1' := Lib.hid N1
  clear N1
  refine wpAnyH_ready (rs := [20]) (by kernel_rfl) (by simp) ?_
  refine AllReadyH.cons rfl (fun KQ hK => ?_) AllReadyH.nil
  rw [if_pos (by rfl)]
  refine wp_store_row (o := ⟨none, _, _, _, _, _⟩) 45 _ _ rfl _ ND rfl rfl 45 (nodC z32 z32 ⟨#[]⟩ ⟨#[]⟩) N1'.out (by rw [HSZ.out]; exact sizeNode) (by rw [HSZ.out, nodC_size _ _ z32_len z32_len]) (by rw [← HND.out]; exact nodC_one _ _ _ _) ?_
  simp only [Act.put]
  have N2 := Lib.hid (setRow_heap _ _ (nodC z32 z32 ⟨#[]⟩ ⟨#[]⟩) ND _ _ N1'.out)
  have hB := Below.setRow hS (Nat.le_refl _) ND
  refine hK.out _ _ hB (fun hS => ?_)
  clear hK
  refine wpAnyH_done (by kernel_rfl) ?_ _
  have N3 := Lib.hid (show ((W0.alloc (.cells (Try.zeroCells45) 45)).drew.setRow W0.heap.size ND).heap[W0.heap.size]? = some (.cells ND 45) from N2.out)
  have X3 := Lib.hid (keep_block X0.out hS)
  have B3 := Lib.hid (below_call B0.out B0.out.size hS)
  clear hS hB N2 N1' hW0
  generalize (W0.alloc (.cells (Try.zeroCells45) 45)).drew.setRow W0.heap.size ND = w3 at N3 X3 B3 ⊢
  generalize W0.heap.size = g3 at N3 ⊢
  go_wp2_with (refine wpList_load_row rfl 45 _ rfl g3 rfl 45 ND (0, 0) _ N3.out Try.underlying45 rfl (by rw [HSZ.out]; exact sizeNode) ?_)
  refine (HVN.out _).mono ?_
  rintro e w4 ⟨rfl, hb4⟩
  have B4 := Lib.hid (below_call B3.out B3.out.size hb4)
  have N4 := Lib.hid (keep_block N3.out hb4)
  have X4 := Lib.hid (keep_block X3.out hb4)
  clear hb4
  cases BB with
  | true =>
    rw [if_pos rfl] at HC HE
    go_wp2_with (first | (refine wpList_load_row rfl 45 _ rfl g3 rfl 45 ND (0, 0) _ N4.out Try.underlying45 rfl (by rw [HSZ.out]; exact sizeNode) ?_) | (refine wpList_store_row rfl 45 _ _ rfl w.heap.size ND rfl rfl 45 (nodC z32 z32 ⟨#[]⟩ ⟨#[]⟩) X4.out (by rw [HSZ.out]; exact sizeNode) (by rw [HSZ.out, nodC_size _ _ z32_len z32_len]) (by rw [← HND.out]; exact nodC_one _ _ _ _) ?_))
    refine bodyPost_ret (results_cell2_row rfl _ _ w.heap.size 45 ND (0, 0) _ rfl (setRow_heap _ _ (nodC z32 z32 ⟨#[]⟩ ⟨#[]⟩) _ _ _ X4.out) Try.underlying45 rfl (by rw [HSZ.out]; exact sizeNode)) rfl ⟨?_, ?_⟩
    · rw [HC.out, HE.out]; rfl
    · exact Below.setRow B4.out (Nat.le_refl _) _
  | false =>
    rw [if_neg (by simp)] at HC HE
    go_wp2_with (refine wpList_store_row rfl 45 _ _ rfl w.heap.size (nodC z32 z32 ⟨#[]⟩ ⟨#[]⟩) rfl rfl 45 (nodC z32 z32 ⟨#[]⟩ ⟨#[]⟩) X4.out (by rw [nodC_size _ _ z32_len z32_len]; exact sizeNode) rfl (nodC_one _ _ _ _) ?_)
    refine bodyPost_ret (results_cell2_row rfl _ _ w.heap.size 45 (nodC z32 z32 ⟨#[]⟩ ⟨#[]⟩) (0, 0) _ rfl (setRow_heap _ _ (nodC z32 z32 ⟨#[]⟩ ⟨#[]⟩) _ _ _ X4.out) Try.underlying45 rfl (by rw [nodC_size _ _ z32_len z32_len]; exact sizeNode)) rfl ⟨?_, ?_⟩
    · rw [HC.out, HE.out]; rfl
    · exact Below.setRow B4.out (Nat.le_refl _) _
set_option maxRecDepth 100000 in
set_option maxHeartbeats 8000000 in
theorem rm_no1 (a : Option Addr) (n cap : Nat) (w : World) (hn : n < 65) :
    Calls Try.prog 33 #[.slice a n cap] w fun e w' => e = .returned (.tuple #[.agg (nodC z32 z32 ⟨#[]⟩ ⟨#[]⟩), .int .i64 5]) ∧ Below w.heap.size w w' := by
  have A0 := heap_alloc_last w (.cells (nodC z32 z32 ⟨#[]⟩ ⟨#[]⟩) 45)
  have B0' := (Below.refl w.heap.size w).alloc (Nat.le_refl _) (.cells (nodC z32 z32 ⟨#[]⟩ ⟨#[]⟩) 45)
  obtain ⟨W0, hW0⟩ : ∃ W0, w.alloc (.cells (nodC z32 z32 ⟨#[]⟩ ⟨#[]⟩) 45) = W0 := ⟨_, rfl⟩
  rw [hW0] at A0 B0'
  rw [nodZ] at hW0
  have X0 := Lib.hid A0
  have B0 := Lib.hid B0'
  have m10 : (n : Int) < 65 := by omega
  clear A0 B0'
  go_enter Try.func33, Try.ntmps33
  go_wp2_with (refine wpList_store_row rfl 45 _ _ rfl w.heap.size (nodC z32 z32 ⟨#[]⟩ ⟨#[]⟩) rfl rfl 45 (nodC z32 z32 ⟨#[]⟩ ⟨#[]⟩) X0.out (by rw [nodC_size _ _ z32_len z32_len]; exact sizeNode) rfl (nodC_one _ _ _ _) ?_)
  refine bodyPost_ret (results_cell2_row rfl _ _ w.heap.size 45 (nodC z32 z32 ⟨#[]⟩ ⟨#[]⟩) (0, 0) _ rfl (setRow_heap _ _ (nodC z32 z32 ⟨#[]⟩ ⟨#[]⟩) _ _ _ X0.out) Try.underlying45 rfl (by rw [nodC_size _ _ z32_len z32_len]; exact sizeNode)) rfl ⟨rfl, ?_⟩
  exact Below.setRow B0.out (Nat.le_refl _) _
set_option maxRecDepth 100000 in
set_option maxHeartbeats 8000000 in
theorem rm_no2 (b off n cap q : Nat) (w : World) (h65 : 65 ≤ n) (hn : n ≤ 1048576) (hq : n < 65 + q) (q255 : q ≤ 255) (hb : b < w.heap.size) (hcell : w.cell? ⟨b, off + 64, none⟩ = some (.int .u8 (q : Int))) :
    Calls Try.prog 33 #[.slice (some ⟨b, off, none⟩) n cap] w fun e w' => e = .returned (.tuple #[.agg (nodC z32 z32 ⟨#[]⟩ ⟨#[]⟩), .int .i64 5]) ∧ Below w.heap.size w w' := by
  have A0 := heap_alloc_last w (.cells (nodC z32 z32 ⟨#[]⟩ ⟨#[]⟩) 45)
  have B0' := (Below.refl w.heap.size w).alloc (Nat.le_refl _) (.cells (nodC z32 z32 ⟨#[]⟩ ⟨#[]⟩) 45)
  obtain ⟨W0, hW0⟩ : ∃ W0, w.alloc (.cells (nodC z32 z32 ⟨#[]⟩ ⟨#[]⟩) 45) = W0 := ⟨_, rfl⟩
  rw [hW0] at A0 B0'
  rw [nodZ] at hW0
  have X0 := Lib.hid A0
  have B0 := Lib.hid B0'
  have c64 : W0.cell? ⟨b, off + 64, none⟩ = some (.int .u8 (q : Int)) := by rw [B0'.cell (p := ⟨b, off + 64, none⟩) hb]; exact hcell
  have m9 : (64 : Int) < (n : Int) := by omega
  have m10 : ¬ (n : Int) < 65 := by omega
  have m11 : (n : Int) < 65 + (q : Int) := by omega
  clear A0 B0' hcell
  go_enter Try.func33, Try.ntmps33
  go_wp2_with (refine wpList_store_row rfl 45 _ _ rfl w.heap.size (nodC z32 z32 ⟨#[]⟩ ⟨#[]⟩) rfl rfl 45 (nodC z32 z32 ⟨#[]⟩ ⟨#[]⟩) X0.out (by rw [nodC_size _ _ z32_len z32_len]; exact sizeNode) rfl (nodC_one _ _ _ _) ?_)
  refine bodyPost_ret (results_cell2_row rfl _ _ w.heap.size 45 (nodC z32 z32 ⟨#[]⟩ ⟨#[]⟩) (0, 0) _ rfl (setRow_heap _ _ (nodC z32 z32 ⟨#[]⟩ ⟨#[]⟩) _ _ _ X0.out) Try.underlying45 rfl (by rw [nodC_size _ _ z32_len z32_len]; exact sizeNode)) rfl ⟨rfl, ?_⟩
  exact Below.setRow B0.out (Nat.le_refl _) _
theorem rn_cell {l : List Int} {n : Nat} (fl : ∀ z ∈ l, 0 ≤ z ∧ z ≤ 255) (hl : l.length = n) (h : 65 ≤ n) : l[64]?.getD 0 = ((rnQ l : Nat) : Int) ∧ rnQ l ≤ 255 := by
  have := fl (l[64]'(by omega)) (List.getElem_mem _)
  unfold rnQ
  rw [List.getElem?_eq_getElem (by omega)]
  simp only [Option.getD_some]
  omega
theorem rm_impl (a : Option Addr) (n cap : Nat) (l : List Int) (hn : n ≤ 1048576) (hc : n ≤ cap) (hm : cap ≤ maxLen) (fl : ∀ z ∈ l, 0 ≤ z ∧ z ≤ 255) (w : World) (hr : Rd .u8 w a n l) :
    Calls Try.prog 33 #[.slice a n cap] w fun e w' => e = .returned (.tuple #[.agg (rnC l), .int .i64 (rnE l)]) ∧ Below w.heap.size w w' := by
  have hl := hr.1
  by_cases h65 : 65 ≤ n
  · rcases hr.2 with h0 | ⟨b, off, rfl, hb, hcell⟩
    · omega
    · by_cases hq : 65 + rnQ l ≤ n
      · exact rm_in b off n cap l hn hc hm fl w hl h65 hq hb hcell
      · have hB : rnB l = false := rnB_no (fun h => by omega)
        obtain ⟨h1, h2⟩ := rn_cell fl hl h65
        have := rm_no2 b off n cap (rnQ l) w h65 hn (by omega) h2 hb (by rw [hcell 64 (by omega), h1])
        unfold rnC rnE
        rw [if_neg (by rw [hB]; simp), if_neg (by rw [hB]; simp)]
        exact this
  · have hB : rnB l = false := rnB_no (fun h => by omega)
    unfold rnC rnE
    rw [if_neg (by rw [hB]; simp), if_neg (by rw [hB]; simp)]
    exact rm_no1 a n cap w (by omega)
end Go.Proofs.Ytmkddiconpacnaa
