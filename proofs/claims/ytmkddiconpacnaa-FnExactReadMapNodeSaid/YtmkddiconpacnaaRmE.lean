/- ReadMapNode by the specification, whole; nodes compared. Written by wip/gen/src.py. -/
import Derived.Test.YtmkddiconpacnaaRmS
namespace Go.Proofs.Ytmkddiconpacnaa
open Go.ChangeShapes Go.WideShapes Go.ChangeAt Go.RowKit
set_option linter.unusedVariables false
set_option linter.unusedSimpArgs false
theorem read_spec (a : Option Addr) (n cap : Nat) (l : List Int) (hn : n ≤ 1048576) (hc : n ≤ cap) (hm : cap ≤ maxLen) (fl : ∀ z ∈ l, 0 ≤ z ∧ z ≤ 255) (w : World) (hr : Rd .u8 w a n l) :
    Calls Try.prog 81 #[.slice a n cap] w fun e w' => e = .returned (.tuple #[.agg (rdC l), .bool (rnB l)]) ∧ Below w.heap.size w w' := by
  have hl := hr.1
  by_cases h : n < 66 ∨ 153 < n
  · rw [rnB_no (fun q => by omega)]
    unfold rdC
    rw [if_neg (fun q => by omega)]
    exact rd_no a n cap w hn h
  · rcases hr.2 with h0 | ⟨b, off, rfl, hb, hcell⟩
    · omega
    · by_cases hq : 65 + rnQ l ≤ n
      · rw [rnB_is (by omega) (by omega)]
        unfold rdC
        rw [if_pos ⟨by omega, by omega, by omega⟩]
        exact rd_in b off n cap l (by omega) hc hm fl w hl (by omega) hq hb hcell
      · obtain ⟨h1, h2⟩ := rn_cell fl hl (by omega)
        rw [rnB_no (fun q => by omega)]
        unfold rdC
        rw [if_neg (fun q => by omega)]
        exact rd_no2 b off n cap (rnQ l) w (by omega) (by omega) (by omega) h2 hb (by rw [hcell 64 (by omega), h1])
theorem rdC_yes {l : List Int} (h : rnB l = true) : rdC l = rnC l := by
  obtain ⟨h1, h2, h3, _⟩ := rnB_sizes h
  unfold rdC rnC
  rw [if_pos ⟨h1, h2, h3⟩, if_pos h]
theorem rnC_one (l : List Int) : (rnC l).all (·.oneCell') = true := by
  unfold rnC
  split <;> exact nodC_one _ _ _ _
set_option maxRecDepth 100000 in
set_option maxHeartbeats 8000000 in
theorem rm_spec (a : Option Addr) (n cap : Nat) (l : List Int) (hn : n ≤ 1048576) (hc : n ≤ cap) (hm : cap ≤ maxLen) (fl : ∀ z ∈ l, 0 ≤ z ∧ z ≤ 255) (w : World) (hr : Rd .u8 w a n l) :
    Calls Try.prog 31 #[.slice a n cap] w fun e w' => e = .returned (.tuple #[.agg (rnC l), .int .i64 (rnE l)]) ∧ Below w.heap.size w w' := by
  have A0 := heap_alloc_last w (.cells (nodC z32 z32 ⟨#[]⟩ ⟨#[]⟩) 45)
  have B0' := (Below.refl w.heap.size w).alloc (Nat.le_refl _) (.cells (nodC z32 z32 ⟨#[]⟩ ⟨#[]⟩) 45)
  obtain ⟨W0, hW0⟩ : ∃ W0, w.alloc (.cells (nodC z32 z32 ⟨#[]⟩ ⟨#[]⟩) 45) = W0 := ⟨_, rfl⟩
  rw [hW0] at A0 B0'
  rw [nodZ] at hW0
  have X0 := Lib.hid A0
  have B0 := Lib.hid B0'
  have HR := Lib.hid (read_spec a n cap l hn hc hm fl W0 (hr.below B0'))
  have HSD := Lib.hid (rdC_size (l := l))
  have HOD := Lib.hid (rdC_one l)
  have HSC := Lib.hid (rnC_size (l := l))
  have HOC := Lib.hid (rnC_one l)
  have HZ := Lib.hid nodZ
  have HZS : Hid ((nodC z32 z32 ⟨#[]⟩ ⟨#[]⟩).size = 66) := Lib.hid (nodC_size _ _ z32_len z32_len)
  unfold rnE
  clear hr fl A0 B0'
  cases hv : rnB l with
  | true =>
    rw [hv, rdC_yes hv] at HR
    rw [rdC_yes hv] at HSD HOD
    rw [if_pos rfl]
    generalize rnC l = C at HR HSD HOD HSC HOC ⊢
    clear hv
    go_enter Try.func31, Try.ntmps31
    go_wp2_with fail
    clear hW0
    refine HR.out.mono ?_
    rintro e w1 ⟨rfl, hb⟩
    have B1 := Lib.hid (below_call B0.out B0.out.size hb)
    have X1 := Lib.hid (keep_block X0.out hb)
    have LA := layB w1 (nodC z32 z32 ⟨#[]⟩ ⟨#[]⟩) C 45
    have X2 := Lib.hid (keep_block X1.out LA)
    have N2 := Lib.hid (layN w1 (nodC z32 z32 ⟨#[]⟩ ⟨#[]⟩) C 45)
    have B2 := Lib.hid (below_call B1.out B1.out.size LA)
    clear hb LA
    rw [HZ.out] at X2 N2 B2
    go_wp2_with (first | (refine wpList_store_row rfl 45 (.tmp 4) _ rfl w1.heap.size C rfl rfl 45 (nodC z32 z32 ⟨#[]⟩ ⟨#[]⟩) (by rw [HZ.out]; exact heap_alloc_last _ _) (by rw [HSC.out]; exact sizeNode) (by rw [HSC.out, HZS.out]) HOC.out ?_) | (refine wpList_load_row rfl 45 (.tmp 4) rfl w1.heap.size rfl 45 C (0, 0) _ N2.out Try.underlying45 rfl (by rw [HSC.out]; exact sizeNode) ?_) | (refine wpList_store_row rfl 45 (.tmp 2) _ rfl w.heap.size C rfl rfl 45 Try.zeroCells45 X2.out (by rw [HSC.out]; exact sizeNode) (by rw [HSC.out, ← HZ.out, HZS.out]) HOC.out ?_))
    refine bodyPost_ret (results_cell2_row rfl _ _ w.heap.size 45 C (0, 0) _ rfl (setRow_heap _ _ Try.zeroCells45 _ _ _ X2.out) Try.underlying45 rfl (by rw [HSC.out]; exact sizeNode)) rfl ⟨rfl, ?_⟩
    exact Below.setRow B2.out (Nat.le_refl _) _
  | false =>
    rw [hv] at HR
    rw [if_neg (by simp), show rnC l = nodC z32 z32 ⟨#[]⟩ ⟨#[]⟩ by unfold rnC; rw [if_neg (by rw [hv]; simp)]]
    generalize rdC l = C at HR HSD HOD
    clear hv
    go_enter Try.func31, Try.ntmps31
    go_wp2_with fail
    clear hW0
    refine HR.out.mono ?_
    rintro e w1 ⟨rfl, hb⟩
    have B1 := Lib.hid (below_call B0.out B0.out.size hb)
    have X1 := Lib.hid (keep_block X0.out hb)
    have LA := layB w1 (nodC z32 z32 ⟨#[]⟩ ⟨#[]⟩) C 45
    have X2 := Lib.hid (keep_block X1.out LA)
    have B2 := Lib.hid (below_call B1.out B1.out.size LA)
    clear hb LA
    rw [HZ.out] at B2
    have X3 := X2.out
    conv at X3 => lhs; rw [HZ.out]
    have X3 := Lib.hid X3
    go_wp2_with (first | (refine wpList_store_row rfl 45 (.tmp 4) _ rfl w1.heap.size C rfl rfl 45 (nodC z32 z32 ⟨#[]⟩ ⟨#[]⟩) (by rw [HZ.out]; exact heap_alloc_last _ _) (by rw [HSD.out]; exact sizeNode) (by rw [HSD.out, HZS.out]) HOD.out ?_) | (refine wpList_store_row rfl 45 (.tmp 2) _ rfl w.heap.size (nodC z32 z32 ⟨#[]⟩ ⟨#[]⟩) rfl rfl 45 (nodC z32 z32 ⟨#[]⟩ ⟨#[]⟩) X3.out (by rw [HZS.out]; exact sizeNode) rfl (nodC_one _ _ _ _) ?_))
    refine bodyPost_ret (results_cell2_row rfl _ _ w.heap.size 45 (nodC z32 z32 ⟨#[]⟩ ⟨#[]⟩) (0, 0) _ rfl (setRow_heap _ _ (nodC z32 z32 ⟨#[]⟩ ⟨#[]⟩) _ _ _ X3.out) Try.underlying45 rfl (by rw [HZS.out]; exact sizeNode)) rfl ⟨rfl, ?_⟩
    exact Below.setRow B2.out (Nat.le_refl _) _
set_option maxRecDepth 100000 in
set_option maxHeartbeats 4000000 in
theorem eqNode (l r : List Int) (nm vl : ByteArray) (hl : l.length = 32) (hr : r.length = 32) (w : World) :
    Calls Try.prog 34 #[.agg (nodC l r nm vl), .agg (nodC l r nm vl)] w fun e w' => e = .returned (.bool true) ∧ Below w.heap.size w w' := by
  have HL := Lib.hid hl
  have HR := Lib.hid hr
  have A0 := Lib.hid (heap_alloc2_old w (.cells (nodC l r nm vl) 45) (.cells (nodC l r nm vl) 45))
  have A1 := Lib.hid (heap_alloc2_new w (.cells (nodC l r nm vl) 45) (.cells (nodC l r nm vl) 45))
  have B0 := Lib.hid (((Below.refl w.heap.size w).alloc (Nat.le_refl _) (.cells (nodC l r nm vl) 45)).alloc (by simp) (.cells (nodC l r nm vl) 45))
  have R0 := Lib.hid (nod_left hl A0.out)
  have R1 := Lib.hid (nod_left hl A1.out)
  clear hl hr
  go_enter Try.func34, Try.ntmps34
  go_wp2_with (first | (refine wpList_load_ints rfl 43 (.tmp 5) rfl (w.heap.size) 0 rfl .u8 l _ R0.out Try.underlying43 rfl (by rw [HL.out]; exact sizeKey) ?_) | (refine wpList_load_ints rfl 43 (.tmp 7) rfl (w.heap.size + 1) 0 rfl .u8 l _ R1.out Try.underlying43 rfl (by rw [HL.out]; exact sizeKey) ?_))
  refine (eqKey_ l HL.out _).mono ?_
  rintro e w1 ⟨rfl, hb⟩
  have B1 := Lib.hid (below_call B0.out B0.out.size hb)
  have X0 := Lib.hid (keep_block A0.out hb)
  have X1 := Lib.hid (keep_block A1.out hb)
  have S0 := Lib.hid (nod_right HL.out HR.out X0.out)
  have S1 := Lib.hid (nod_right HL.out HR.out X1.out)
  clear hb
  go_wp2_with (first | (refine wpList_load_ints rfl 43 (.tmp 11) rfl (w.heap.size) 32 rfl .u8 r _ S0.out Try.underlying43 rfl (by rw [HR.out]; exact sizeKey) ?_) | (refine wpList_load_ints rfl 43 (.tmp 13) rfl (w.heap.size + 1) 32 rfl .u8 r _ S1.out Try.underlying43 rfl (by rw [HR.out]; exact sizeKey) ?_))
  refine (eqKey_ r HR.out _).mono ?_
  rintro e w2 ⟨rfl, hb⟩
  have B2 := Lib.hid (below_call B1.out B1.out.size hb)
  obtain ⟨c0, c1⟩ := nod_texts HL.out HR.out (keep_block X0.out hb)
  obtain ⟨d0, d1⟩ := nod_texts HL.out HR.out (keep_block X1.out hb)
  clear hb
  go_wp2_with fail
  refine (eqEnt nm vl _).mono ?_
  rintro e w3 ⟨rfl, hb⟩
  have B3 := Lib.hid (below_call B2.out B2.out.size hb)
  clear hb
  go_wp2
  go_ret
  exact ⟨rfl, B3.out⟩
theorem eqNodeC (l : List Int) (w : World) : Calls Try.prog 34 #[.agg (rnC l), .agg (rnC l)] w fun e w' => e = .returned (.bool true) ∧ Below w.heap.size w w' := by
  unfold rnC
  split
  · rename_i h
    obtain ⟨h1, h2, h3, _⟩ := rnB_sizes h
    exact eqNode _ _ _ _ (by rw [List.length_take]; omega) (by rw [List.length_take, List.length_drop]; omega) w
  · exact eqNode _ _ _ _ z32_len z32_len w
end Go.Proofs.Ytmkddiconpacnaa
