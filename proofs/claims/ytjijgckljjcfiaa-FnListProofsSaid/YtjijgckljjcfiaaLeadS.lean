/- To which key a proof leads: the specification. Written by wip/gen/leads.py. -/
import Derived.Test.YtjijgckljjcfiaaLeadM
import Derived.Test.YtjijgckljjcfiaaEq
namespace Go.Proofs.Ytjijgckljjcfiaa
open Go.ChangeShapes Go.WideShapes Go.ChangeAt Go.RowKit
set_option linter.unusedVariables false
set_option linter.unusedSimpArgs false
theorem ldN_congr {pk qk : Nat → List Int} {leaf : List Int} : ∀ (n i : Nat), (∀ j, j < dN n i → pk j = qk j) → ldN pk leaf n i = ldN qk leaf n i := by
  intro n
  induction n using Nat.strongRecOn with
  | _ n ih =>
    intro i h
    by_cases h2 : n ≤ 1
    · rw [ldN_one h2, ldN_one h2]
    · have a1 := half_pos n
      have a2 := half_lt (n := n) (by omega)
      by_cases h3 : i < half n
      · rw [dN_left (by omega) h3] at h
        rw [ldN_left (by omega) h3, ldN_left (by omega) h3, ih _ a2 i (fun j hj => h j (by omega)), h _ (by omega)]
      · rw [dN_right (by omega) h3] at h
        rw [ldN_right (by omega) h3, ldN_right (by omega) h3, ih _ (by omega) (i - half n) (fun j hj => h j (by omega)), h _ (by omega)]
set_option maxRecDepth 100000 in
set_option maxHeartbeats 8000000 in
theorem lead_spec (leaf : List Int) (hl : Is32 leaf) (cap : Nat) (hm : cap ≤ maxLen) : ∀ (n i k : Nat) (a : Option Addr) (fl : List Int) (w : World), i < n → n ≤ 1048575 → k = dN n i → k ≤ cap → (∀ z ∈ fl, 0 ≤ z ∧ z ≤ 255) → RdK w a k fl →
    Calls Try.prog 84 #[.int .i64 (n : Int), .int .i64 (i : Int), .agg (ints .u8 leaf), .slice a k cap] w fun e w' => e = .returned (.agg (ints .u8 (ldN (keyAt fl) leaf n i))) ∧ Below w.heap.size w w' := by
  unfold maxLen at hm
  have Hz := Lib.hid z32_ints
  have HLL := Lib.hid hl.1
  intro n
  induction n using Nat.strongRecOn with
  | _ n ih =>
    intro i k a fl w hi hn hk hkc fb hr
    have B1 := Lib.hid (((Below.refl w.heap.size w).alloc (Nat.le_refl _) (.cells (ints .u8 leaf) 28)).alloc (by simp) (.cells (ints .u8 z32) 28))
    have A1 := Lib.hid (heap_alloc2_old w (.cells (ints .u8 leaf) 28) (.cells (ints .u8 z32) 28))
    have R1 := Lib.hid (heap_alloc2_new w (.cells (ints .u8 leaf) 28) (.cells (ints .u8 z32) 28))
    obtain ⟨W0, hW0⟩ : ∃ W0, (w.alloc (.cells (ints .u8 leaf) 28)).alloc (.cells (ints .u8 z32) 28) = W0 := ⟨_, rfl⟩
    have HS0 : Hid (W0.heap.size = w.heap.size + 2) := Lib.hid (by rw [← hW0]; simp)
    rw [hW0] at B1 A1 R1
    rw [Hz.out] at hW0
    by_cases h2 : n = 1
    · subst h2
      rw [ldN_one (Nat.le_refl 1)]
      go_enter Try.func84, Try.ntmps84
      go_wp2_with (first | (refine wpList_load_row rfl 28 _ rfl (w.heap.size) rfl 28 (ints .u8 leaf) (0, 0) _ A1.out Try.underlying28 rfl (by rw [ints_size, HLL.out]; exact sizeKey) ?_) | (refine wpList_store_row rfl 28 _ _ rfl (w.heap.size + 1) (ints .u8 leaf) rfl rfl 28 (ints .u8 z32) R1.out (by rw [ints_size, HLL.out]; exact sizeKey) (by rw [ints_size, ints_size, HLL.out]; rfl) (ints_one _ _) ?_))
      refine bodyPost_ret (results_cell_row rfl _ _ (w.heap.size + 1) 28 (ints .u8 leaf) (0, 0) _ rfl (setRow_heap _ _ (ints .u8 z32) _ _ _ R1.out) Try.underlying28 rfl (by rw [ints_size, HLL.out]; exact sizeKey)) rfl ⟨rfl, ?_⟩
      exact Below.setRow B1.out (by omega) _
    · have hm1 := half_pos n
      have hm2 := half_lt (n := n) (by omega)
      have Hhalf := Lib.hid (fun W => half_spec n (by omega) (by omega) W)
      have c1 : ¬ (n : Int) = 1 := by omega
      have c2 : (n : Int) ≤ 1048575 := by omega
      have c3 : (0 : Int) ≤ (i : Int) := by omega
      have c4 : (i : Int) < (n : Int) := by omega
      by_cases h3 : i < half n
      · rw [dN_left (by omega) h3] at hk
        rw [ldN_left (by omega) h3]
        generalize hj : dN (half n) i = j at hk ⊢
        have hjb : j ≤ 1048575 := by have := dN_le (half n) (i); omega
        subst hk
        obtain ⟨pb, po, rfl⟩ := hr.form (by omega)
        have HKEY := Lib.hid (hr.key j (by omega))
        have HKX : Hid ((keyAt fl j).length = 32) := Lib.hid (keyAt_len hr.1 (show j < j + 1 by omega))
        have HKB := Lib.hid (keyAt_range fb j)
        have HIH := Lib.hid (fun W (hW : Below w.heap.size w W) => by
          have := ih (half n) (by omega) (i) j (some ⟨pb, po, none⟩) (fl.take (32 * j)) W (by omega) (by omega) hj.symm (by omega) (fun z hz => fb z (List.mem_of_mem_take hz)) ((hr.below hW).take (by omega))
          rwa [ldN_congr (pk := keyAt (fl.take (32 * j))) (qk := keyAt fl) (half n) (i) (fun m hm => keyAt_take (by omega))] at this)
        have HV : Hid (Is32 (ldN (keyAt fl) leaf (half n) (i))) := Lib.hid (ldN32 hl _ _)
        have Hnd := Lib.hid (fun W => l03node_spec (ldN (keyAt fl) leaf (half n) (i)) (keyAt fl j) HV.out.1 HV.out.2 HKX.out HKB.out W)
        have HNL := Lib.hid (nodeK_len (ldN (keyAt fl) leaf (half n) (i)) (keyAt fl j))
        generalize nodeK (ldN (keyAt fl) leaf (half n) (i)) (keyAt fl j) = nk at Hnd HNL ⊢
        generalize ldN (keyAt fl) leaf (half n) (i) = ld at HIH HV Hnd
        generalize keyAt fl j = kx at HKEY HKX HKB Hnd
        generalize half n = m at hm1 hm2 Hhalf h3 HIH
        have d1 :  (i : Int) < (m : Int) := by omega
        have d3 : (j : Int) + 1 ≤ (cap : Int) := by omega
        have d4 : (j : Int) ≤ (cap : Int) := by omega
        have d5 : j ≤ cap := by omega
        have d6 : (0 : Int) ≤ (j : Int) := by omega
        have d7 : (j : Int) ≤ 1048575 := by omega
        have d8 : j < j + 1 := by omega
        have d14 : ¬ (j : Int) + 1 ≤ (j : Int) := by omega
        have d9 : ¬ cap < j := by omega
        have d10 : (0 : Int) ≤ (m : Int) := by omega
        have d11 : (m : Int) < (n : Int) := by omega
        clear ih hr fb hj
        go_enter Try.func84, Try.ntmps84
        go_wp2_with fail
        clear hW0
        refine (Hhalf.out _).mono ?_
        rintro e w1 ⟨rfl, rfl⟩
        go_wp2_with fail
        refine wp_region_held_drew (S := fun U => U.heap[w.heap.size]? = some (.cells (ints .u8 leaf) 28) ∧ Below w.heap.size w U) (by kernel_rfl) ⟨A1.out, B1.out.drew⟩ (fun hS => ?_)
        have hr0 : (W0.drew).heap[w.heap.size + 1]? = some (.cells (ints .u8 z32) 28) := R1.out
        refine take_at (i := 0) (v := .int .i64 (m : Int)) rfl rfl (by kernel_rfl) (by kernel_rfl) (by kernel_rfl) (fun _ _ _ h => h) (Or.inl ⟨by rfl, fun U hU => by go_simp⟩) hS ?_
        try simp only [List.setIfInBounds_toArray, List.set_cons_zero, List.set_cons_succ]
        refine take_at (i := 1) (v := .int .i64 (i : Int)) rfl rfl (by kernel_rfl) (by kernel_rfl) (by kernel_rfl) (fun _ _ _ h => h) (Or.inl ⟨by rfl, fun U hU => by go_simp⟩) hS ?_
        try simp only [List.setIfInBounds_toArray, List.set_cons_zero, List.set_cons_succ]
        refine take_at (i := 2) (v := .agg (ints .u8 leaf)) rfl rfl (by kernel_rfl) (by kernel_rfl) (by kernel_rfl) (fun _ _ _ h => h) (yields_row (by rfl) 28 _ rfl w.heap.size rfl (ints .u8 leaf) 28 _ (fun U hU => hU.1) Try.underlying28 rfl (by rw [ints_size, HLL.out]; exact sizeKey)) hS ?_
        try simp only [List.setIfInBounds_toArray, List.set_cons_zero, List.set_cons_succ]
        refine take_at (i := 3) (v := .slice (some ⟨pb, po, none⟩) (j + 1) cap) rfl rfl (by kernel_rfl) (by kernel_rfl) (by kernel_rfl) (fun _ _ _ h => h) (Or.inl ⟨by rfl, fun U hU => by go_simp⟩) hS ?_
        try simp only [List.setIfInBounds_toArray, List.set_cons_zero, List.set_cons_succ]
        refine take_at (i := 4) (v := .int .i64 (j : Int)) rfl rfl (by kernel_rfl) (by kernel_rfl) (by kernel_rfl) (fun _ _ _ h => h) (Or.inl ⟨by rfl, fun U hU => by go_simp⟩) hS ?_
        try simp only [List.setIfInBounds_toArray, List.set_cons_zero, List.set_cons_succ]
        refine take_at (i := 5) (v := .slice (some ⟨pb, po, none⟩) j cap) rfl rfl (by kernel_rfl) (by kernel_rfl) (by kernel_rfl) (fun _ _ _ h => h) (Or.inl ⟨by rfl, fun U hU => by go_simp⟩) hS ?_
        try simp only [List.setIfInBounds_toArray, List.set_cons_zero, List.set_cons_succ]
        refine take_at (i := 7) (v := .slice (some ⟨pb, po, none⟩) (j + 1) cap) rfl rfl (by kernel_rfl) (by kernel_rfl) (by kernel_rfl) (fun _ _ _ h => h) (Or.inl ⟨by rfl, fun U hU => by go_simp⟩) hS ?_
        try simp only [List.setIfInBounds_toArray, List.set_cons_zero, List.set_cons_succ]
        refine take_at (i := 8) (v := .int .i64 (j : Int)) rfl rfl (by kernel_rfl) (by kernel_rfl) (by kernel_rfl) (fun _ _ _ h => h) (Or.inl ⟨by rfl, fun U hU => by go_simp⟩) hS ?_
        try simp only [List.setIfInBounds_toArray, List.set_cons_zero, List.set_cons_succ]
        refine take_at (i := 9) (v := .pointer (some ⟨pb, po + j * 32, none⟩)) rfl rfl (by kernel_rfl) (by kernel_rfl) (by kernel_rfl) (fun _ _ _ h => h) (Or.inl ⟨by rfl, fun U hU => by go_simp⟩) hS ?_
        try simp only [List.setIfInBounds_toArray, List.set_cons_zero, List.set_cons_succ]
        refine take_at (i := 10) (v := .agg (ints .u8 kx)) rfl rfl (by kernel_rfl) (by kernel_rfl) (by kernel_rfl) (fun _ _ _ h => h) (yieldsIf_load_mid (by rfl) 28 _ rfl pb (po + j * 32) rfl (kx.map (Value.int .u8)) _ (fun U hU => rangeAt_below HKEY.out hU.2) Try.underlying28 rfl (by rw [List.length_map, HKX.out]; exact sizeKey)) hS ?_
        try simp only [List.setIfInBounds_toArray, List.set_cons_zero, List.set_cons_succ]
        refine wpAnyH_ready (rs := [6]) (by kernel_rfl) (by simp) ?_
        refine AllReadyH.cons rfl (fun KQ hK => ?_) AllReadyH.nil
        rw [if_pos (by rfl)]
        go_simp
        refine (HIH.out _ hS.2).mono ?_
        rintro e u1 ⟨rfl, hb⟩
        have hr1 := keep_block hr0 hb
        refine hK.out _ _ ⟨keep_block hS.1 hb, below_call hS.2 hS.2.size hb⟩ (fun hS => ?_)
        clear hb hK
        refine wpAnyH_ready (rs := [11]) (by kernel_rfl) (by simp) ?_
        refine AllReadyH.cons rfl (fun KQ hK => ?_) AllReadyH.nil
        rw [if_pos (by rfl)]
        go_simp
        refine (Hnd.out _).mono ?_
        rintro e u2 ⟨rfl, hb⟩
        have hr2 := keep_block hr1 hb
        refine hK.out _ _ ⟨keep_block hS.1 hb, below_call hS.2 hS.2.size hb⟩ (fun hS => ?_)
        clear hb hK
        refine wpAnyH_ready (rs := [12]) (by kernel_rfl) (by simp) ?_
        refine AllReadyH.cons rfl (fun KQ hK => ?_) AllReadyH.nil
        rw [if_pos (by rfl)]
        refine wp_store_row (o := ⟨none, _, _, _, _, _⟩) 28 _ _ rfl (w.heap.size + 1) (ints .u8 nk) rfl rfl 28 (ints .u8 z32) hr2 (by rw [ints_size, HNL.out]; exact sizeKey) (by rw [ints_size, ints_size, HNL.out]; rfl) (ints_one _ _) ?_
        simp only [Act.put]
        have hr3 := setRow_heap _ _ (ints .u8 z32) (ints .u8 nk) _ _ hr2
        refine hK.out _ _ ⟨(setRow_other _ _ _ _ (by omega)).trans hS.1, Below.setRow hS.2 (by omega) _⟩ (fun hS => ?_)
        clear hK
        refine wpAnyH_done (by kernel_rfl) ?_ _
        go_wp2_with fail
        refine bodyPost_ret (results_cell_row rfl _ _ (w.heap.size + 1) 28 (ints .u8 nk) (0, 0) _ rfl hr3 Try.underlying28 rfl (by rw [ints_size, HNL.out]; exact sizeKey)) rfl ⟨rfl, ?_⟩
        exact hS.2
      · rw [dN_right (by omega) h3] at hk
        rw [ldN_right (by omega) h3]
        generalize hj : dN (n - half n) (i - half n) = j at hk ⊢
        have hjb : j ≤ 1048575 := by have := dN_le (n - half n) (i - half n); omega
        subst hk
        obtain ⟨pb, po, rfl⟩ := hr.form (by omega)
        have HKEY := Lib.hid (hr.key j (by omega))
        have HKX : Hid ((keyAt fl j).length = 32) := Lib.hid (keyAt_len hr.1 (show j < j + 1 by omega))
        have HKB := Lib.hid (keyAt_range fb j)
        have HIH := Lib.hid (fun W (hW : Below w.heap.size w W) => by
          have := ih (n - half n) (by omega) (i - half n) j (some ⟨pb, po, none⟩) (fl.take (32 * j)) W (by omega) (by omega) hj.symm (by omega) (fun z hz => fb z (List.mem_of_mem_take hz)) ((hr.below hW).take (by omega))
          rwa [ldN_congr (pk := keyAt (fl.take (32 * j))) (qk := keyAt fl) (n - half n) (i - half n) (fun m hm => keyAt_take (by omega))] at this)
        have HV : Hid (Is32 (ldN (keyAt fl) leaf (n - half n) (i - half n))) := Lib.hid (ldN32 hl _ _)
        have Hnd := Lib.hid (fun W => l03node_spec (keyAt fl j) (ldN (keyAt fl) leaf (n - half n) (i - half n)) HKX.out HKB.out HV.out.1 HV.out.2 W)
        have HNL := Lib.hid (nodeK_len (keyAt fl j) (ldN (keyAt fl) leaf (n - half n) (i - half n)))
        have hnn : ((n - half n : Nat) : Int) = (n : Int) - (half n : Nat) := by omega
        have hii : ((i - half n : Nat) : Int) = (i : Int) - (half n : Nat) := by omega
        rw [hnn, hii] at HIH
        clear hnn hii
        generalize nodeK (keyAt fl j) (ldN (keyAt fl) leaf (n - half n) (i - half n)) = nk at Hnd HNL ⊢
        generalize ldN (keyAt fl) leaf (n - half n) (i - half n) = ld at HIH HV Hnd
        generalize keyAt fl j = kx at HKEY HKX HKB Hnd
        generalize half n = m at hm1 hm2 Hhalf h3 HIH
        have d1 : ¬ (i : Int) < (m : Int) := by omega
        have d3 : (j : Int) + 1 ≤ (cap : Int) := by omega
        have d4 : (j : Int) ≤ (cap : Int) := by omega
        have d5 : j ≤ cap := by omega
        have d6 : (0 : Int) ≤ (j : Int) := by omega
        have d7 : (j : Int) ≤ 1048575 := by omega
        have d8 : j < j + 1 := by omega
        have d14 : ¬ (j : Int) + 1 ≤ (j : Int) := by omega
        have d9 : ¬ cap < j := by omega
        have d10 : (0 : Int) ≤ (m : Int) := by omega
        have d11 : (m : Int) < (n : Int) := by omega
        clear ih hr fb hj
        go_enter Try.func84, Try.ntmps84
        go_wp2_with fail
        clear hW0
        refine (Hhalf.out _).mono ?_
        rintro e w1 ⟨rfl, rfl⟩
        go_wp2_with fail
        have d12 : IntKind.i64.wrap ((n : Int) - (m : Int)) = (n : Int) - (m : Int) := by rw [IntKind.wrap_i64]; omega
        have d13 : IntKind.i64.wrap ((i : Int) - (m : Int)) = (i : Int) - (m : Int) := by rw [IntKind.wrap_i64]; omega
        refine wp_region_held_drew (S := fun U => U.heap[w.heap.size]? = some (.cells (ints .u8 leaf) 28) ∧ Below w.heap.size w U) (by kernel_rfl) ⟨A1.out, B1.out.drew⟩ (fun hS => ?_)
        have hr0 : (W0.drew).heap[w.heap.size + 1]? = some (.cells (ints .u8 z32) 28) := R1.out
        refine take_at (i := 0) (v := .slice (some ⟨pb, po, none⟩) (j + 1) cap) rfl rfl (by kernel_rfl) (by kernel_rfl) (by kernel_rfl) (fun _ _ _ h => h) (Or.inl ⟨by rfl, fun U hU => by go_simp⟩) hS ?_
        try simp only [List.setIfInBounds_toArray, List.set_cons_zero, List.set_cons_succ]
        refine take_at (i := 1) (v := .int .i64 (j : Int)) rfl rfl (by kernel_rfl) (by kernel_rfl) (by kernel_rfl) (fun _ _ _ h => h) (Or.inl ⟨by rfl, fun U hU => by go_simp⟩) hS ?_
        try simp only [List.setIfInBounds_toArray, List.set_cons_zero, List.set_cons_succ]
        refine take_at (i := 2) (v := .pointer (some ⟨pb, po + j * 32, none⟩)) rfl rfl (by kernel_rfl) (by kernel_rfl) (by kernel_rfl) (fun _ _ _ h => h) (Or.inl ⟨by rfl, fun U hU => by go_simp⟩) hS ?_
        try simp only [List.setIfInBounds_toArray, List.set_cons_zero, List.set_cons_succ]
        refine take_at (i := 3) (v := .agg (ints .u8 kx)) rfl rfl (by kernel_rfl) (by kernel_rfl) (by kernel_rfl) (fun _ _ _ h => h) (yieldsIf_load_mid (by rfl) 28 _ rfl pb (po + j * 32) rfl (kx.map (Value.int .u8)) _ (fun U hU => rangeAt_below HKEY.out hU.2) Try.underlying28 rfl (by rw [List.length_map, HKX.out]; exact sizeKey)) hS ?_
        try simp only [List.setIfInBounds_toArray, List.set_cons_zero, List.set_cons_succ]
        refine take_at (i := 4) (v := .int .i64 (n : Int)) rfl rfl (by kernel_rfl) (by kernel_rfl) (by kernel_rfl) (fun _ _ _ h => h) (Or.inl ⟨by rfl, fun U hU => by go_simp⟩) hS ?_
        try simp only [List.setIfInBounds_toArray, List.set_cons_zero, List.set_cons_succ]
        refine take_at (i := 5) (v := .int .i64 (m : Int)) rfl rfl (by kernel_rfl) (by kernel_rfl) (by kernel_rfl) (fun _ _ _ h => h) (Or.inl ⟨by rfl, fun U hU => by go_simp⟩) hS ?_
        try simp only [List.setIfInBounds_toArray, List.set_cons_zero, List.set_cons_succ]
        refine take_at (i := 6) (v := .int .i64 ((n : Int) - (m : Int))) rfl rfl (by kernel_rfl) (by kernel_rfl) (by kernel_rfl) (fun _ _ _ h => h) (Or.inl ⟨by rfl, fun U hU => by go_simp⟩) hS ?_
        try simp only [List.setIfInBounds_toArray, List.set_cons_zero, List.set_cons_succ]
        refine take_at (i := 7) (v := .int .i64 (i : Int)) rfl rfl (by kernel_rfl) (by kernel_rfl) (by kernel_rfl) (fun _ _ _ h => h) (Or.inl ⟨by rfl, fun U hU => by go_simp⟩) hS ?_
        try simp only [List.setIfInBounds_toArray, List.set_cons_zero, List.set_cons_succ]
        refine take_at (i := 8) (v := .int .i64 (m : Int)) rfl rfl (by kernel_rfl) (by kernel_rfl) (by kernel_rfl) (fun _ _ _ h => h) (Or.inl ⟨by rfl, fun U hU => by go_simp⟩) hS ?_
        try simp only [List.setIfInBounds_toArray, List.set_cons_zero, List.set_cons_succ]
        refine take_at (i := 9) (v := .int .i64 ((i : Int) - (m : Int))) rfl rfl (by kernel_rfl) (by kernel_rfl) (by kernel_rfl) (fun _ _ _ h => h) (Or.inl ⟨by rfl, fun U hU => by go_simp⟩) hS ?_
        try simp only [List.setIfInBounds_toArray, List.set_cons_zero, List.set_cons_succ]
        refine take_at (i := 10) (v := .agg (ints .u8 leaf)) rfl rfl (by kernel_rfl) (by kernel_rfl) (by kernel_rfl) (fun _ _ _ h => h) (yields_row (by rfl) 28 _ rfl w.heap.size rfl (ints .u8 leaf) 28 _ (fun U hU => hU.1) Try.underlying28 rfl (by rw [ints_size, HLL.out]; exact sizeKey)) hS ?_
        try simp only [List.setIfInBounds_toArray, List.set_cons_zero, List.set_cons_succ]
        refine take_at (i := 11) (v := .slice (some ⟨pb, po, none⟩) (j + 1) cap) rfl rfl (by kernel_rfl) (by kernel_rfl) (by kernel_rfl) (fun _ _ _ h => h) (Or.inl ⟨by rfl, fun U hU => by go_simp⟩) hS ?_
        try simp only [List.setIfInBounds_toArray, List.set_cons_zero, List.set_cons_succ]
        refine take_at (i := 12) (v := .int .i64 (j : Int)) rfl rfl (by kernel_rfl) (by kernel_rfl) (by kernel_rfl) (fun _ _ _ h => h) (Or.inl ⟨by rfl, fun U hU => by go_simp⟩) hS ?_
        try simp only [List.setIfInBounds_toArray, List.set_cons_zero, List.set_cons_succ]
        refine take_at (i := 13) (v := .slice (some ⟨pb, po, none⟩) j cap) rfl rfl (by kernel_rfl) (by kernel_rfl) (by kernel_rfl) (fun _ _ _ h => h) (Or.inl ⟨by rfl, fun U hU => by go_simp⟩) hS ?_
        try simp only [List.setIfInBounds_toArray, List.set_cons_zero, List.set_cons_succ]
        refine wpAnyH_ready (rs := [14]) (by kernel_rfl) (by simp) ?_
        refine AllReadyH.cons rfl (fun KQ hK => ?_) AllReadyH.nil
        rw [if_pos (by rfl)]
        go_simp
        refine (HIH.out _ hS.2).mono ?_
        rintro e u1 ⟨rfl, hb⟩
        have hr1 := keep_block hr0 hb
        refine hK.out _ _ ⟨keep_block hS.1 hb, below_call hS.2 hS.2.size hb⟩ (fun hS => ?_)
        clear hb hK
        refine wpAnyH_ready (rs := [15]) (by kernel_rfl) (by simp) ?_
        refine AllReadyH.cons rfl (fun KQ hK => ?_) AllReadyH.nil
        rw [if_pos (by rfl)]
        go_simp
        refine (Hnd.out _).mono ?_
        rintro e u2 ⟨rfl, hb⟩
        have hr2 := keep_block hr1 hb
        refine hK.out _ _ ⟨keep_block hS.1 hb, below_call hS.2 hS.2.size hb⟩ (fun hS => ?_)
        clear hb hK
        refine wpAnyH_ready (rs := [16]) (by kernel_rfl) (by simp) ?_
        refine AllReadyH.cons rfl (fun KQ hK => ?_) AllReadyH.nil
        rw [if_pos (by rfl)]
        refine wp_store_row (o := ⟨none, _, _, _, _, _⟩) 28 _ _ rfl (w.heap.size + 1) (ints .u8 nk) rfl rfl 28 (ints .u8 z32) hr2 (by rw [ints_size, HNL.out]; exact sizeKey) (by rw [ints_size, ints_size, HNL.out]; rfl) (ints_one _ _) ?_
        simp only [Act.put]
        have hr3 := setRow_heap _ _ (ints .u8 z32) (ints .u8 nk) _ _ hr2
        refine hK.out _ _ ⟨(setRow_other _ _ _ _ (by omega)).trans hS.1, Below.setRow hS.2 (by omega) _⟩ (fun hS => ?_)
        clear hK
        refine wpAnyH_done (by kernel_rfl) ?_ _
        go_wp2_with fail
        refine bodyPost_ret (results_cell_row rfl _ _ (w.heap.size + 1) 28 (ints .u8 nk) (0, 0) _ rfl hr3 Try.underlying28 rfl (by rw [ints_size, HNL.out]; exact sizeKey)) rfl ⟨rfl, ?_⟩
        exact hS.2
def cpE (n i : Int) (P : Nat) : Int := if 256 < P then 3 else if isLf n i then 0 else 2
def cpV (root : List Int) (n i : Int) (leaf : List Int) (P : Nat) (fl : List Int) : Bool := if 256 < P then false else if isLf n i then (decide (P = dN n.toNat i.toNat) && decide (ldN (keyAt fl) leaf n.toNat i.toNat = root)) else false
theorem eqlK2 (a b : List Int) (ha : a.length = 32) (hb : b.length = 32) (W : World) : (binOp .eql 28 (.agg (ints .u8 a)) (.agg (ints .u8 b))).run Try.prog W = .ok (.bool (decide (a = b))) W :=
  run_eql_ints Try.underlying28 Try.underlying5 (by kernel_rfl) a b ha hb W
theorem eqlIn2 (a b : List Int) (ha : a.length = 32) (hb : b.length = 32) (W : World) : (Op.equalIn 10000 28 (.agg (ints .u8 a)) (.agg (ints .u8 b))).run Try.prog W = .ok (decide (a = b)) W :=
  run_equalIn_ints Try.underlying28 Try.underlying5 (by kernel_rfl) a b ha hb 9998 W
set_option maxRecDepth 100000 in
set_option maxHeartbeats 4000000 in
theorem cp_spec (root : List Int) (n i : Int) (leaf : List Int) (a : Option Addr) (P cap : Nat) (fl : List Int) (hR : root.length = 32) (hl : Is32 leaf) (hP : P ≤ 1048576) (hc : P ≤ cap) (hm : cap ≤ maxLen) (fb : ∀ z ∈ fl, 0 ≤ z ∧ z ≤ 255) (w : World) (hr : RdK w a P fl) :
    Calls Try.prog 30 #[.agg (ints .u8 root), .int .i64 n, .int .i64 i, .agg (ints .u8 leaf), .slice a P cap] w fun e w' => e = .returned (.tuple #[.bool (cpV root n i leaf P fl), .int .i64 (cpE n i P)]) ∧ Below w.heap.size w w' := by
  unfold cpV cpE
  have Hz := Lib.hid z32_ints
  have A0 := Lib.hid (heap_alloc2_old w (.cells (ints .u8 root) 28) (.cells (ints .u8 leaf) 28))
  have A1 := Lib.hid (heap_alloc2_new w (.cells (ints .u8 root) 28) (.cells (ints .u8 leaf) 28))
  have B0 := Lib.hid (((Below.refl w.heap.size w).alloc (Nat.le_refl _) (.cells (ints .u8 root) 28)).alloc (by simp) (.cells (ints .u8 leaf) 28))
  obtain ⟨W0, hW0⟩ : ∃ W0, (w.alloc (.cells (ints .u8 root) 28)).alloc (.cells (ints .u8 leaf) 28) = W0 := ⟨_, rfl⟩
  have HS0 : Hid (W0.heap.size = w.heap.size + 2) := Lib.hid (by rw [← hW0]; simp)
  rw [hW0] at A0 A1 B0
  have HR := Lib.hid (hr.below B0.out)
  have HRL := Lib.hid hR
  have HLL := Lib.hid hl.1
  by_cases h : 256 < P
  · rw [if_pos h, if_pos h]
    have k1 : (256 : Int) < (P : Int) := by omega
    go_enter Try.func30, Try.ntmps30
    go_wp2_with fail
    go_ret2
    exact ⟨rfl, B0.out⟩
  · rw [if_neg h, if_neg h]
    have k1 : ¬ (256 : Int) < (P : Int) := by omega
    have k2 : (P : Int) ≤ 256 := by omega
    by_cases h1 : 1 ≤ n ∧ n ≤ 256
    · have Ha := Lib.hid (fun U => in_true n 1 256 h1.1 h1.2 U)
      by_cases h2 : 0 ≤ i ∧ i ≤ n - 1
      · have hC : isLf n i := ⟨h1.2, h2.1, by omega⟩
        rw [if_pos hC, if_pos hC]
        have Hb := Lib.hid (fun U => in_true i 0 (n - 1) h2.1 h2.2 U)
        obtain ⟨n', rfl⟩ := Int.eq_ofNat_of_zero_le (show 0 ≤ n by omega)
        obtain ⟨i', rfl⟩ := Int.eq_ofNat_of_zero_le h2.1
        rw [Int.toNat_natCast, Int.toNat_natCast]
        have Hd := Lib.hid (fun U => depth_spec n' i' U (by omega) (by omega) (by omega))
        have Hld := Lib.hid (fun U (hU : Below W0.heap.size W0 U) (hd : P = dN n' i') => lead_spec leaf hl cap hm n' i' P a fl U (by omega) (by omega) hd hc fb (HR.out.below hU))
        have HV := Lib.hid (ldN32 (pk := keyAt fl) hl n' i')
        have n1 : (1 : Int) ≤ (n' : Int) := h1.1
        have n2 : (n' : Int) ≤ 256 := h1.2
        have HDL := Lib.hid (dN_le n' i')
        generalize ldN (keyAt fl) leaf n' i' = V at Hld HV ⊢
        generalize dN n' i' = d at Hd Hld HDL ⊢
        clear h1 h2 hC hr fb hl hR
        have d1 : (d : Int) ≤ 256 := by have := HDL.out; omega
        have d2 : (0 : Int) ≤ (d : Int) := by omega
        by_cases hPd : P = d
        · subst hPd
          rw [decide_eq_true (show P = P from rfl), Bool.true_and]
          have Heq := Lib.hid (fun W => eqlIn2 V root HV.out.1 HRL.out W)
          generalize decide (V = root) = bb at Heq ⊢
          go_enter Try.func30, Try.ntmps30
          go_wp2_with fail
          refine (Ha.out _).mono ?_
          rintro x w5 ⟨rfl, rfl⟩
          go_wp2_with fail
          refine (Hb.out _).mono ?_
          rintro x w5 ⟨rfl, rfl⟩
          go_wp2_with fail
          refine wp_region_held_drew (S := Below (W0).heap.size (W0)) (by kernel_rfl) ((Below.refl _ _).drew) (fun hS => ?_)
          refine take_at (i := 0) (v := .slice a P cap) rfl rfl (by kernel_rfl) (by kernel_rfl) (by kernel_rfl) (fun _ _ _ h => h) (Or.inl ⟨by rfl, fun U hU => by go_simp⟩) hS ?_
          try simp only [List.setIfInBounds_toArray, List.set_cons_zero, List.set_cons_succ]
          refine take_at (i := 1) (v := .int .i64 (P : Int)) rfl rfl (by kernel_rfl) (by kernel_rfl) (by kernel_rfl) (fun _ _ _ h => h) (Or.inl ⟨by rfl, fun U hU => by go_simp⟩) hS ?_
          try simp only [List.setIfInBounds_toArray, List.set_cons_zero, List.set_cons_succ]
          refine take_at (i := 2) (v := .int .i64 (n' : Int)) rfl rfl (by kernel_rfl) (by kernel_rfl) (by kernel_rfl) (fun _ _ _ h => h) (Or.inl ⟨by rfl, fun U hU => by go_simp⟩) hS ?_
          try simp only [List.setIfInBounds_toArray, List.set_cons_zero, List.set_cons_succ]
          refine take_at (i := 3) (v := .int .i64 (i' : Int)) rfl rfl (by kernel_rfl) (by kernel_rfl) (by kernel_rfl) (fun _ _ _ h => h) (Or.inl ⟨by rfl, fun U hU => by go_simp⟩) hS ?_
          try simp only [List.setIfInBounds_toArray, List.set_cons_zero, List.set_cons_succ]
          refine wpAnyH_ready (rs := [4]) (by kernel_rfl) (by simp) ?_
          refine AllReadyH.cons rfl (fun KQ hK => ?_) AllReadyH.nil
          rw [if_pos (by rfl)]
          go_simp
          refine (Hd.out _).mono ?_
          rintro e u1 ⟨rfl, hw⟩
          subst hw
          refine hK.out _ _ hS (fun hS => ?_)
          clear hK
          refine take_at (i := 5) (v := .bool true) rfl rfl (by kernel_rfl) (by kernel_rfl) (by kernel_rfl) (fun _ _ _ h => h) (Or.inl ⟨by rfl, fun U hU => by go_simp⟩) hS ?_
          try simp only [List.setIfInBounds_toArray, List.set_cons_zero, List.set_cons_succ]
          refine take_at (i := 6) (v := .bool true) rfl rfl (by kernel_rfl) (by kernel_rfl) (by kernel_rfl) (fun _ _ _ h => h) (Or.inl ⟨by rfl, fun U hU => by go_simp⟩) hS ?_
          try simp only [List.setIfInBounds_toArray, List.set_cons_zero, List.set_cons_succ]
          refine take_at (i := 7) (v := .int .i64 (n' : Int)) rfl rfl (by kernel_rfl) (by kernel_rfl) (by kernel_rfl) (fun _ _ _ h => h) (Or.inl ⟨by rfl, fun U hU => by go_simp⟩) hS ?_
          try simp only [List.setIfInBounds_toArray, List.set_cons_zero, List.set_cons_succ]
          refine take_at (i := 8) (v := .int .i64 (i' : Int)) rfl rfl (by kernel_rfl) (by kernel_rfl) (by kernel_rfl) (fun _ _ _ h => h) (Or.inl ⟨by rfl, fun U hU => by go_simp⟩) hS ?_
          try simp only [List.setIfInBounds_toArray, List.set_cons_zero, List.set_cons_succ]
          refine take_at (i := 9) (v := .agg (ints .u8 leaf)) rfl rfl (by kernel_rfl) (by kernel_rfl) (by kernel_rfl) (fun _ _ _ h => h) (yields_box (by rfl) 28 _ rfl ((w.heap.size + 1)) rfl _ 28 _ A1.out Try.underlying28 rfl (by rw [ints_size, HLL.out]; exact sizeKey)) hS ?_
          try simp only [List.setIfInBounds_toArray, List.set_cons_zero, List.set_cons_succ]
          refine take_at (i := 10) (v := .slice a P cap) rfl rfl (by kernel_rfl) (by kernel_rfl) (by kernel_rfl) (fun _ _ _ h => h) (Or.inl ⟨by rfl, fun U hU => by go_simp⟩) hS ?_
          try simp only [List.setIfInBounds_toArray, List.set_cons_zero, List.set_cons_succ]
          refine take_at (i := 12) (v := .agg (ints .u8 root)) rfl rfl (by kernel_rfl) (by kernel_rfl) (by kernel_rfl) (fun _ _ _ h => h) (yields_box (by rfl) 28 _ rfl (w.heap.size) rfl _ 28 _ A0.out Try.underlying28 rfl (by rw [ints_size, HRL.out]; exact sizeKey)) hS ?_
          try simp only [List.setIfInBounds_toArray, List.set_cons_zero, List.set_cons_succ]
          refine wpAnyH_ready (rs := [11]) (by kernel_rfl) (by simp) ?_
          refine AllReadyH.cons rfl (fun KQ hK => ?_) AllReadyH.nil
          rw [if_pos (by rfl)]
          go_simp
          refine (Hld.out _ hS (by first | rfl | trivial)).mono ?_
          rintro e u2 ⟨rfl, hb⟩
          refine hK.out _ _ (below_call hS hS.size hb) (fun hS => ?_)
          clear hb hK
          refine take_at (i := 13) (v := .bool bb) rfl rfl (by kernel_rfl) (by kernel_rfl) (by kernel_rfl) (fun _ _ _ h => h) (Or.inl ⟨by rfl, fun U hU => by have hq := Heq.out U; go_simp⟩) hS ?_
          try simp only [List.setIfInBounds_toArray, List.set_cons_zero, List.set_cons_succ]
          refine take_at (i := 14) (v := .bool bb) rfl rfl (by kernel_rfl) (by kernel_rfl) (by kernel_rfl) (fun _ _ _ h => h) (Or.inl ⟨by rfl, fun U hU => by go_simp⟩) hS ?_
          try simp only [List.setIfInBounds_toArray, List.set_cons_zero, List.set_cons_succ]
          refine take_at (i := 15) (v := .bool bb) rfl rfl (by kernel_rfl) (by kernel_rfl) (by kernel_rfl) (fun _ _ _ h => h) (Or.inl ⟨by rfl, fun U hU => by go_simp⟩) hS ?_
          try simp only [List.setIfInBounds_toArray, List.set_cons_zero, List.set_cons_succ]
          refine take_at (i := 16) (v := .int .i64 0) rfl rfl (by kernel_rfl) (by kernel_rfl) (by kernel_rfl) (fun _ _ _ h => h) (Or.inl ⟨by rfl, fun U hU => by go_simp⟩) hS ?_
          try simp only [List.setIfInBounds_toArray, List.set_cons_zero, List.set_cons_succ]
          refine wpAnyH_done (by kernel_rfl) ?_ _
          go_wp2_with fail
          go_ret2
          exact ⟨rfl, B0.out.trans (hS.mono B0.out.size)⟩
        · rw [decide_eq_false hPd, Bool.false_and]
          have hPd2 : ¬ (P : Int) = (d : Int) := by omega
          have hPd3 : ((P : Int) == (d : Int)) = false := beq_eq_false_iff_ne.2 hPd2
          go_enter Try.func30, Try.ntmps30
          go_wp2_with fail
          refine (Ha.out _).mono ?_
          rintro x w5 ⟨rfl, rfl⟩
          go_wp2_with fail
          refine (Hb.out _).mono ?_
          rintro x w5 ⟨rfl, rfl⟩
          go_wp2_with fail
          refine wp_region_held_drew (S := Below (W0).heap.size (W0)) (by kernel_rfl) ((Below.refl _ _).drew) (fun hS => ?_)
          refine take_at (i := 0) (v := .slice a P cap) rfl rfl (by kernel_rfl) (by kernel_rfl) (by kernel_rfl) (fun _ _ _ h => h) (Or.inl ⟨by rfl, fun U hU => by go_simp⟩) hS ?_
          try simp only [List.setIfInBounds_toArray, List.set_cons_zero, List.set_cons_succ]
          refine take_at (i := 1) (v := .int .i64 (P : Int)) rfl rfl (by kernel_rfl) (by kernel_rfl) (by kernel_rfl) (fun _ _ _ h => h) (Or.inl ⟨by rfl, fun U hU => by go_simp⟩) hS ?_
          try simp only [List.setIfInBounds_toArray, List.set_cons_zero, List.set_cons_succ]
          refine take_at (i := 2) (v := .int .i64 (n' : Int)) rfl rfl (by kernel_rfl) (by kernel_rfl) (by kernel_rfl) (fun _ _ _ h => h) (Or.inl ⟨by rfl, fun U hU => by go_simp⟩) hS ?_
          try simp only [List.setIfInBounds_toArray, List.set_cons_zero, List.set_cons_succ]
          refine take_at (i := 3) (v := .int .i64 (i' : Int)) rfl rfl (by kernel_rfl) (by kernel_rfl) (by kernel_rfl) (fun _ _ _ h => h) (Or.inl ⟨by rfl, fun U hU => by go_simp⟩) hS ?_
          try simp only [List.setIfInBounds_toArray, List.set_cons_zero, List.set_cons_succ]
          refine wpAnyH_ready (rs := [4]) (by kernel_rfl) (by simp) ?_
          refine AllReadyH.cons rfl (fun KQ hK => ?_) AllReadyH.nil
          rw [if_pos (by rfl)]
          go_simp
          refine (Hd.out _).mono ?_
          rintro e u1 ⟨rfl, hw⟩
          subst hw
          refine hK.out _ _ hS (fun hS => ?_)
          clear hK
          refine take_at (i := 5) (v := .bool false) rfl rfl (by kernel_rfl) (by kernel_rfl) (by kernel_rfl) (fun _ _ _ h => h) (Or.inl ⟨by rfl, fun U hU => by go_simp⟩) hS ?_
          try simp only [List.setIfInBounds_toArray, List.set_cons_zero, List.set_cons_succ]
          refine take_at (i := 6) (v := .bool false) rfl rfl (by kernel_rfl) (by kernel_rfl) (by kernel_rfl) (fun _ _ _ h => h) (Or.inl ⟨by rfl, fun U hU => by go_simp⟩) hS ?_
          try simp only [List.setIfInBounds_toArray, List.set_cons_zero, List.set_cons_succ]
          refine take_at (i := 7) (v := undef) rfl rfl (by kernel_rfl) (by kernel_rfl) (by kernel_rfl) (fun _ _ _ h => h) (Or.inr ⟨by rfl, rfl⟩) hS ?_
          try simp only [List.setIfInBounds_toArray, List.set_cons_zero, List.set_cons_succ]
          refine take_at (i := 8) (v := undef) rfl rfl (by kernel_rfl) (by kernel_rfl) (by kernel_rfl) (fun _ _ _ h => h) (Or.inr ⟨by rfl, rfl⟩) hS ?_
          try simp only [List.setIfInBounds_toArray, List.set_cons_zero, List.set_cons_succ]
          refine take_at (i := 9) (v := undef) rfl rfl (by kernel_rfl) (by kernel_rfl) (by kernel_rfl) (fun _ _ _ h => h) (Or.inr ⟨by rfl, rfl⟩) hS ?_
          try simp only [List.setIfInBounds_toArray, List.set_cons_zero, List.set_cons_succ]
          refine take_at (i := 10) (v := undef) rfl rfl (by kernel_rfl) (by kernel_rfl) (by kernel_rfl) (fun _ _ _ h => h) (Or.inr ⟨by rfl, rfl⟩) hS ?_
          try simp only [List.setIfInBounds_toArray, List.set_cons_zero, List.set_cons_succ]
          refine take_at (i := 11) (v := undef) rfl rfl (by kernel_rfl) (by kernel_rfl) (by kernel_rfl) (fun _ _ _ h => h) (Or.inr ⟨by rfl, rfl⟩) hS ?_
          try simp only [List.setIfInBounds_toArray, List.set_cons_zero, List.set_cons_succ]
          refine take_at (i := 12) (v := undef) rfl rfl (by kernel_rfl) (by kernel_rfl) (by kernel_rfl) (fun _ _ _ h => h) (Or.inr ⟨by rfl, rfl⟩) hS ?_
          try simp only [List.setIfInBounds_toArray, List.set_cons_zero, List.set_cons_succ]
          refine take_at (i := 13) (v := undef) rfl rfl (by kernel_rfl) (by kernel_rfl) (by kernel_rfl) (fun _ _ _ h => h) (Or.inr ⟨by rfl, rfl⟩) hS ?_
          try simp only [List.setIfInBounds_toArray, List.set_cons_zero, List.set_cons_succ]
          refine take_at (i := 14) (v := .bool false) rfl rfl (by kernel_rfl) (by kernel_rfl) (by kernel_rfl) (fun _ _ _ h => h) (Or.inl ⟨by rfl, fun U hU => by go_simp⟩) hS ?_
          try simp only [List.setIfInBounds_toArray, List.set_cons_zero, List.set_cons_succ]
          refine take_at (i := 15) (v := .bool false) rfl rfl (by kernel_rfl) (by kernel_rfl) (by kernel_rfl) (fun _ _ _ h => h) (Or.inl ⟨by rfl, fun U hU => by go_simp⟩) hS ?_
          try simp only [List.setIfInBounds_toArray, List.set_cons_zero, List.set_cons_succ]
          refine take_at (i := 16) (v := .int .i64 0) rfl rfl (by kernel_rfl) (by kernel_rfl) (by kernel_rfl) (fun _ _ _ h => h) (Or.inl ⟨by rfl, fun U hU => by go_simp⟩) hS ?_
          try simp only [List.setIfInBounds_toArray, List.set_cons_zero, List.set_cons_succ]
          refine wpAnyH_done (by kernel_rfl) ?_ _
          go_wp2_with fail
          go_ret2
          exact ⟨rfl, B0.out.trans (hS.mono B0.out.size)⟩
      · have hC : ¬ isLf n i := fun hh => h2 ⟨hh.2.1, by have := hh.2.2; omega⟩
        rw [if_neg hC, if_neg hC]
        have Hb := Lib.hid (fun U => in_false i 0 (n - 1) h2 U)
        have n1 := h1.1
        have n2 := h1.2
        go_enter Try.func30, Try.ntmps30
        go_wp2_with fail
        refine (Ha.out _).mono ?_
        rintro x w5 ⟨rfl, rfl⟩
        go_wp2_with fail
        refine (Hb.out _).mono ?_
        rintro x w5 ⟨rfl, rfl⟩
        go_wp2_with fail
        go_ret2
        exact ⟨rfl, B0.out⟩
    · have hC : ¬ isLf n i := fun hh => h1 ⟨by have := hh.2.1; have := hh.2.2; omega, hh.1⟩
      rw [if_neg hC, if_neg hC]
      have Ha := Lib.hid (fun U => in_false n 1 256 h1 U)
      go_enter Try.func30, Try.ntmps30
      go_wp2_with fail
      refine (Ha.out _).mono ?_
      rintro x w5 ⟨rfl, rfl⟩
      go_wp2_with fail
      go_ret2
      exact ⟨rfl, B0.out⟩
end Go.Proofs.Ytjijgckljjcfiaa
