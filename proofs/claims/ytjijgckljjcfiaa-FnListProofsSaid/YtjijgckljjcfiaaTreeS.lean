/- The key of a list: the specification. Written by wip/gen/trees.py. -/
import Derived.Test.YtjijgckljjcfiaaTree
import Derived.Test.YtjijgckljjcfiaaMixBs
namespace Go.Proofs.Ytjijgckljjcfiaa
open Go.ChangeShapes Go.WideShapes Go.ChangeAt Go.RowKit
set_option linter.unusedVariables false
set_option maxRecDepth 100000 in
set_option maxHeartbeats 4000000 in
theorem key_spec : ∀ (n : Nat) (b off cap : Nat) (fl : List Int) (w : World), 1 ≤ n → n ≤ 1048576 → n ≤ cap → cap ≤ maxLen → (∀ z ∈ fl, 0 ≤ z ∧ z ≤ 255) → RdK w (some ⟨b, off, none⟩) n fl →
    Calls Try.prog 85 #[.slice (some ⟨b, off, none⟩) n cap] w fun e w' => e = .returned (.agg (ints .u8 (tkey (keyAt fl) 0 n))) ∧ Below w.heap.size w w' := by
  intro n
  induction n using Nat.strongRecOn with
  | _ n ih =>
    intro b off cap fl w h1 hn hc hm fb hr
    have Hz := Lib.hid z32_ints
    by_cases h2 : n = 1
    · subst h2
      have BW := Lib.hid ((Below.refl w.heap.size w).alloc (Nat.le_refl _) (.cells (ints .u8 z32) 28))
      have G0 := Lib.hid (heap_alloc_last w (.cells (ints .u8 z32) 28))
      have Hrg := Lib.hid ((hr.below BW.out).key 0 (by omega))
      have Hvl := Lib.hid (keyAt_len hr.1 (show 0 < 1 by omega))
      have He := Lib.hid (tkey_one (keyAt fl) 0)
      rw [He.out]
      clear ih hr fb He
      generalize keyAt fl 0 = V at Hrg Hvl
      rw [show off + 0 * 32 = off by omega] at Hrg
      unfold maxLen at hm
      go_enter Try.func85, Try.ntmps85
      go_wp2_with (first | (refine wpList_load_ints rfl 28 _ rfl b off rfl .u8 V _ (by rw [← Hz.out]; exact Hrg.out) Try.underlying28 rfl (by rw [Hvl.out]; exact sizeKey) ?_) | (refine wpList_store_row rfl 28 _ _ rfl w.heap.size (ints .u8 V) rfl rfl 28 (ints .u8 z32) (by rw [← Hz.out]; exact G0.out) (by rw [ints_size, Hvl.out]; exact sizeKey) (by rw [ints_size, ints_size, Hvl.out]; rfl) (ints_one _ _) ?_))
      refine bodyPost_ret (results_cell_row rfl _ _ w.heap.size 28 (ints .u8 V) (0, 0) _ rfl (setRow_heap _ _ (ints .u8 z32) _ _ _ (by rw [← Hz.out]; exact G0.out)) Try.underlying28 rfl (by rw [ints_size, Hvl.out]; exact sizeKey)) rfl ⟨rfl, ?_⟩
      exact Below.setRow (by rw [← Hz.out]; exact BW.out) (Nat.le_refl _) _
    · have hm1 := half_pos n
      have hm2 := half_lt (n := n) (by omega)
      have Hhalf := Lib.hid (fun W => half_spec n (by omega) hn W)
      have HT := Lib.hid (tkey_two (keyAt fl) 0 n (by omega))
      have LA := Lib.hid (tkey_len (kf := keyAt fl) (b := 0) (n := half n) (by omega) (fun i hi => by rw [Nat.zero_add]; exact keyAt_len hr.1 (by omega)))
      have RA := Lib.hid (tkey_range (kf := keyAt fl) (b := 0) (n := half n) (by omega) (fun i hi => keyAt_range fb _))
      have LB := Lib.hid (tkey_len (kf := keyAt fl) (b := 0 + half n) (n := n - half n) (by omega) (fun i hi => keyAt_len hr.1 (by omega)))
      have RB := Lib.hid (tkey_range (kf := keyAt fl) (b := 0 + half n) (n := n - half n) (by omega) (fun i hi => keyAt_range fb _))
      have Hnode := Lib.hid (fun W => l03node_spec _ _ LA.out RA.out LB.out RB.out W)
      obtain ⟨W0, hW0⟩ : ∃ W0, w.alloc (.cells (ints .u8 z32) 28) = W0 := ⟨_, rfl⟩
      have BW := Lib.hid ((Below.refl w.heap.size w).alloc (Nat.le_refl _) (.cells (ints .u8 z32) 28))
      have G0 := Lib.hid (heap_alloc_last w (.cells (ints .u8 z32) 28))
      have HSZ : Hid (W0.heap.size = w.heap.size + 1) := Lib.hid (by rw [← hW0]; simp)
      rw [hW0] at BW G0
      have HL := Lib.hid (fun W (hB : Below W0.heap.size W0 W) => by
        have := ih (half n) hm2 b off cap (fl.take (32 * half n)) W hm1 (by omega) (by omega) hm (fun z hz => fb z (List.mem_of_mem_take hz)) (((hr.below BW.out).below hB).take (by omega))
        rwa [tkey_congr (kf := keyAt (fl.take (32 * half n))) (kg := keyAt fl) (half n) 0 0 hm1 (fun i hi => by rw [Nat.zero_add]; exact keyAt_take hi)] at this)
      have HR := Lib.hid (fun W (hB : Below W0.heap.size W0 W) => by
        have := ih (n - half n) (by omega) b (off + half n * 32) (cap - half n) (fl.drop (32 * half n)) W (by omega) (by omega) (by omega) (by omega) (fun z hz => fb z (List.mem_of_mem_drop hz)) (((hr.below BW.out).below hB).drop (by omega))
        rwa [tkey_congr (kf := keyAt (fl.drop (32 * half n))) (kg := keyAt fl) (n - half n) 0 (0 + half n) (by omega) (fun i hi => by rw [keyAt_drop, Nat.zero_add, Nat.zero_add])] at this)
      have Hvl := Lib.hid (nodeK_len (tkey (keyAt fl) 0 (half n)) (tkey (keyAt fl) (0 + half n) (n - half n)))
      rw [HT.out]
      clear ih hr fb HT LA RA LB RB
      generalize tkey (keyAt fl) 0 (half n) = A at HL Hnode Hvl
      generalize tkey (keyAt fl) (0 + half n) (n - half n) = B at HR Hnode Hvl
      generalize nodeK A B = V at Hnode Hvl
      generalize half n = m at hm1 hm2 Hhalf HL HR
      rw [Hz.out] at hW0
      unfold maxLen at hm
      have n2 : 2 ≤ n := by omega
      have c0 : (n : Int) ≤ 1048576 := by omega
      have c1 : (m : Int) < n := by omega
      have c2 : (0 : Int) < m := by omega
      have c3 : ¬ cap = m := by omega
      have c4 : ¬ cap < m := by omega
      have c5 : ¬ n < m := by omega
      go_enter Try.func85, Try.ntmps85
      go_wp2_with fail
      clear hW0
      refine (Hhalf.out _).mono ?_
      rintro e w1 ⟨rfl, rfl⟩
      go_wp2_with fail
      refine wp_region_held_drew (S := fun _ => True) (by kernel_rfl) trivial (fun hS => ?_)
      have C0 := Lib.hid ((Below.refl W0.heap.size W0).drew)
      refine take_at (i := 0) (v := .slice (some ⟨b, off, none⟩) n cap) rfl rfl (by kernel_rfl) (by kernel_rfl) (by kernel_rfl) (fun _ _ _ h => h) (Or.inl ⟨by rfl, fun W hW => by go_simp⟩) hS ?_
      refine take_at (i := 1) (v := .int .i64 (m : Int)) rfl rfl (by kernel_rfl) (by kernel_rfl) (by kernel_rfl) (fun _ _ _ h => h) (Or.inl ⟨by rfl, fun W hW => by go_simp⟩) hS ?_
      refine take_at (i := 2) (v := .slice (some ⟨b, off, none⟩) m cap) rfl rfl (by kernel_rfl) (by kernel_rfl) (by kernel_rfl) (fun _ _ _ h => h) (Or.inl ⟨by rfl, fun W hW => by go_simp⟩) hS ?_
      simp only [List.setIfInBounds_toArray, List.set_cons_zero, List.set_cons_succ]
      refine take_at (i := 4) (v := .slice (some ⟨b, off, none⟩) n cap) rfl rfl (by kernel_rfl) (by kernel_rfl) (by kernel_rfl) (fun _ _ _ h => h) (Or.inl ⟨by rfl, fun W hW => by go_simp⟩) hS ?_
      refine take_at (i := 5) (v := .int .i64 (m : Int)) rfl rfl (by kernel_rfl) (by kernel_rfl) (by kernel_rfl) (fun _ _ _ h => h) (Or.inl ⟨by rfl, fun W hW => by go_simp⟩) hS ?_
      refine take_at (i := 6) (v := .slice (some ⟨b, off + m * 32, none⟩) (n - m) (cap - m)) rfl rfl (by kernel_rfl) (by kernel_rfl) (by kernel_rfl) (fun _ _ _ h => h) (Or.inl ⟨by rfl, fun W hW => by go_simp⟩) hS ?_
      simp only [List.setIfInBounds_toArray, List.set_cons_zero, List.set_cons_succ]
      refine wpAnyH_ready (rs := [3]) (by kernel_rfl) (by simp) ?_
      refine AllReadyH.cons rfl (fun K hK => ?_) AllReadyH.nil
      rw [if_pos (by rfl)]
      go_simp
      refine (HL.out _ C0.out).mono ?_
      rintro e u1 ⟨rfl, hb⟩
      have C1 := Lib.hid (below_call C0.out C0.out.size hb)
      clear hb
      refine hK.out _ _ trivial (fun hS => ?_)
      clear hK
      refine wpAnyH_ready (rs := [7]) (by kernel_rfl) (by simp) ?_
      refine AllReadyH.cons rfl (fun K hK => ?_) AllReadyH.nil
      rw [if_pos (by rfl)]
      go_simp
      refine (HR.out _ C1.out).mono ?_
      rintro e u2 ⟨rfl, hb⟩
      have C2 := Lib.hid (below_call C1.out C1.out.size hb)
      clear hb
      refine hK.out _ _ trivial (fun hS => ?_)
      clear hK
      refine wpAnyH_ready (rs := [8]) (by kernel_rfl) (by simp) ?_
      refine AllReadyH.cons rfl (fun K hK => ?_) AllReadyH.nil
      rw [if_pos (by rfl)]
      go_simp
      refine (Hnode.out _).mono ?_
      rintro e u3 ⟨rfl, hb⟩
      have C3 := Lib.hid (below_call C2.out C2.out.size hb)
      clear hb
      refine hK.out _ _ trivial (fun hS => ?_)
      clear hK
      refine wpAnyH_ready (rs := [9]) (by kernel_rfl) (by simp) ?_
      refine AllReadyH.cons rfl (fun K hK => ?_) AllReadyH.nil
      rw [if_pos (by rfl)]
      have G3 := Lib.hid ((C3.out.block w.heap.size (by have := HSZ.out; omega)).trans G0.out)
      refine wp_store_row (o := ⟨none, _, _, _, _, _⟩) 28 _ _ rfl _ (ints .u8 V) rfl rfl 28 (ints .u8 z32) G3.out (by rw [ints_size, Hvl.out]; exact sizeKey) (by rw [ints_size, ints_size, Hvl.out]; rfl) (ints_one _ _) ?_
      simp only [Act.put]
      have CF := Lib.hid (Below.setRow (BW.out.trans (C3.out.mono BW.out.size)) (Nat.le_refl _) (ints .u8 V))
      have GF := Lib.hid (setRow_heap _ _ (ints .u8 z32) (ints .u8 V) _ _ G3.out)
      refine hK.out _ _ trivial (fun hS => ?_)
      clear hK
      refine wpAnyH_done (by kernel_rfl) ?_ _
      try simp only [List.setIfInBounds_toArray, List.set_cons_zero, List.set_cons_succ]
      clear hS
      go_wp2_with fail
      refine bodyPost_ret (results_cell_row rfl _ _ w.heap.size 28 (ints .u8 V) (0, 0) _ rfl GF.out Try.underlying28 rfl (by rw [ints_size, Hvl.out]; exact sizeKey)) rfl ⟨rfl, CF.out⟩
theorem tk0 : hashK 3 [] = hashK 3 [] := rfl
end Go.Proofs.Ytjijgckljjcfiaa
