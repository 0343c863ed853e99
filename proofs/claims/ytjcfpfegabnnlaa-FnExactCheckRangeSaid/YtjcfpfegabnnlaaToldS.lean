/- What the specification is told of a tree. Written by wip/gen/told.py. -/
import Derived.Test.YtjcfpfegabnnlaaTellR
import Derived.Test.YtjcfpfegabnnlaaTreeS
namespace Go.Proofs.Ytjcfpfegabnnlaa
open Go.ChangeShapes Go.WideShapes Go.ChangeAt Go.RowKit
set_option linter.unusedVariables false
set_option linter.unusedSimpArgs false
theorem results_cell3_row {P : Program} {fn : Func} {p u v : Tmp} {ty : TypeId} (h : fn.results = #[.cell p ty, .tmp u, .tmp v]) (tmps : Array Value) (w : World) (g : Nat) (t : TypeId) (cs : Array Value) (fr : Nat × Nat) (d : TypeDesc)
    (hp : tmps.getD p undef = .pointer (some ⟨g, 0, none⟩)) (hg : w.heap[g]? = some (.cells cs t fr))
    (hu : P.underlying ty = some d) (hd : (match d with | .struct _ | .array _ _ => true | _ => false) = true) (hi : (P.info? ty).map (·.size) = some cs.size) :
    (results fn tmps).run P w = .ok (.tuple #[.agg cs, tmps.getD u undef, tmps.getD v undef]) w := by
  have hp' : tmps[p]?.getD undef = .pointer (some ⟨g, 0, none⟩) := by simpa using hp
  simp [results, h, hp', asAddr, run_loadVar_row w g t ty cs fr d hg hu hd hi]
/-- What it answers: the key, and what is left of the proof; or that it does not last. -/
def ToldP (K : List Int) (nd q p pb po : Nat) (x : Ending) : Prop :=
  (nd ≤ q ∧ ∃ A' C', x = .returned (.tuple #[.agg (ints .u8 K), .slice A' (q - nd) C', .bool true]) ∧ L32 K ∧ (0 < q - nd → A' = some ⟨pb, po + (p + nd) * 32, none⟩) ∧ q - nd ≤ C' ∧ C' ≤ maxLen) ∨
  (q < nd ∧ ∃ k A' m C', L32 k ∧ x = .returned (.tuple #[.agg (ints .u8 k), .slice A' m C', .bool false]))
set_option maxRecDepth 100000 in
set_option maxHeartbeats 8000000 in
theorem told_spec (w0 : World) (blk off c cap pb po P N i : Nat) (lv fl : List Int) (hN : N ≤ 1048576) (hic : i + c ≤ N) (hc : c ≤ cap) (hm : cap ≤ maxLen) (hP : P ≤ 1048576) (hl : RdK w0 (some ⟨blk, off, none⟩) c lv) (hp : RdK w0 (some ⟨pb, po, none⟩) P fl) (fbl : ∀ z ∈ lv, 0 ≤ z ∧ z ≤ 255) (fbp : ∀ z ∈ fl, 0 ≤ z ∧ z ≤ 255) :
    ∀ (n b p q C : Nat) (A : Option Addr) (W : World), 1 ≤ n → b + n ≤ N → p + q = P → (0 < q → A = some ⟨pb, po + p * 32, none⟩) → q ≤ C → C ≤ maxLen → Below w0.heap.size w0 W →
      Calls Try.prog 71 #[.int .i64 (n : Int), .int .i64 ((i : Int) - (b : Int)), .slice (some ⟨blk, off, none⟩) c cap, .slice A q C] W fun x w' => Below W.heap.size W w' ∧ ToldP (kgen (kdR i c) (lfR lv i) (keyAt fl) n b p) (need (kdR i c) n b) q p pb po x := by
  have Hz := Lib.hid z32_ints
  have HL := Lib.hid hl
  have HQ := Lib.hid hp
  have HFL := Lib.hid fbl
  have HFP := Lib.hid fbp
  clear hl hp fbl fbp
  intro n
  induction n using Nat.strongRecOn with
  | _ n ih =>
    intro b p q C A W h1 hb hpq hA hqC hCm hW
    have HW := Lib.hid hW
    have BW := Lib.hid ((Below.refl W.heap.size W).alloc (Nat.le_refl _) (.cells (ints .u8 z32) 23))
    have G0 := Lib.hid (heap_alloc_last W (.cells (ints .u8 z32) 23))
    obtain ⟨W0, hW0⟩ : ∃ W0, W.alloc (.cells (ints .u8 z32) 23) = W0 := ⟨_, rfl⟩
    have HSZ : Hid (W0.heap.size = W.heap.size + 1) := Lib.hid (by rw [← hW0]; simp)
    rw [hW0] at BW G0
    have HA := Lib.hid hA
    have b1 : (0 : Int) ≤ (b : Int) := by omega
    have b2 : (b : Int) ≤ 1048576 := by omega
    have b3 : (0 : Int) ≤ (i : Int) := by omega
    have b4 : (i : Int) + (c : Int) ≤ 1048576 := by omega
    have b5 : (0 : Int) ≤ (c : Int) := by omega
    have b6 : (n : Int) ≤ 1048576 := by omega
    clear hA hW
    rw [Hz.out] at hW0
    by_cases hk : kdR i c b n = 0
    · have hmiss : b + n ≤ i ∨ i + c ≤ b := by
        unfold kdR at hk
        split at hk
        · assumption
        · split at hk <;> omega
      rw [need_read hk, kgen_read hk]
      clear ih hk
      by_cases hq : q = 0
      · subst hq
        by_cases h3 : i + c ≤ b
        · have k1 : (i : Int) - (b : Int) + (c : Int) ≤ 0 := by omega
          go_enter Try.func71, Try.ntmps71
          go_wp2_with (refine wpList_store_row rfl 23 (.tmp 8) _ rfl W.heap.size (ints .u8 z32) rfl rfl 23 (ints .u8 z32) G0.out (by kernel_rfl) rfl (ints_one _ _) ?_)
          have GF := Lib.hid (setRow_heap _ _ (ints .u8 z32) (ints .u8 z32) _ _ G0.out)
          refine bodyPost_ret (results_cell3_row rfl _ _ W.heap.size 23 (ints .u8 z32) (0, 0) _ rfl GF.out Try.underlying23 rfl (by kernel_rfl)) rfl ⟨?_, ?_⟩
          · exact Below.setRow BW.out (Nat.le_refl _) _
          · exact Or.inr ⟨by omega, z32, A, 0, C, ⟨rfl, z32_range⟩, rfl⟩
        · have k1 : ¬ (i : Int) - (b : Int) + (c : Int) ≤ 0 := by omega
          have k2 : (n : Int) ≤ (i : Int) - (b : Int) := by omega
          go_enter Try.func71, Try.ntmps71
          go_wp2_with (refine wpList_store_row rfl 23 (.tmp 8) _ rfl W.heap.size (ints .u8 z32) rfl rfl 23 (ints .u8 z32) G0.out (by kernel_rfl) rfl (ints_one _ _) ?_)
          have GF := Lib.hid (setRow_heap _ _ (ints .u8 z32) (ints .u8 z32) _ _ G0.out)
          refine bodyPost_ret (results_cell3_row rfl _ _ W.heap.size 23 (ints .u8 z32) (0, 0) _ rfl GF.out Try.underlying23 rfl (by kernel_rfl)) rfl ⟨?_, ?_⟩
          · exact Below.setRow BW.out (Nat.le_refl _) _
          · exact Or.inr ⟨by omega, z32, A, 0, C, ⟨rfl, z32_range⟩, rfl⟩
      · have HAq := HA.out (by omega)
        subst HAq
        have k5 : ((q : Int) == 0) = false := by rw [beq_eq_false_iff_ne]; omega
        have k6 : (0 : Int) < (q : Int) := by omega
        have k7 : 0 < q := by omega
        have k8 : (1 : Int) ≤ (q : Int) := by omega
        have k9 : (1 : Int) ≤ (C : Int) := by omega
        have k10 : (q : Int) ≤ (C : Int) := by omega
        have Hkey := Lib.hid (by
          have := (HQ.out.below HW.out).key p (by omega)
          exact this)
        have HKL := Lib.hid (keyAt_len HQ.out.1 (show p < P by omega))
        have HKR := Lib.hid (keyAt_range HFP.out p)
        generalize keyAt fl p = key at Hkey HKL HKR ⊢
        by_cases hC : C = 1
        · obtain rfl : q = 1 := by omega
          subst hC
          by_cases h3 : i + c ≤ b
          · have k1 : (i : Int) - (b : Int) + (c : Int) ≤ 0 := by omega
            go_enter Try.func71, Try.ntmps71
            go_wp2_with fail
            clear hW0
            refine wp_region_held_drew (S := fun U => Below W.heap.size W U) (by kernel_rfl) BW.out.drew (fun hS => ?_)
            have GD := Lib.hid (keep_block (w := W0) G0.out (Below.refl W0.heap.size W0).drew)
            have BD := Lib.hid (below_call BW.out BW.out.size (Below.refl W0.heap.size W0).drew)
            generalize W0.drew = WD at GD BD hS ⊢
            refine take_at (i := 0) (v := .slice (some ⟨pb, po + p * 32, none⟩) 1 1) rfl rfl (by kernel_rfl) (by kernel_rfl) (by kernel_rfl) (fun _ _ _ h => h) (Or.inl ⟨by rfl, fun U hU => by go_simp⟩) hS ?_
            try simp only [List.setIfInBounds_toArray, List.set_cons_zero, List.set_cons_succ]
            refine take_at (i := 1) (v := .pointer (some ⟨pb, po + p * 32, none⟩)) rfl rfl (by kernel_rfl) (by kernel_rfl) (by kernel_rfl) (fun _ _ _ h => h) (Or.inl ⟨by rfl, fun U hU => by go_simp⟩) hS ?_
            try simp only [List.setIfInBounds_toArray, List.set_cons_zero, List.set_cons_succ]
            refine take_at (i := 2) (v := .agg (ints .u8 key)) rfl rfl (by kernel_rfl) (by kernel_rfl) (by kernel_rfl) (fun _ _ _ h => h) (yieldsIf_load_mid (by rfl) 23 _ rfl pb (po + p * 32) rfl (key.map (Value.int .u8)) _ (fun U hU => rangeAt_below Hkey.out hU) Try.underlying23 rfl (by rw [List.length_map, HKL.out]; exact sizeKey)) hS ?_
            try simp only [List.setIfInBounds_toArray, List.set_cons_zero, List.set_cons_succ]
            refine take_at (i := 3) (v := .slice (some ⟨pb, po + p * 32, none⟩) 1 1) rfl rfl (by kernel_rfl) (by kernel_rfl) (by kernel_rfl) (fun _ _ _ h => h) (Or.inl ⟨by rfl, fun U hU => by go_simp⟩) hS ?_
            try simp only [List.setIfInBounds_toArray, List.set_cons_zero, List.set_cons_succ]
            refine take_at (i := 4) (v := .slice (some ⟨pb, po + p * 32, none⟩) 0 0) rfl rfl (by kernel_rfl) (by kernel_rfl) (by kernel_rfl) (fun _ _ _ h => h) (Or.inl ⟨by rfl, fun U hU => by go_simp⟩) hS ?_
            try simp only [List.setIfInBounds_toArray, List.set_cons_zero, List.set_cons_succ]
            refine wpAnyH_ready (rs := [5]) (by kernel_rfl) (by simp) ?_
            refine AllReadyH.cons rfl (fun K hK => ?_) AllReadyH.nil
            rw [if_pos (by rfl)]
            refine wp_store_row (o := ⟨none, _, _, _, _, _⟩) 23 _ _ rfl _ (ints .u8 key) rfl rfl 23 (ints .u8 z32) GD.out (by rw [ints_size, HKL.out]; exact sizeKey) (by rw [ints_size, ints_size, HKL.out]; rfl) (ints_one _ _) ?_
            simp only [Act.put]
            have GF := Lib.hid (setRow_heap _ _ (ints .u8 z32) (ints .u8 key) _ _ GD.out)
            have BF := Lib.hid (Below.setRow BD.out (Nat.le_refl W.heap.size) (ints .u8 key))
            refine hK.out _ _ (Below.setRow hS (Nat.le_refl _) _) (fun hS => ?_)
            clear hK
            refine take_at (i := 6) (v := .slice (some ⟨pb, po + p * 32, none⟩) 0 0) rfl rfl (by kernel_rfl) (by kernel_rfl) (by kernel_rfl) (fun _ _ _ h => h) (Or.inl ⟨by rfl, fun U hU => by go_simp⟩) hS ?_
            try simp only [List.setIfInBounds_toArray, List.set_cons_zero, List.set_cons_succ]
            refine take_at (i := 7) (v := .bool true) rfl rfl (by kernel_rfl) (by kernel_rfl) (by kernel_rfl) (fun _ _ _ h => h) (Or.inl ⟨by rfl, fun U hU => by go_simp⟩) hS ?_
            try simp only [List.setIfInBounds_toArray, List.set_cons_zero, List.set_cons_succ]
            refine wpAnyH_done (by kernel_rfl) ?_ _
            go_wp2_with fail
            refine bodyPost_ret (results_cell3_row rfl _ _ W.heap.size 23 (ints .u8 key) (0, 0) _ rfl GF.out Try.underlying23 rfl (by rw [ints_size, HKL.out]; exact sizeKey)) rfl ⟨?_, ?_⟩
            · exact BF.out
            · exact Or.inl ⟨by omega, _, _, rfl, ⟨HKL.out, HKR.out⟩, fun h => absurd h (by omega), Nat.le_refl _, by unfold maxLen; omega⟩
          · have k1 : ¬ (i : Int) - (b : Int) + (c : Int) ≤ 0 := by omega
            have k2 : (n : Int) ≤ (i : Int) - (b : Int) := by omega
            go_enter Try.func71, Try.ntmps71
            go_wp2_with fail
            clear hW0
            refine wp_region_held_drew (S := fun U => Below W.heap.size W U) (by kernel_rfl) BW.out.drew (fun hS => ?_)
            have GD := Lib.hid (keep_block (w := W0) G0.out (Below.refl W0.heap.size W0).drew)
            have BD := Lib.hid (below_call BW.out BW.out.size (Below.refl W0.heap.size W0).drew)
            generalize W0.drew = WD at GD BD hS ⊢
            refine take_at (i := 0) (v := .slice (some ⟨pb, po + p * 32, none⟩) 1 1) rfl rfl (by kernel_rfl) (by kernel_rfl) (by kernel_rfl) (fun _ _ _ h => h) (Or.inl ⟨by rfl, fun U hU => by go_simp⟩) hS ?_
            try simp only [List.setIfInBounds_toArray, List.set_cons_zero, List.set_cons_succ]
            refine take_at (i := 1) (v := .pointer (some ⟨pb, po + p * 32, none⟩)) rfl rfl (by kernel_rfl) (by kernel_rfl) (by kernel_rfl) (fun _ _ _ h => h) (Or.inl ⟨by rfl, fun U hU => by go_simp⟩) hS ?_
            try simp only [List.setIfInBounds_toArray, List.set_cons_zero, List.set_cons_succ]
            refine take_at (i := 2) (v := .agg (ints .u8 key)) rfl rfl (by kernel_rfl) (by kernel_rfl) (by kernel_rfl) (fun _ _ _ h => h) (yieldsIf_load_mid (by rfl) 23 _ rfl pb (po + p * 32) rfl (key.map (Value.int .u8)) _ (fun U hU => rangeAt_below Hkey.out hU) Try.underlying23 rfl (by rw [List.length_map, HKL.out]; exact sizeKey)) hS ?_
            try simp only [List.setIfInBounds_toArray, List.set_cons_zero, List.set_cons_succ]
            refine take_at (i := 3) (v := .slice (some ⟨pb, po + p * 32, none⟩) 1 1) rfl rfl (by kernel_rfl) (by kernel_rfl) (by kernel_rfl) (fun _ _ _ h => h) (Or.inl ⟨by rfl, fun U hU => by go_simp⟩) hS ?_
            try simp only [List.setIfInBounds_toArray, List.set_cons_zero, List.set_cons_succ]
            refine take_at (i := 4) (v := .slice (some ⟨pb, po + p * 32, none⟩) 0 0) rfl rfl (by kernel_rfl) (by kernel_rfl) (by kernel_rfl) (fun _ _ _ h => h) (Or.inl ⟨by rfl, fun U hU => by go_simp⟩) hS ?_
            try simp only [List.setIfInBounds_toArray, List.set_cons_zero, List.set_cons_succ]
            refine wpAnyH_ready (rs := [5]) (by kernel_rfl) (by simp) ?_
            refine AllReadyH.cons rfl (fun K hK => ?_) AllReadyH.nil
            rw [if_pos (by rfl)]
            refine wp_store_row (o := ⟨none, _, _, _, _, _⟩) 23 _ _ rfl _ (ints .u8 key) rfl rfl 23 (ints .u8 z32) GD.out (by rw [ints_size, HKL.out]; exact sizeKey) (by rw [ints_size, ints_size, HKL.out]; rfl) (ints_one _ _) ?_
            simp only [Act.put]
            have GF := Lib.hid (setRow_heap _ _ (ints .u8 z32) (ints .u8 key) _ _ GD.out)
            have BF := Lib.hid (Below.setRow BD.out (Nat.le_refl W.heap.size) (ints .u8 key))
            refine hK.out _ _ (Below.setRow hS (Nat.le_refl _) _) (fun hS => ?_)
            clear hK
            refine take_at (i := 6) (v := .slice (some ⟨pb, po + p * 32, none⟩) 0 0) rfl rfl (by kernel_rfl) (by kernel_rfl) (by kernel_rfl) (fun _ _ _ h => h) (Or.inl ⟨by rfl, fun U hU => by go_simp⟩) hS ?_
            try simp only [List.setIfInBounds_toArray, List.set_cons_zero, List.set_cons_succ]
            refine take_at (i := 7) (v := .bool true) rfl rfl (by kernel_rfl) (by kernel_rfl) (by kernel_rfl) (fun _ _ _ h => h) (Or.inl ⟨by rfl, fun U hU => by go_simp⟩) hS ?_
            try simp only [List.setIfInBounds_toArray, List.set_cons_zero, List.set_cons_succ]
            refine wpAnyH_done (by kernel_rfl) ?_ _
            go_wp2_with fail
            refine bodyPost_ret (results_cell3_row rfl _ _ W.heap.size 23 (ints .u8 key) (0, 0) _ rfl GF.out Try.underlying23 rfl (by rw [ints_size, HKL.out]; exact sizeKey)) rfl ⟨?_, ?_⟩
            · exact BF.out
            · exact Or.inl ⟨by omega, _, _, rfl, ⟨HKL.out, HKR.out⟩, fun h => absurd h (by omega), Nat.le_refl _, by unfold maxLen; omega⟩
        · have kC : ¬ C = 1 := hC
          by_cases h3 : i + c ≤ b
          · have k1 : (i : Int) - (b : Int) + (c : Int) ≤ 0 := by omega
            go_enter Try.func71, Try.ntmps71
            go_wp2_with fail
            clear hW0
            refine wp_region_held_drew (S := fun U => Below W.heap.size W U) (by kernel_rfl) BW.out.drew (fun hS => ?_)
            have GD := Lib.hid (keep_block (w := W0) G0.out (Below.refl W0.heap.size W0).drew)
            have BD := Lib.hid (below_call BW.out BW.out.size (Below.refl W0.heap.size W0).drew)
            generalize W0.drew = WD at GD BD hS ⊢
            refine take_at (i := 0) (v := .slice (some ⟨pb, po + p * 32, none⟩) q C) rfl rfl (by kernel_rfl) (by kernel_rfl) (by kernel_rfl) (fun _ _ _ h => h) (Or.inl ⟨by rfl, fun U hU => by go_simp⟩) hS ?_
            try simp only [List.setIfInBounds_toArray, List.set_cons_zero, List.set_cons_succ]
            refine take_at (i := 1) (v := .pointer (some ⟨pb, po + p * 32, none⟩)) rfl rfl (by kernel_rfl) (by kernel_rfl) (by kernel_rfl) (fun _ _ _ h => h) (Or.inl ⟨by rfl, fun U hU => by go_simp⟩) hS ?_
            try simp only [List.setIfInBounds_toArray, List.set_cons_zero, List.set_cons_succ]
            refine take_at (i := 2) (v := .agg (ints .u8 key)) rfl rfl (by kernel_rfl) (by kernel_rfl) (by kernel_rfl) (fun _ _ _ h => h) (yieldsIf_load_mid (by rfl) 23 _ rfl pb (po + p * 32) rfl (key.map (Value.int .u8)) _ (fun U hU => rangeAt_below Hkey.out hU) Try.underlying23 rfl (by rw [List.length_map, HKL.out]; exact sizeKey)) hS ?_
            try simp only [List.setIfInBounds_toArray, List.set_cons_zero, List.set_cons_succ]
            refine take_at (i := 3) (v := .slice (some ⟨pb, po + p * 32, none⟩) q C) rfl rfl (by kernel_rfl) (by kernel_rfl) (by kernel_rfl) (fun _ _ _ h => h) (Or.inl ⟨by rfl, fun U hU => by go_simp⟩) hS ?_
            try simp only [List.setIfInBounds_toArray, List.set_cons_zero, List.set_cons_succ]
            refine take_at (i := 4) (v := .slice (some ⟨pb, po + p * 32 + 32, none⟩) (q - 1) (C - 1)) rfl rfl (by kernel_rfl) (by kernel_rfl) (by kernel_rfl) (fun _ _ _ h => h) (Or.inl ⟨by rfl, fun U hU => by go_simp⟩) hS ?_
            try simp only [List.setIfInBounds_toArray, List.set_cons_zero, List.set_cons_succ]
            refine wpAnyH_ready (rs := [5]) (by kernel_rfl) (by simp) ?_
            refine AllReadyH.cons rfl (fun K hK => ?_) AllReadyH.nil
            rw [if_pos (by rfl)]
            refine wp_store_row (o := ⟨none, _, _, _, _, _⟩) 23 _ _ rfl _ (ints .u8 key) rfl rfl 23 (ints .u8 z32) GD.out (by rw [ints_size, HKL.out]; exact sizeKey) (by rw [ints_size, ints_size, HKL.out]; rfl) (ints_one _ _) ?_
            simp only [Act.put]
            have GF := Lib.hid (setRow_heap _ _ (ints .u8 z32) (ints .u8 key) _ _ GD.out)
            have BF := Lib.hid (Below.setRow BD.out (Nat.le_refl W.heap.size) (ints .u8 key))
            refine hK.out _ _ (Below.setRow hS (Nat.le_refl _) _) (fun hS => ?_)
            clear hK
            refine take_at (i := 6) (v := .slice (some ⟨pb, po + p * 32 + 32, none⟩) (q - 1) (C - 1)) rfl rfl (by kernel_rfl) (by kernel_rfl) (by kernel_rfl) (fun _ _ _ h => h) (Or.inl ⟨by rfl, fun U hU => by go_simp⟩) hS ?_
            try simp only [List.setIfInBounds_toArray, List.set_cons_zero, List.set_cons_succ]
            refine take_at (i := 7) (v := .bool true) rfl rfl (by kernel_rfl) (by kernel_rfl) (by kernel_rfl) (fun _ _ _ h => h) (Or.inl ⟨by rfl, fun U hU => by go_simp⟩) hS ?_
            try simp only [List.setIfInBounds_toArray, List.set_cons_zero, List.set_cons_succ]
            refine wpAnyH_done (by kernel_rfl) ?_ _
            go_wp2_with fail
            refine bodyPost_ret (results_cell3_row rfl _ _ W.heap.size 23 (ints .u8 key) (0, 0) _ rfl GF.out Try.underlying23 rfl (by rw [ints_size, HKL.out]; exact sizeKey)) rfl ⟨?_, ?_⟩
            · exact BF.out
            · exact Or.inl ⟨by omega, _, _, rfl, ⟨HKL.out, HKR.out⟩, fun _ => by rw [Nat.add_mul, Nat.one_mul, Nat.add_assoc], by omega, by omega⟩
          · have k1 : ¬ (i : Int) - (b : Int) + (c : Int) ≤ 0 := by omega
            have k2 : (n : Int) ≤ (i : Int) - (b : Int) := by omega
            go_enter Try.func71, Try.ntmps71
            go_wp2_with fail
            clear hW0
            refine wp_region_held_drew (S := fun U => Below W.heap.size W U) (by kernel_rfl) BW.out.drew (fun hS => ?_)
            have GD := Lib.hid (keep_block (w := W0) G0.out (Below.refl W0.heap.size W0).drew)
            have BD := Lib.hid (below_call BW.out BW.out.size (Below.refl W0.heap.size W0).drew)
            generalize W0.drew = WD at GD BD hS ⊢
            refine take_at (i := 0) (v := .slice (some ⟨pb, po + p * 32, none⟩) q C) rfl rfl (by kernel_rfl) (by kernel_rfl) (by kernel_rfl) (fun _ _ _ h => h) (Or.inl ⟨by rfl, fun U hU => by go_simp⟩) hS ?_
            try simp only [List.setIfInBounds_toArray, List.set_cons_zero, List.set_cons_succ]
            refine take_at (i := 1) (v := .pointer (some ⟨pb, po + p * 32, none⟩)) rfl rfl (by kernel_rfl) (by kernel_rfl) (by kernel_rfl) (fun _ _ _ h => h) (Or.inl ⟨by rfl, fun U hU => by go_simp⟩) hS ?_
            try simp only [List.setIfInBounds_toArray, List.set_cons_zero, List.set_cons_succ]
            refine take_at (i := 2) (v := .agg (ints .u8 key)) rfl rfl (by kernel_rfl) (by kernel_rfl) (by kernel_rfl) (fun _ _ _ h => h) (yieldsIf_load_mid (by rfl) 23 _ rfl pb (po + p * 32) rfl (key.map (Value.int .u8)) _ (fun U hU => rangeAt_below Hkey.out hU) Try.underlying23 rfl (by rw [List.length_map, HKL.out]; exact sizeKey)) hS ?_
            try simp only [List.setIfInBounds_toArray, List.set_cons_zero, List.set_cons_succ]
            refine take_at (i := 3) (v := .slice (some ⟨pb, po + p * 32, none⟩) q C) rfl rfl (by kernel_rfl) (by kernel_rfl) (by kernel_rfl) (fun _ _ _ h => h) (Or.inl ⟨by rfl, fun U hU => by go_simp⟩) hS ?_
            try simp only [List.setIfInBounds_toArray, List.set_cons_zero, List.set_cons_succ]
            refine take_at (i := 4) (v := .slice (some ⟨pb, po + p * 32 + 32, none⟩) (q - 1) (C - 1)) rfl rfl (by kernel_rfl) (by kernel_rfl) (by kernel_rfl) (fun _ _ _ h => h) (Or.inl ⟨by rfl, fun U hU => by go_simp⟩) hS ?_
            try simp only [List.setIfInBounds_toArray, List.set_cons_zero, List.set_cons_succ]
            refine wpAnyH_ready (rs := [5]) (by kernel_rfl) (by simp) ?_
            refine AllReadyH.cons rfl (fun K hK => ?_) AllReadyH.nil
            rw [if_pos (by rfl)]
            refine wp_store_row (o := ⟨none, _, _, _, _, _⟩) 23 _ _ rfl _ (ints .u8 key) rfl rfl 23 (ints .u8 z32) GD.out (by rw [ints_size, HKL.out]; exact sizeKey) (by rw [ints_size, ints_size, HKL.out]; rfl) (ints_one _ _) ?_
            simp only [Act.put]
            have GF := Lib.hid (setRow_heap _ _ (ints .u8 z32) (ints .u8 key) _ _ GD.out)
            have BF := Lib.hid (Below.setRow BD.out (Nat.le_refl W.heap.size) (ints .u8 key))
            refine hK.out _ _ (Below.setRow hS (Nat.le_refl _) _) (fun hS => ?_)
            clear hK
            refine take_at (i := 6) (v := .slice (some ⟨pb, po + p * 32 + 32, none⟩) (q - 1) (C - 1)) rfl rfl (by kernel_rfl) (by kernel_rfl) (by kernel_rfl) (fun _ _ _ h => h) (Or.inl ⟨by rfl, fun U hU => by go_simp⟩) hS ?_
            try simp only [List.setIfInBounds_toArray, List.set_cons_zero, List.set_cons_succ]
            refine take_at (i := 7) (v := .bool true) rfl rfl (by kernel_rfl) (by kernel_rfl) (by kernel_rfl) (fun _ _ _ h => h) (Or.inl ⟨by rfl, fun U hU => by go_simp⟩) hS ?_
            try simp only [List.setIfInBounds_toArray, List.set_cons_zero, List.set_cons_succ]
            refine wpAnyH_done (by kernel_rfl) ?_ _
            go_wp2_with fail
            refine bodyPost_ret (results_cell3_row rfl _ _ W.heap.size 23 (ints .u8 key) (0, 0) _ rfl GF.out Try.underlying23 rfl (by rw [ints_size, HKL.out]; exact sizeKey)) rfl ⟨?_, ?_⟩
            · exact BF.out
            · exact Or.inl ⟨by omega, _, _, rfl, ⟨HKL.out, HKR.out⟩, fun _ => by rw [Nat.add_mul, Nat.one_mul, Nat.add_assoc], by omega, by omega⟩
    · have hmiss : ¬ (b + n ≤ i ∨ i + c ≤ b) := fun h => hk (by unfold kdR; rw [if_pos h])
      have k1 : ¬ (i : Int) - (b : Int) + (c : Int) ≤ 0 := by omega
      have k2 : ¬ (n : Int) ≤ (i : Int) - (b : Int) := by omega
      by_cases h2 : n = 1
      · rw [need_leaf hk (Or.inr (by omega)), kgen_leaf hk (Or.inr (by omega))]
        subst h2
        have hbi : b - i < c := by omega
        have Hkey := Lib.hid ((HL.out.below (HW.out.trans (BW.out.mono HW.out.size))).key (b - i) hbi)
        have HKL := Lib.hid (keyAt_len HL.out.1 hbi)
        have HKR := Lib.hid (keyAt_range HFL.out (b - i))
        have hneg : -((i : Int) - (b : Int)) = ((b - i : Nat) : Int) := by omega
        have j1 : (0 : Int) ≤ -((i : Int) - (b : Int)) := by omega
        have j2 : -((i : Int) - (b : Int)) < (c : Int) := by omega
        have j3 : (-((i : Int) - (b : Int))).toNat = b - i := by omega
        clear hneg
        have HKE := Lib.hid (show lfR lv i b = keyAt lv (b - i) from rfl)
        rw [HKE.out]
        clear HKE
        generalize hkey : keyAt lv (b - i) = key at Hkey HKL HKR ⊢
        clear ih hkey
        go_enter Try.func71, Try.ntmps71
        go_wp2_with (first | (refine wpList_load_ints rfl 23 (.tmp 45) rfl blk (off + (b - i) * 32) rfl .u8 key _ Hkey.out Try.underlying23 rfl (by rw [HKL.out]; exact sizeKey) ?_) | (refine wpList_store_row rfl 23 (.tmp 8) _ rfl W.heap.size (ints .u8 key) rfl rfl 23 (ints .u8 z32) G0.out (by rw [ints_size, HKL.out]; exact sizeKey) (by rw [ints_size, ints_size, HKL.out]; rfl) (ints_one _ _) ?_))
        have GF := Lib.hid (setRow_heap _ _ (ints .u8 z32) (ints .u8 key) _ _ G0.out)
        refine bodyPost_ret (results_cell3_row rfl _ _ W.heap.size 23 (ints .u8 key) (0, 0) _ rfl GF.out Try.underlying23 rfl (by rw [ints_size, HKL.out]; exact sizeKey)) rfl ⟨?_, ?_⟩
        · exact Below.setRow BW.out (Nat.le_refl _) _
        · exact Or.inl ⟨Nat.zero_le _, A, C, rfl, ⟨HKL.out, HKR.out⟩, fun h => HA.out h, by omega, hCm⟩
      · have hk1 : ¬ (kdR i c b n = 1 ∨ n ≤ 1) := by
          unfold kdR
          rw [if_neg hmiss, if_neg h2]
          omega
        rw [need_two hk hk1, kgen_two hk hk1]
        have hm1 := half_pos n
        have hm2 := half_lt (n := n) (by omega)
        have Hhalf := Lib.hid (fun U => half_spec n (by omega) (by omega) U)
        have hn1 : ((n : Int) == 1) = false := by rw [beq_eq_false_iff_ne]; omega
        have e1 : ((n - half n : Nat) : Int) = (n : Int) - ((half n : Nat) : Int) := by omega
        have e2 : ((i : Int) - ((b + half n : Nat) : Int)) = (i : Int) - (b : Int) - ((half n : Nat) : Int) := by omega
        have HLc := Lib.hid (fun U hU => ih (half n) hm2 b p q C A U hm1 (by omega) hpq HA.out hqC hCm hU)
        have HRc := Lib.hid (fun (p2 q2 C2 : Nat) A2 U h3 h4 h5 h6 hU => ih (n - half n) (by omega) (b + half n) p2 q2 C2 A2 U (by omega) (by omega) h3 h4 h5 h6 hU)
        rw [e1, e2] at HRc
        clear ih e1 e2
        generalize kgen (kdR i c) (lfR lv i) (keyAt fl) (half n) b p = K1 at HLc ⊢
        generalize hnl : need (kdR i c) (half n) b = nl at HLc ⊢
        have HKR := Lib.hid (fun (p2 : Nat) => (rfl : kgen (kdR i c) (lfR lv i) (keyAt fl) (n - half n) (b + half n) p2 = kgen (kdR i c) (lfR lv i) (keyAt fl) (n - half n) (b + half n) p2))
        clear HKR
        generalize hK2 : kgen (kdR i c) (lfR lv i) (keyAt fl) (n - half n) (b + half n) = K2f at HRc ⊢
        generalize need (kdR i c) (n - half n) (b + half n) = nr at HRc ⊢
        clear hnl hK2
        generalize half n = m at hm1 hm2 Hhalf HLc HRc
        have c1 : (m : Int) < (n : Int) := by omega
        have c2 : (0 : Int) < (m : Int) := by omega
        go_enter Try.func71, Try.ntmps71
        go_wp2_with fail
        refine (Hhalf.out _).mono ?_
        rintro x w1 ⟨rfl, rfl⟩
        go_wp2_with fail
        clear hW0
        refine (HLc.out _ (HW.out.trans (BW.out.mono HW.out.size))).mono ?_
        rintro x w1 ⟨hb1, hT⟩
        have B1 := Lib.hid (below_call BW.out BW.out.size hb1)
        have G1 := Lib.hid (keep_block G0.out hb1)
        have Z1 : Hid (W.heap.size < w1.heap.size) := Lib.hid (by have := hb1.size; have := HSZ.out; omega)
        clear hb1
        rcases hT with ⟨hle, A', C', rfl, hK1, hA', hC1, hC2⟩ | ⟨hlt, k, A', m', C', hK1, rfl⟩
        · have HK1 := Lib.hid hK1
          have HLE := Lib.hid hle
          have L2 := Lib.hid (laid_below w1 (ints .u8 z32) (ints .u8 K1) 23)
          have N2 := Lib.hid (laid_new w1 (ints .u8 z32) (ints .u8 K1) 23)
          have G2 := Lib.hid (laid_old (ints .u8 z32) (ints .u8 K1) 23 G1.out)
          have B2 := Lib.hid (below_call B1.out B1.out.size L2.out)
          have HR2 := Lib.hid (HRc.out (p + nl) (q - nl) C' A' _ (by omega) hA' hC1 hC2 (HW.out.trans (B2.out.mono HW.out.size)))
          clear hK1 hle hA' hC1 hC2
          go_wp2_with (refine wpList_store_row rfl 23 (.tmp 13) _ rfl w1.heap.size (ints .u8 K1) rfl rfl 23 (ints .u8 z32) (by rw [Hz.out]; exact heap_alloc_last _ _) (by rw [ints_size, HK1.out.1]; exact sizeKey) (by rw [ints_size, ints_size, HK1.out.1]; rfl) (ints_one _ _) ?_)
          rw [← Hz.out]
          generalize (w1.alloc (.cells (ints .u8 z32) 23)).setRow w1.heap.size (ints .u8 K1) = W2 at L2 N2 G2 B2 HR2 ⊢
          refine HR2.out.mono ?_
          rintro x w3 ⟨hb3, hT⟩
          have B3 := Lib.hid (below_call B2.out B2.out.size hb3)
          have G3 := Lib.hid (keep_block G2.out hb3)
          have N3 := Lib.hid (keep_block N2.out hb3)
          have Z3 : Hid (w1.heap.size < w3.heap.size) := Lib.hid (by have := hb3.size; have := (Array.getElem?_eq_some_iff.1 N2.out).1; omega)
          clear hb3 HR2
          rcases hT with ⟨hle, A2, C2, rfl, hK2, hA2, hC1, hC2⟩ | ⟨hlt, k2, A2, m2, C2, hK2, rfl⟩
          · have HK2 := Lib.hid hK2
            have Hnode := Lib.hid (fun U => l03node_spec _ _ HK1.out.1 HK1.out.2 HK2.out.1 HK2.out.2 U)
            have Hvl := Lib.hid (nodeK_len K1 (K2f (p + nl)))
            have Hvr := Lib.hid (nodeK_range K1 (K2f (p + nl)))
            generalize hkk : (K2f (p + nl)) = k2v at HK2 Hnode Hvl Hvr
            generalize hvv : nodeK K1 k2v = V at Hnode Hvl Hvr
            have HKK := Lib.hid hkk
            have HVV := Lib.hid hvv
            clear hkk hvv
            have N4 := Lib.hid (laid_new w3 (ints .u8 z32) (ints .u8 k2v) 23)
            have M4 := Lib.hid (laid_old (ints .u8 z32) (ints .u8 k2v) 23 N3.out)
            have G4 := Lib.hid (laid_old (ints .u8 z32) (ints .u8 k2v) 23 G3.out)
            have B4 := Lib.hid (below_call B3.out B3.out.size (laid_below w3 (ints .u8 z32) (ints .u8 k2v) 23))
            go_wp2_with (first | (refine wpList_store_row rfl 23 (.tmp 16) _ rfl w3.heap.size (ints .u8 k2v) rfl rfl 23 (ints .u8 z32) (by rw [Hz.out]; exact heap_alloc_last _ _) (by rw [ints_size, HK2.out.1]; exact sizeKey) (by rw [ints_size, ints_size, HK2.out.1]; rfl) (ints_one _ _) ?_) | (refine wpList_load_row rfl 23 (.tmp 13) rfl w1.heap.size rfl 23 (ints .u8 K1) (0, 0) _ (by rw [← Hz.out]; exact M4.out) Try.underlying23 rfl (by rw [ints_size, HK1.out.1]; exact sizeKey) ?_) | (refine wpList_load_row rfl 23 (.tmp 16) rfl w3.heap.size rfl 23 (ints .u8 k2v) (0, 0) _ (by rw [← Hz.out]; exact N4.out) Try.underlying23 rfl (by rw [ints_size, HK2.out.1]; exact sizeKey) ?_))
            rw [← Hz.out]
            generalize (w3.alloc (.cells (ints .u8 z32) 23)).setRow w3.heap.size (ints .u8 k2v) = W4 at N4 M4 G4 B4 ⊢
            refine (Hnode.out _).mono ?_
            rintro x w5 ⟨rfl, hb5⟩
            have B5 := Lib.hid (below_call B4.out B4.out.size hb5)
            have G5 := Lib.hid (keep_block G4.out hb5)
            clear hb5
            go_wp2_with (refine wpList_store_row rfl 23 (.tmp 8) _ rfl W.heap.size (ints .u8 V) rfl rfl 23 (ints .u8 z32) G5.out (by rw [ints_size, Hvl.out]; exact sizeKey) (by rw [ints_size, ints_size, Hvl.out]; rfl) (ints_one _ _) ?_)
            have GF := Lib.hid (setRow_heap _ _ (ints .u8 z32) (ints .u8 V) _ _ G5.out)
            refine bodyPost_ret (results_cell3_row rfl _ _ W.heap.size 23 (ints .u8 V) (0, 0) _ rfl GF.out Try.underlying23 rfl (by rw [ints_size, Hvl.out]; exact sizeKey)) rfl ⟨?_, ?_⟩
            · exact Below.setRow B5.out (Nat.le_refl _) _
            · rw [HKK.out, HVV.out]; exact Or.inl ⟨by have := HLE.out; omega, A2, C2, by rw [show q - (nl + nr) = q - nl - nr by omega]; rfl, ⟨Hvl.out, Hvr.out⟩, fun h => by rw [hA2 (by omega), show p + (nl + nr) = p + nl + nr by omega], by omega, hC2⟩
          · have HK2 := Lib.hid hK2
            have Hnode := Lib.hid (fun U => l03node_spec _ _ HK1.out.1 HK1.out.2 HK2.out.1 HK2.out.2 U)
            have Hvl := Lib.hid (nodeK_len K1 k2)
            have Hvr := Lib.hid (nodeK_range K1 k2)
            generalize hvv : nodeK K1 k2 = V at Hnode Hvl Hvr
            have HVV := Lib.hid hvv
            clear hvv
            have N4 := Lib.hid (laid_new w3 (ints .u8 z32) (ints .u8 k2) 23)
            have M4 := Lib.hid (laid_old (ints .u8 z32) (ints .u8 k2) 23 N3.out)
            have G4 := Lib.hid (laid_old (ints .u8 z32) (ints .u8 k2) 23 G3.out)
            have B4 := Lib.hid (below_call B3.out B3.out.size (laid_below w3 (ints .u8 z32) (ints .u8 k2) 23))
            go_wp2_with (first | (refine wpList_store_row rfl 23 (.tmp 16) _ rfl w3.heap.size (ints .u8 k2) rfl rfl 23 (ints .u8 z32) (by rw [Hz.out]; exact heap_alloc_last _ _) (by rw [ints_size, HK2.out.1]; exact sizeKey) (by rw [ints_size, ints_size, HK2.out.1]; rfl) (ints_one _ _) ?_) | (refine wpList_load_row rfl 23 (.tmp 13) rfl w1.heap.size rfl 23 (ints .u8 K1) (0, 0) _ (by rw [← Hz.out]; exact M4.out) Try.underlying23 rfl (by rw [ints_size, HK1.out.1]; exact sizeKey) ?_) | (refine wpList_load_row rfl 23 (.tmp 16) rfl w3.heap.size rfl 23 (ints .u8 k2) (0, 0) _ (by rw [← Hz.out]; exact N4.out) Try.underlying23 rfl (by rw [ints_size, HK2.out.1]; exact sizeKey) ?_))
            rw [← Hz.out]
            generalize (w3.alloc (.cells (ints .u8 z32) 23)).setRow w3.heap.size (ints .u8 k2) = W4 at N4 M4 G4 B4 ⊢
            refine (Hnode.out _).mono ?_
            rintro x w5 ⟨rfl, hb5⟩
            have B5 := Lib.hid (below_call B4.out B4.out.size hb5)
            have G5 := Lib.hid (keep_block G4.out hb5)
            clear hb5
            go_wp2_with (refine wpList_store_row rfl 23 (.tmp 8) _ rfl W.heap.size (ints .u8 V) rfl rfl 23 (ints .u8 z32) G5.out (by rw [ints_size, Hvl.out]; exact sizeKey) (by rw [ints_size, ints_size, Hvl.out]; rfl) (ints_one _ _) ?_)
            have GF := Lib.hid (setRow_heap _ _ (ints .u8 z32) (ints .u8 V) _ _ G5.out)
            refine bodyPost_ret (results_cell3_row rfl _ _ W.heap.size 23 (ints .u8 V) (0, 0) _ rfl GF.out Try.underlying23 rfl (by rw [ints_size, Hvl.out]; exact sizeKey)) rfl ⟨?_, ?_⟩
            · exact Below.setRow B5.out (Nat.le_refl _) _
            · exact Or.inr ⟨by have := HLE.out; omega, _, A2, m2, C2, ⟨Hvl.out, Hvr.out⟩, rfl⟩
        · have HK1 := Lib.hid hK1
          have HLT := Lib.hid hlt
          have L2 := Lib.hid (laid_below w1 (ints .u8 z32) (ints .u8 k) 23)
          have G2 := Lib.hid (laid_old (ints .u8 z32) (ints .u8 k) 23 G1.out)
          have B2 := Lib.hid (below_call B1.out B1.out.size L2.out)
          go_wp2_with (first | (refine wpList_store_row rfl 23 (.tmp 13) _ rfl w1.heap.size (ints .u8 k) rfl rfl 23 (ints .u8 z32) (by rw [Hz.out]; exact heap_alloc_last _ _) (by rw [ints_size, HK1.out.1]; exact sizeKey) (by rw [ints_size, ints_size, HK1.out.1]; rfl) (ints_one _ _) ?_) | (refine wpList_store_row rfl 23 (.tmp 8) _ rfl W.heap.size (ints .u8 z32) rfl rfl 23 (ints .u8 z32) (by rw [← Hz.out]; exact G2.out) (by kernel_rfl) rfl (ints_one _ _) ?_))
          have GF := Lib.hid (setRow_heap _ _ (ints .u8 z32) (ints .u8 z32) _ _ G2.out)
          refine bodyPost_ret (results_cell3_row rfl _ _ W.heap.size 23 (ints .u8 z32) (0, 0) _ rfl (by rw [← Hz.out]; exact GF.out) Try.underlying23 rfl (by kernel_rfl)) rfl ⟨?_, ?_⟩
          · rw [← Hz.out]; exact Below.setRow B2.out (Nat.le_refl _) _
          · exact Or.inr ⟨by have := HLT.out; omega, z32, A, q, C, ⟨rfl, z32_range⟩, rfl⟩
end Go.Proofs.Ytjcfpfegabnnlaa
