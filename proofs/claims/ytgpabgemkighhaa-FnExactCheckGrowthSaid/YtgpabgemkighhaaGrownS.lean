/- What the specification is told of a tree that has grown. Written by wip/gen/grown.py. -/
import Derived.Test.YtgpabgemkighhaaGrowM
import Derived.Test.YtgpabgemkighhaaTreeS
namespace Go.Proofs.Ytgpabgemkighhaa
open Go.ChangeShapes Go.WideShapes Go.ChangeAt Go.RowKit
set_option linter.unusedVariables false
set_option linter.unusedSimpArgs false
theorem results_cell4_row {P : Program} {fn : Func} {p u v x : Tmp} {ty : TypeId} (h : fn.results = #[.cell p ty, .tmp u, .tmp v, .tmp x]) (tmps : Array Value) (w : World) (g : Nat) (t : TypeId) (cs : Array Value) (fr : Nat × Nat) (d : TypeDesc)
    (hp : tmps.getD p undef = .pointer (some ⟨g, 0, none⟩)) (hg : w.heap[g]? = some (.cells cs t fr))
    (hu : P.underlying ty = some d) (hd : (match d with | .struct _ | .array _ _ => true | _ => false) = true) (hi : (P.info? ty).map (·.size) = some cs.size) :
    (results fn tmps).run P w = .ok (.tuple #[.agg cs, tmps.getD u undef, tmps.getD v undef, tmps.getD x undef]) w := by
  have hp' : tmps[p]?.getD undef = .pointer (some ⟨g, 0, none⟩) := by simpa using hp
  simp [results, h, hp', asAddr, run_loadVar_row w g t ty cs fr d hg hu hd hi]
set_option maxHeartbeats 1000000 in
theorem min_lo (a b : Int) (h : a < b) (w : World) : Calls Try.prog 115 #[.int .i64 a, .int .i64 b] w fun e w' => e = .returned (.int .i64 a) ∧ w = w' := by
  go_enter Try.func115, Try.ntmps115
  go_wp2
  go_ret
  exact ⟨rfl, rfl⟩
set_option maxHeartbeats 1000000 in
theorem min_hi (a b : Int) (h : ¬ a < b) (w : World) : Calls Try.prog 115 #[.int .i64 a, .int .i64 b] w fun e w' => e = .returned (.int .i64 b) ∧ w = w' := by
  go_enter Try.func115, Try.ntmps115
  go_wp2
  go_ret
  exact ⟨rfl, rfl⟩
/-- How many of the n leaves from b on are among the first m. -/
def mm (m b n : Nat) : Int := if b + n ≤ m then (n : Int) else (m : Int) - (b : Int)
theorem mm_left {m b n h : Nat} (h1 : h < n) (w : World) : Calls Try.prog 115 #[.int .i64 (mm m b n), .int .i64 (h : Int)] w fun e w' => e = .returned (.int .i64 (mm m b h)) ∧ w = w' := by
  by_cases hh : b + h ≤ m
  · have e : mm m b h = (h : Int) := by unfold mm; rw [if_pos hh]
    rw [e]
    exact min_hi _ _ (by unfold mm; split <;> omega) w
  · have e : mm m b h = mm m b n := by unfold mm; rw [if_neg hh, if_neg (by omega)]
    rw [e]
    exact min_lo _ _ (by unfold mm; rw [if_neg (by omega)]; omega) w
theorem mm_right {m b n h : Nat} (h1 : h < n) : mm m b n - (h : Int) = mm m (b + h) (n - h) := by
  unfold mm
  by_cases hh : b + n ≤ m
  · rw [if_pos hh, if_pos (by omega)]; omega
  · rw [if_neg hh, if_neg (by omega)]; omega
/-- What it answers: the key, and what is left of the peaks and of the others; or that they do not last. -/
def GrownP (K : List Int) (nP nO pq oq pp po K0 pb q0 : Nat) (x : Ending) : Prop :=
  (nP ≤ pq ∧ nO ≤ oq ∧ ∃ A' C' B' D', x = .returned (.tuple #[.agg (ints .u8 K), .slice A' (pq - nP) C', .slice B' (oq - nO) D', .bool true]) ∧ L32 K ∧ (0 < pq - nP → A' = some ⟨pb, q0 + (pp + nP) * 32, none⟩) ∧ pq - nP ≤ C' ∧ C' ≤ maxLen ∧ (0 < oq - nO → B' = some ⟨pb, q0 + (K0 + (po + nO)) * 32, none⟩) ∧ oq - nO ≤ D' ∧ D' ≤ maxLen) ∨
  ((pq < nP ∨ oq < nO) ∧ ∃ k A' m' C' B' m2 D', L32 k ∧ x = .returned (.tuple #[.agg (ints .u8 k), .slice A' m' C', .slice B' m2 D', .bool false]))
set_option maxRecDepth 100000 in
set_option maxHeartbeats 8000000 in
theorem grown_spec (w0 : World) (m pb q0 P K0 N : Nat) (fl : List Int) (hN : N ≤ 256) (hmN : m ≤ N) (hK0 : K0 ≤ P) (hP : P ≤ 1048576) (hp : RdK w0 (some ⟨pb, q0, none⟩) P fl) (fbp : ∀ z ∈ fl, 0 ≤ z ∧ z ≤ 255) :
    ∀ (n b pp pq po oq C D : Nat) (A B : Option Addr) (W : World), 1 ≤ n → b + n ≤ N → pp + pq = K0 → po + oq = P - K0 → (0 < pq → A = some ⟨pb, q0 + pp * 32, none⟩) → pq ≤ C → C ≤ maxLen → (0 < oq → B = some ⟨pb, q0 + (K0 + po) * 32, none⟩) → oq ≤ D → D ≤ maxLen → Below w0.heap.size w0 W →
      Calls Try.prog 80 #[.int .i64 (n : Int), .int .i64 (mm m b n), .slice A pq C, .slice B oq D] W fun x w' => Below W.heap.size W w' ∧ GrownP (kg2 m K0 (keyAt fl) n b pp po) (needP m n b) (needO m n b) pq oq pp po K0 pb q0 x := by
  have Hz := Lib.hid z32_ints
  have HQ := Lib.hid hp
  have HFP := Lib.hid fbp
  clear hp fbp
  intro n
  induction n using Nat.strongRecOn with
  | _ n ih =>
    intro b pp pq po oq C D A B W h1 hb hpq hoq hA hC1 hC2 hB hD1 hD2 hW
    have HW := Lib.hid hW
    have BW := Lib.hid ((Below.refl W.heap.size W).alloc (Nat.le_refl _) (.cells (ints .u8 z32) 23))
    have G0 := Lib.hid (heap_alloc_last W (.cells (ints .u8 z32) 23))
    obtain ⟨W0, hW0⟩ : ∃ W0, W.alloc (.cells (ints .u8 z32) 23) = W0 := ⟨_, rfl⟩
    have HSZ : Hid (W0.heap.size = W.heap.size + 1) := Lib.hid (by rw [← hW0]; simp)
    rw [hW0] at BW G0
    have HA := Lib.hid hA
    have HB := Lib.hid hB
    have b6 : (n : Int) ≤ 256 := by omega
    have b7 : (1 : Int) ≤ (n : Int) := by omega
    have Hon := Lib.hid (fun U => ones_spec n (by omega) U)
    clear hA hB hW
    rw [Hz.out] at hW0
    by_cases hov : m ≤ b
    · have k1 : mm m b n ≤ 0 := by unfold mm; rw [if_neg (by omega)]; omega
      rw [needP_over hov, needO_over hov, kg2_over hov]
      generalize mm m b n = M at k1 ⊢
      clear ih
      by_cases hq : oq = 0
      · subst hq
        go_enter Try.func80, Try.ntmps80
        go_wp2_with (refine wpList_store_row rfl 23 (.tmp 8) _ rfl W.heap.size (ints .u8 z32) rfl rfl 23 (ints .u8 z32) G0.out (by kernel_rfl) rfl (ints_one _ _) ?_)
        have GF := Lib.hid (setRow_heap _ _ (ints .u8 z32) (ints .u8 z32) _ _ G0.out)
        refine bodyPost_ret (results_cell4_row rfl _ _ W.heap.size 23 (ints .u8 z32) (0, 0) _ rfl GF.out Try.underlying23 rfl (by kernel_rfl)) rfl ⟨?_, ?_⟩
        · exact Below.setRow BW.out (Nat.le_refl _) _
        · exact Or.inr ⟨by omega, z32, A, _, C, B, _, D, ⟨rfl, z32_byte⟩, rfl⟩
      · have HAq := HB.out (by omega)
        subst HAq
        have k5 : ((oq : Int) == 0) = false := by rw [beq_eq_false_iff_ne]; omega
        have k6 : (0 : Int) < (oq : Int) := by omega
        have k7 : 0 < oq := by omega
        have k8 : (1 : Int) ≤ (oq : Int) := by omega
        have k9 : (1 : Int) ≤ (D : Int) := by omega
        have k10 : (oq : Int) ≤ (D : Int) := by omega
        have Hkey := Lib.hid ((HQ.out.below HW.out).key (K0 + po) (by omega))
        have HKL := Lib.hid (keyAt_len HQ.out.1 (show K0 + po < P by omega))
        have HKR := Lib.hid (keyAt_range HFP.out (K0 + po))
        generalize keyAt fl (K0 + po) = key at Hkey HKL HKR ⊢
        generalize hix : K0 + po = ix at Hkey ⊢
        have HIX := Lib.hid (show K0 + (po + 1) = ix + 1 by omega)
        clear hix
        by_cases hC : D = 1
        · obtain rfl : oq = 1 := by omega
          subst hC
          go_enter Try.func80, Try.ntmps80
          go_wp2_with fail
          clear hW0
          refine wp_region_held_drew (S := fun U => Below W.heap.size W U) (by kernel_rfl) BW.out.drew (fun hS => ?_)
          have GD := Lib.hid (keep_block (w := W0) G0.out (Below.refl W0.heap.size W0).drew)
          have BD := Lib.hid (below_call BW.out BW.out.size (Below.refl W0.heap.size W0).drew)
          generalize W0.drew = WD at GD BD hS ⊢
          refine take_at (i := 0) (v := .slice (some ⟨pb, q0 + ix * 32, none⟩) 1 1) rfl rfl (by kernel_rfl) (by kernel_rfl) (by kernel_rfl) (fun _ _ _ h => h) (Or.inl ⟨by rfl, fun U hU => by go_simp⟩) hS ?_
          try simp only [List.setIfInBounds_toArray, List.set_cons_zero, List.set_cons_succ]
          refine take_at (i := 1) (v := .pointer (some ⟨pb, q0 + ix * 32, none⟩)) rfl rfl (by kernel_rfl) (by kernel_rfl) (by kernel_rfl) (fun _ _ _ h => h) (Or.inl ⟨by rfl, fun U hU => by go_simp⟩) hS ?_
          try simp only [List.setIfInBounds_toArray, List.set_cons_zero, List.set_cons_succ]
          refine take_at (i := 2) (v := .agg (ints .u8 key)) rfl rfl (by kernel_rfl) (by kernel_rfl) (by kernel_rfl) (fun _ _ _ h => h) (yieldsIf_load_mid (by rfl) 23 _ rfl pb (q0 + ix * 32) rfl (key.map (Value.int .u8)) _ (fun U hU => rangeAt_below Hkey.out hU) Try.underlying23 rfl (by rw [List.length_map, HKL.out]; exact sizeKey)) hS ?_
          try simp only [List.setIfInBounds_toArray, List.set_cons_zero, List.set_cons_succ]
          refine take_at (i := 3) (v := .slice A pq C) rfl rfl (by kernel_rfl) (by kernel_rfl) (by kernel_rfl) (fun _ _ _ h => h) (Or.inl ⟨by rfl, fun U hU => by go_simp⟩) hS ?_
          try simp only [List.setIfInBounds_toArray, List.set_cons_zero, List.set_cons_succ]
          refine take_at (i := 4) (v := .slice (some ⟨pb, q0 + ix * 32, none⟩) 1 1) rfl rfl (by kernel_rfl) (by kernel_rfl) (by kernel_rfl) (fun _ _ _ h => h) (Or.inl ⟨by rfl, fun U hU => by go_simp⟩) hS ?_
          try simp only [List.setIfInBounds_toArray, List.set_cons_zero, List.set_cons_succ]
          refine take_at (i := 5) (v := .slice (some ⟨pb, q0 + ix * 32, none⟩) 0 0) rfl rfl (by kernel_rfl) (by kernel_rfl) (by kernel_rfl) (fun _ _ _ h => h) (Or.inl ⟨by rfl, fun U hU => by go_simp⟩) hS ?_
          try simp only [List.setIfInBounds_toArray, List.set_cons_zero, List.set_cons_succ]
          refine wpAnyH_ready (rs := [6]) (by kernel_rfl) (by simp) ?_
          refine AllReadyH.cons rfl (fun K hK => ?_) AllReadyH.nil
          rw [if_pos (by rfl)]
          refine wp_store_row (o := ⟨none, _, _, _, _, _⟩) 23 _ _ rfl _ (ints .u8 key) rfl rfl 23 (ints .u8 z32) GD.out (by rw [ints_size, HKL.out]; exact sizeKey) (by rw [ints_size, ints_size, HKL.out]; rfl) (ints_one _ _) ?_
          simp only [Act.put]
          have GF := Lib.hid (setRow_heap _ _ (ints .u8 z32) (ints .u8 key) _ _ GD.out)
          have BF := Lib.hid (Below.setRow BD.out (Nat.le_refl W.heap.size) (ints .u8 key))
          refine hK.out _ _ (Below.setRow hS (Nat.le_refl _) _) (fun hS => ?_)
          clear hK
          refine take_at (i := 7) (v := .slice A pq C) rfl rfl (by kernel_rfl) (by kernel_rfl) (by kernel_rfl) (fun _ _ _ h => h) (Or.inl ⟨by rfl, fun U hU => by go_simp⟩) hS ?_
          try simp only [List.setIfInBounds_toArray, List.set_cons_zero, List.set_cons_succ]
          refine take_at (i := 8) (v := .slice (some ⟨pb, q0 + ix * 32, none⟩) 0 0) rfl rfl (by kernel_rfl) (by kernel_rfl) (by kernel_rfl) (fun _ _ _ h => h) (Or.inl ⟨by rfl, fun U hU => by go_simp⟩) hS ?_
          try simp only [List.setIfInBounds_toArray, List.set_cons_zero, List.set_cons_succ]
          refine take_at (i := 9) (v := .bool true) rfl rfl (by kernel_rfl) (by kernel_rfl) (by kernel_rfl) (fun _ _ _ h => h) (Or.inl ⟨by rfl, fun U hU => by go_simp⟩) hS ?_
          try simp only [List.setIfInBounds_toArray, List.set_cons_zero, List.set_cons_succ]
          refine wpAnyH_done (by kernel_rfl) ?_ _
          go_wp2_with fail
          refine bodyPost_ret (results_cell4_row rfl _ _ W.heap.size 23 (ints .u8 key) (0, 0) _ rfl GF.out Try.underlying23 rfl (by rw [ints_size, HKL.out]; exact sizeKey)) rfl ⟨?_, ?_⟩
          · exact BF.out
          · exact Or.inl ⟨by omega, by omega, _, _, _, _, rfl, ⟨HKL.out, HKR.out⟩, fun h => HA.out h, by omega, hC2, fun h => absurd h (by omega), Nat.le_refl _, by unfold maxLen; omega⟩
        · have kC : ¬ D = 1 := hC
          go_enter Try.func80, Try.ntmps80
          go_wp2_with fail
          clear hW0
          refine wp_region_held_drew (S := fun U => Below W.heap.size W U) (by kernel_rfl) BW.out.drew (fun hS => ?_)
          have GD := Lib.hid (keep_block (w := W0) G0.out (Below.refl W0.heap.size W0).drew)
          have BD := Lib.hid (below_call BW.out BW.out.size (Below.refl W0.heap.size W0).drew)
          generalize W0.drew = WD at GD BD hS ⊢
          refine take_at (i := 0) (v := .slice (some ⟨pb, q0 + ix * 32, none⟩) oq D) rfl rfl (by kernel_rfl) (by kernel_rfl) (by kernel_rfl) (fun _ _ _ h => h) (Or.inl ⟨by rfl, fun U hU => by go_simp⟩) hS ?_
          try simp only [List.setIfInBounds_toArray, List.set_cons_zero, List.set_cons_succ]
          refine take_at (i := 1) (v := .pointer (some ⟨pb, q0 + ix * 32, none⟩)) rfl rfl (by kernel_rfl) (by kernel_rfl) (by kernel_rfl) (fun _ _ _ h => h) (Or.inl ⟨by rfl, fun U hU => by go_simp⟩) hS ?_
          try simp only [List.setIfInBounds_toArray, List.set_cons_zero, List.set_cons_succ]
          refine take_at (i := 2) (v := .agg (ints .u8 key)) rfl rfl (by kernel_rfl) (by kernel_rfl) (by kernel_rfl) (fun _ _ _ h => h) (yieldsIf_load_mid (by rfl) 23 _ rfl pb (q0 + ix * 32) rfl (key.map (Value.int .u8)) _ (fun U hU => rangeAt_below Hkey.out hU) Try.underlying23 rfl (by rw [List.length_map, HKL.out]; exact sizeKey)) hS ?_
          try simp only [List.setIfInBounds_toArray, List.set_cons_zero, List.set_cons_succ]
          refine take_at (i := 3) (v := .slice A pq C) rfl rfl (by kernel_rfl) (by kernel_rfl) (by kernel_rfl) (fun _ _ _ h => h) (Or.inl ⟨by rfl, fun U hU => by go_simp⟩) hS ?_
          try simp only [List.setIfInBounds_toArray, List.set_cons_zero, List.set_cons_succ]
          refine take_at (i := 4) (v := .slice (some ⟨pb, q0 + ix * 32, none⟩) oq D) rfl rfl (by kernel_rfl) (by kernel_rfl) (by kernel_rfl) (fun _ _ _ h => h) (Or.inl ⟨by rfl, fun U hU => by go_simp⟩) hS ?_
          try simp only [List.setIfInBounds_toArray, List.set_cons_zero, List.set_cons_succ]
          refine take_at (i := 5) (v := .slice (some ⟨pb, q0 + ix * 32 + 32, none⟩) (oq - 1) (D - 1)) rfl rfl (by kernel_rfl) (by kernel_rfl) (by kernel_rfl) (fun _ _ _ h => h) (Or.inl ⟨by rfl, fun U hU => by go_simp⟩) hS ?_
          try simp only [List.setIfInBounds_toArray, List.set_cons_zero, List.set_cons_succ]
          refine wpAnyH_ready (rs := [6]) (by kernel_rfl) (by simp) ?_
          refine AllReadyH.cons rfl (fun K hK => ?_) AllReadyH.nil
          rw [if_pos (by rfl)]
          refine wp_store_row (o := ⟨none, _, _, _, _, _⟩) 23 _ _ rfl _ (ints .u8 key) rfl rfl 23 (ints .u8 z32) GD.out (by rw [ints_size, HKL.out]; exact sizeKey) (by rw [ints_size, ints_size, HKL.out]; rfl) (ints_one _ _) ?_
          simp only [Act.put]
          have GF := Lib.hid (setRow_heap _ _ (ints .u8 z32) (ints .u8 key) _ _ GD.out)
          have BF := Lib.hid (Below.setRow BD.out (Nat.le_refl W.heap.size) (ints .u8 key))
          refine hK.out _ _ (Below.setRow hS (Nat.le_refl _) _) (fun hS => ?_)
          clear hK
          refine take_at (i := 7) (v := .slice A pq C) rfl rfl (by kernel_rfl) (by kernel_rfl) (by kernel_rfl) (fun _ _ _ h => h) (Or.inl ⟨by rfl, fun U hU => by go_simp⟩) hS ?_
          try simp only [List.setIfInBounds_toArray, List.set_cons_zero, List.set_cons_succ]
          refine take_at (i := 8) (v := .slice (some ⟨pb, q0 + ix * 32 + 32, none⟩) (oq - 1) (D - 1)) rfl rfl (by kernel_rfl) (by kernel_rfl) (by kernel_rfl) (fun _ _ _ h => h) (Or.inl ⟨by rfl, fun U hU => by go_simp⟩) hS ?_
          try simp only [List.setIfInBounds_toArray, List.set_cons_zero, List.set_cons_succ]
          refine take_at (i := 9) (v := .bool true) rfl rfl (by kernel_rfl) (by kernel_rfl) (by kernel_rfl) (fun _ _ _ h => h) (Or.inl ⟨by rfl, fun U hU => by go_simp⟩) hS ?_
          try simp only [List.setIfInBounds_toArray, List.set_cons_zero, List.set_cons_succ]
          refine wpAnyH_done (by kernel_rfl) ?_ _
          go_wp2_with fail
          refine bodyPost_ret (results_cell4_row rfl _ _ W.heap.size 23 (ints .u8 key) (0, 0) _ rfl GF.out Try.underlying23 rfl (by rw [ints_size, HKL.out]; exact sizeKey)) rfl ⟨?_, ?_⟩
          · exact BF.out
          · exact Or.inl ⟨by omega, by omega, _, _, _, _, rfl, ⟨HKL.out, HKR.out⟩, fun h => HA.out h, by omega, hC2, fun _ => by rw [HIX.out]; congr 2; omega, by omega, by omega⟩
    · have k1 : ¬ mm m b n ≤ 0 := by unfold mm; split <;> omega
      by_cases hpk : kdG m b n = 0
      · have hpk2 : b + n ≤ m ∧ ones n = 1 := by
          unfold kdG at hpk
          split at hpk
          · rename_i h4
            rcases h4 with h4 | h4
            · exact h4
            · exact absurd h4 hov
          · omega
        have e1 : needP m n b = 1 := by unfold needP; rw [needW_read hpk]; unfold isP; rw [if_neg hov]
        have e2 : needO m n b = 0 := needO_in n b h1 hpk2.1
        rw [e1, e2, kg2_peak hpk hov]
        have k2 : (n : Int) ≤ mm m b n := by unfold mm; rw [if_pos hpk2.1]; omega
        have d1 : (((ones n : Nat) : Int) == 1) = true := by rw [beq_iff_eq]; omega
        generalize mm m b n = M at k1 k2 ⊢
        generalize ones n = on at Hon d1
        clear ih e1 e2 hpk hpk2
        by_cases hq : pq = 0
        · subst hq
          go_enter Try.func80, Try.ntmps80
          go_wp2_with fail
          refine (Hon.out _).mono ?_
          rintro x y1 ⟨rfl, rfl⟩
          go_wp2_with (refine wpList_store_row rfl 23 (.tmp 8) _ rfl W.heap.size (ints .u8 z32) rfl rfl 23 (ints .u8 z32) G0.out (by kernel_rfl) rfl (ints_one _ _) ?_)
          have GF := Lib.hid (setRow_heap _ _ (ints .u8 z32) (ints .u8 z32) _ _ G0.out)
          refine bodyPost_ret (results_cell4_row rfl _ _ W.heap.size 23 (ints .u8 z32) (0, 0) _ rfl GF.out Try.underlying23 rfl (by kernel_rfl)) rfl ⟨?_, ?_⟩
          · exact Below.setRow BW.out (Nat.le_refl _) _
          · exact Or.inr ⟨by omega, z32, A, _, C, B, _, D, ⟨rfl, z32_byte⟩, rfl⟩
        · have HAq := HA.out (by omega)
          subst HAq
          have k5 : ((pq : Int) == 0) = false := by rw [beq_eq_false_iff_ne]; omega
          have k6 : (0 : Int) < (pq : Int) := by omega
          have k7 : 0 < pq := by omega
          have k8 : (1 : Int) ≤ (pq : Int) := by omega
          have k9 : (1 : Int) ≤ (C : Int) := by omega
          have k10 : (pq : Int) ≤ (C : Int) := by omega
          have Hkey := Lib.hid ((HQ.out.below HW.out).key pp (by omega))
          have HKL := Lib.hid (keyAt_len HQ.out.1 (show pp < P by omega))
          have HKR := Lib.hid (keyAt_range HFP.out pp)
          generalize keyAt fl pp = key at Hkey HKL HKR ⊢
          by_cases hC : C = 1
          · obtain rfl : pq = 1 := by omega
            subst hC
            go_enter Try.func80, Try.ntmps80
            go_wp2_with fail
            refine (Hon.out _).mono ?_
            rintro x y1 ⟨rfl, rfl⟩
            go_wp2_with fail
            clear hW0
            refine wp_region_held_drew (S := fun U => Below W.heap.size W U) (by kernel_rfl) BW.out.drew (fun hS => ?_)
            have GD := Lib.hid (keep_block (w := W0) G0.out (Below.refl W0.heap.size W0).drew)
            have BD := Lib.hid (below_call BW.out BW.out.size (Below.refl W0.heap.size W0).drew)
            generalize W0.drew = WD at GD BD hS ⊢
            refine take_at (i := 0) (v := .slice (some ⟨pb, q0 + pp * 32, none⟩) 1 1) rfl rfl (by kernel_rfl) (by kernel_rfl) (by kernel_rfl) (fun _ _ _ h => h) (Or.inl ⟨by rfl, fun U hU => by go_simp⟩) hS ?_
            try simp only [List.setIfInBounds_toArray, List.set_cons_zero, List.set_cons_succ]
            refine take_at (i := 1) (v := .pointer (some ⟨pb, q0 + pp * 32, none⟩)) rfl rfl (by kernel_rfl) (by kernel_rfl) (by kernel_rfl) (fun _ _ _ h => h) (Or.inl ⟨by rfl, fun U hU => by go_simp⟩) hS ?_
            try simp only [List.setIfInBounds_toArray, List.set_cons_zero, List.set_cons_succ]
            refine take_at (i := 2) (v := .agg (ints .u8 key)) rfl rfl (by kernel_rfl) (by kernel_rfl) (by kernel_rfl) (fun _ _ _ h => h) (yieldsIf_load_mid (by rfl) 23 _ rfl pb (q0 + pp * 32) rfl (key.map (Value.int .u8)) _ (fun U hU => rangeAt_below Hkey.out hU) Try.underlying23 rfl (by rw [List.length_map, HKL.out]; exact sizeKey)) hS ?_
            try simp only [List.setIfInBounds_toArray, List.set_cons_zero, List.set_cons_succ]
            refine take_at (i := 3) (v := .slice (some ⟨pb, q0 + pp * 32, none⟩) 1 1) rfl rfl (by kernel_rfl) (by kernel_rfl) (by kernel_rfl) (fun _ _ _ h => h) (Or.inl ⟨by rfl, fun U hU => by go_simp⟩) hS ?_
            try simp only [List.setIfInBounds_toArray, List.set_cons_zero, List.set_cons_succ]
            refine take_at (i := 4) (v := .slice (some ⟨pb, q0 + pp * 32, none⟩) 0 0) rfl rfl (by kernel_rfl) (by kernel_rfl) (by kernel_rfl) (fun _ _ _ h => h) (Or.inl ⟨by rfl, fun U hU => by go_simp⟩) hS ?_
            try simp only [List.setIfInBounds_toArray, List.set_cons_zero, List.set_cons_succ]
            refine take_at (i := 5) (v := .slice B oq D) rfl rfl (by kernel_rfl) (by kernel_rfl) (by kernel_rfl) (fun _ _ _ h => h) (Or.inl ⟨by rfl, fun U hU => by go_simp⟩) hS ?_
            try simp only [List.setIfInBounds_toArray, List.set_cons_zero, List.set_cons_succ]
            refine wpAnyH_ready (rs := [6]) (by kernel_rfl) (by simp) ?_
            refine AllReadyH.cons rfl (fun K hK => ?_) AllReadyH.nil
            rw [if_pos (by rfl)]
            refine wp_store_row (o := ⟨none, _, _, _, _, _⟩) 23 _ _ rfl _ (ints .u8 key) rfl rfl 23 (ints .u8 z32) GD.out (by rw [ints_size, HKL.out]; exact sizeKey) (by rw [ints_size, ints_size, HKL.out]; rfl) (ints_one _ _) ?_
            simp only [Act.put]
            have GF := Lib.hid (setRow_heap _ _ (ints .u8 z32) (ints .u8 key) _ _ GD.out)
            have BF := Lib.hid (Below.setRow BD.out (Nat.le_refl W.heap.size) (ints .u8 key))
            refine hK.out _ _ (Below.setRow hS (Nat.le_refl _) _) (fun hS => ?_)
            clear hK
            refine take_at (i := 7) (v := .slice (some ⟨pb, q0 + pp * 32, none⟩) 0 0) rfl rfl (by kernel_rfl) (by kernel_rfl) (by kernel_rfl) (fun _ _ _ h => h) (Or.inl ⟨by rfl, fun U hU => by go_simp⟩) hS ?_
            try simp only [List.setIfInBounds_toArray, List.set_cons_zero, List.set_cons_succ]
            refine take_at (i := 8) (v := .slice B oq D) rfl rfl (by kernel_rfl) (by kernel_rfl) (by kernel_rfl) (fun _ _ _ h => h) (Or.inl ⟨by rfl, fun U hU => by go_simp⟩) hS ?_
            try simp only [List.setIfInBounds_toArray, List.set_cons_zero, List.set_cons_succ]
            refine take_at (i := 9) (v := .bool true) rfl rfl (by kernel_rfl) (by kernel_rfl) (by kernel_rfl) (fun _ _ _ h => h) (Or.inl ⟨by rfl, fun U hU => by go_simp⟩) hS ?_
            try simp only [List.setIfInBounds_toArray, List.set_cons_zero, List.set_cons_succ]
            refine wpAnyH_done (by kernel_rfl) ?_ _
            go_wp2_with fail
            refine bodyPost_ret (results_cell4_row rfl _ _ W.heap.size 23 (ints .u8 key) (0, 0) _ rfl GF.out Try.underlying23 rfl (by rw [ints_size, HKL.out]; exact sizeKey)) rfl ⟨?_, ?_⟩
            · exact BF.out
            · exact Or.inl ⟨by omega, by omega, _, _, _, _, rfl, ⟨HKL.out, HKR.out⟩, fun h => absurd h (by omega), Nat.le_refl _, by unfold maxLen; omega, fun h => HB.out h, by omega, hD2⟩
          · have kC : ¬ C = 1 := hC
            go_enter Try.func80, Try.ntmps80
            go_wp2_with fail
            refine (Hon.out _).mono ?_
            rintro x y1 ⟨rfl, rfl⟩
            go_wp2_with fail
            clear hW0
            refine wp_region_held_drew (S := fun U => Below W.heap.size W U) (by kernel_rfl) BW.out.drew (fun hS => ?_)
            have GD := Lib.hid (keep_block (w := W0) G0.out (Below.refl W0.heap.size W0).drew)
            have BD := Lib.hid (below_call BW.out BW.out.size (Below.refl W0.heap.size W0).drew)
            generalize W0.drew = WD at GD BD hS ⊢
            refine take_at (i := 0) (v := .slice (some ⟨pb, q0 + pp * 32, none⟩) pq C) rfl rfl (by kernel_rfl) (by kernel_rfl) (by kernel_rfl) (fun _ _ _ h => h) (Or.inl ⟨by rfl, fun U hU => by go_simp⟩) hS ?_
            try simp only [List.setIfInBounds_toArray, List.set_cons_zero, List.set_cons_succ]
            refine take_at (i := 1) (v := .pointer (some ⟨pb, q0 + pp * 32, none⟩)) rfl rfl (by kernel_rfl) (by kernel_rfl) (by kernel_rfl) (fun _ _ _ h => h) (Or.inl ⟨by rfl, fun U hU => by go_simp⟩) hS ?_
            try simp only [List.setIfInBounds_toArray, List.set_cons_zero, List.set_cons_succ]
            refine take_at (i := 2) (v := .agg (ints .u8 key)) rfl rfl (by kernel_rfl) (by kernel_rfl) (by kernel_rfl) (fun _ _ _ h => h) (yieldsIf_load_mid (by rfl) 23 _ rfl pb (q0 + pp * 32) rfl (key.map (Value.int .u8)) _ (fun U hU => rangeAt_below Hkey.out hU) Try.underlying23 rfl (by rw [List.length_map, HKL.out]; exact sizeKey)) hS ?_
            try simp only [List.setIfInBounds_toArray, List.set_cons_zero, List.set_cons_succ]
            refine take_at (i := 3) (v := .slice (some ⟨pb, q0 + pp * 32, none⟩) pq C) rfl rfl (by kernel_rfl) (by kernel_rfl) (by kernel_rfl) (fun _ _ _ h => h) (Or.inl ⟨by rfl, fun U hU => by go_simp⟩) hS ?_
            try simp only [List.setIfInBounds_toArray, List.set_cons_zero, List.set_cons_succ]
            refine take_at (i := 4) (v := .slice (some ⟨pb, q0 + pp * 32 + 32, none⟩) (pq - 1) (C - 1)) rfl rfl (by kernel_rfl) (by kernel_rfl) (by kernel_rfl) (fun _ _ _ h => h) (Or.inl ⟨by rfl, fun U hU => by go_simp⟩) hS ?_
            try simp only [List.setIfInBounds_toArray, List.set_cons_zero, List.set_cons_succ]
            refine take_at (i := 5) (v := .slice B oq D) rfl rfl (by kernel_rfl) (by kernel_rfl) (by kernel_rfl) (fun _ _ _ h => h) (Or.inl ⟨by rfl, fun U hU => by go_simp⟩) hS ?_
            try simp only [List.setIfInBounds_toArray, List.set_cons_zero, List.set_cons_succ]
            refine wpAnyH_ready (rs := [6]) (by kernel_rfl) (by simp) ?_
            refine AllReadyH.cons rfl (fun K hK => ?_) AllReadyH.nil
            rw [if_pos (by rfl)]
            refine wp_store_row (o := ⟨none, _, _, _, _, _⟩) 23 _ _ rfl _ (ints .u8 key) rfl rfl 23 (ints .u8 z32) GD.out (by rw [ints_size, HKL.out]; exact sizeKey) (by rw [ints_size, ints_size, HKL.out]; rfl) (ints_one _ _) ?_
            simp only [Act.put]
            have GF := Lib.hid (setRow_heap _ _ (ints .u8 z32) (ints .u8 key) _ _ GD.out)
            have BF := Lib.hid (Below.setRow BD.out (Nat.le_refl W.heap.size) (ints .u8 key))
            refine hK.out _ _ (Below.setRow hS (Nat.le_refl _) _) (fun hS => ?_)
            clear hK
            refine take_at (i := 7) (v := .slice (some ⟨pb, q0 + pp * 32 + 32, none⟩) (pq - 1) (C - 1)) rfl rfl (by kernel_rfl) (by kernel_rfl) (by kernel_rfl) (fun _ _ _ h => h) (Or.inl ⟨by rfl, fun U hU => by go_simp⟩) hS ?_
            try simp only [List.setIfInBounds_toArray, List.set_cons_zero, List.set_cons_succ]
            refine take_at (i := 8) (v := .slice B oq D) rfl rfl (by kernel_rfl) (by kernel_rfl) (by kernel_rfl) (fun _ _ _ h => h) (Or.inl ⟨by rfl, fun U hU => by go_simp⟩) hS ?_
            try simp only [List.setIfInBounds_toArray, List.set_cons_zero, List.set_cons_succ]
            refine take_at (i := 9) (v := .bool true) rfl rfl (by kernel_rfl) (by kernel_rfl) (by kernel_rfl) (fun _ _ _ h => h) (Or.inl ⟨by rfl, fun U hU => by go_simp⟩) hS ?_
            try simp only [List.setIfInBounds_toArray, List.set_cons_zero, List.set_cons_succ]
            refine wpAnyH_done (by kernel_rfl) ?_ _
            go_wp2_with fail
            refine bodyPost_ret (results_cell4_row rfl _ _ W.heap.size 23 (ints .u8 key) (0, 0) _ rfl GF.out Try.underlying23 rfl (by rw [ints_size, HKL.out]; exact sizeKey)) rfl ⟨?_, ?_⟩
            · exact BF.out
            · exact Or.inl ⟨by omega, by omega, _, _, _, _, rfl, ⟨HKL.out, HKR.out⟩, fun _ => by congr 2; omega, by omega, by omega, fun h => HB.out h, by omega, hD2⟩
      · have h3 := kdG_more hpk h1
        have hm1 := half_pos n
        have hm2 := half_lt (n := n) (by omega)
        have Hhalf := Lib.hid (fun U => half_spec n (by omega) (by omega) U)
        have eP : needP m n b = needP m (half n) b + needP m (n - half n) (b + half n) := by unfold needP; exact needW_two hpk h3
        have eO : needO m n b = needO m (half n) b + needO m (n - half n) (b + half n) := by unfold needO; exact needW_two hpk h3
        rw [eP, eO, kg2_two hpk h3]
        have HMN := Lib.hid (fun U => mm_left (m := m) (b := b) (n := n) (h := half n) hm2 U)
        have HMR := mm_right (m := m) (b := b) (n := n) (h := half n) hm2
        have e1 : ((n - half n : Nat) : Int) = (n : Int) - ((half n : Nat) : Int) := by omega
        have HLc := Lib.hid (fun U hU => ih (half n) hm2 b pp pq po oq C D A B U hm1 (by omega) hpq hoq HA.out hC1 hC2 HB.out hD1 hD2 hU)
        have HRc := Lib.hid (fun (pp2 pq2 po2 oq2 C2 D2 : Nat) A2 B2 U h3 h4 h5 h6 h7 h8 h9 h10 hU => ih (n - half n) (by omega) (b + half n) pp2 pq2 po2 oq2 C2 D2 A2 B2 U (by omega) (by omega) h3 h4 h5 h6 h7 h8 h9 h10 hU)
        rw [← HMR, e1] at HRc
        clear ih e1 eP eO HMR
        have hcond : (n : Int) ≤ mm m b n → ¬ ones n = 1 := fun hh ho => hpk (by
          unfold kdG
          rw [if_pos (Or.inl ⟨by unfold mm at hh; split at hh <;> omega, ho⟩)])
        have bm1 : mm m b n ≤ 256 := by unfold mm; split <;> omega
        have bm2 : (0 : Int) < mm m b n := by omega
        generalize hK1 : kg2 m K0 (keyAt fl) (half n) b pp po = K1 at HLc
        generalize hnP : needP m (half n) b = nP at HLc ⊢
        generalize hnO : needO m (half n) b = nO at HLc ⊢
        generalize hK2 : kg2 m K0 (keyAt fl) (n - half n) (b + half n) = K2f at HRc ⊢
        generalize needP m (n - half n) (b + half n) = rP at HRc ⊢
        generalize needO m (n - half n) (b + half n) = rO at HRc ⊢
        try rw [hK1]
        clear hnP hnO hK2 hK1
        generalize mm m b (half n) = ML at HLc HMN
        generalize mm m b n = M at k1 bm1 bm2 hcond HMN HRc ⊢
        generalize half n = hf at hm1 hm2 Hhalf HLc HRc HMN
        have c1 : (hf : Int) < (n : Int) := by omega
        have c2 : (0 : Int) < (hf : Int) := by omega
        by_cases hge : (n : Int) ≤ M
        · have d1 : (((ones n : Nat) : Int) == 1) = false := by have := hcond hge; rw [beq_eq_false_iff_ne]; omega
          generalize ones n = on at Hon d1
          clear hcond
          go_enter Try.func80, Try.ntmps80
          go_wp2_with fail
          refine (Hon.out _).mono ?_
          rintro x y1 ⟨rfl, rfl⟩
          go_wp2_with fail
          refine (Hhalf.out _).mono ?_
          rintro x y2 ⟨rfl, rfl⟩
          go_wp2_with fail
          refine (HMN.out _).mono ?_
          rintro x y3 ⟨rfl, rfl⟩
          go_wp2_with fail
          clear hW0
          refine (HLc.out _ (HW.out.trans (BW.out.mono HW.out.size))).mono ?_
          rintro x w1 ⟨hb1, hT⟩
          have B1 := Lib.hid (below_call BW.out BW.out.size hb1)
          have G1 := Lib.hid (keep_block G0.out hb1)
          have Z1 : Hid (W.heap.size < w1.heap.size) := Lib.hid (by have := hb1.size; have := HSZ.out; omega)
          clear hb1
          rcases hT with ⟨hle, hle2, A', C', B', D', rfl, hK1, hA', hC1', hC2', hB', hD1', hD2'⟩ | ⟨hlt, k, A', m', C', B', m2, D', hK1, rfl⟩
          · have HK1 := Lib.hid hK1
            have HLE := Lib.hid hle
            have HLE2 := Lib.hid hle2
            have L2 := Lib.hid (laid_below w1 (ints .u8 z32) (ints .u8 K1) 23)
            have N2 := Lib.hid (laid_new w1 (ints .u8 z32) (ints .u8 K1) 23)
            have G2 := Lib.hid (laid_old (ints .u8 z32) (ints .u8 K1) 23 G1.out)
            have B2 := Lib.hid (below_call B1.out B1.out.size L2.out)
            have HR2 := Lib.hid (HRc.out (pp + nP) (pq - nP) (po + nO) (oq - nO) C' D' A' B' _ (by omega) (by omega) hA' hC1' hC2' hB' hD1' hD2' (HW.out.trans (B2.out.mono HW.out.size)))
            clear hK1 hle hle2 hA' hC1' hC2' hB' hD1' hD2'
            go_wp2_with (refine wpList_store_row rfl 23 (.tmp 13) _ rfl w1.heap.size (ints .u8 K1) rfl rfl 23 (ints .u8 z32) (by rw [Hz.out]; exact heap_alloc_last _ _) (by rw [ints_size, HK1.out.1]; exact sizeKey) (by rw [ints_size, ints_size, HK1.out.1]; rfl) (ints_one _ _) ?_)
            rw [← Hz.out]
            generalize (w1.alloc (.cells (ints .u8 z32) 23)).setRow w1.heap.size (ints .u8 K1) = W2 at L2 N2 G2 B2 HR2 ⊢
            refine HR2.out.mono ?_
            rintro x w3 ⟨hb3, hT⟩
            have B3 := Lib.hid (below_call B2.out B2.out.size hb3)
            have G3 := Lib.hid (keep_block G2.out hb3)
            have N3 := Lib.hid (keep_block N2.out hb3)
            have Z3 : Hid (w1.heap.size < w3.heap.size) := Lib.hid (by have := hb3.size; have := (Array.getElem?_eq_some_iff.1 N2.out).1; omega)
            clear hb3 HR2
            rcases hT with ⟨hle, hle2, A2, C2, B2', D2, rfl, hK2, hA2, hE1, hE2, hBB, hF1, hF2⟩ | ⟨hlt, k2, A2, m2, C2, B2', m3, D2, hK2, rfl⟩
            · have HK2 := Lib.hid hK2
              have Hnode := Lib.hid (fun U => l03node_spec _ _ HK1.out.1 HK1.out.2 HK2.out.1 HK2.out.2 U)
              have Hvl := Lib.hid (nodeK_len K1 (K2f (pp + nP) (po + nO)))
              have Hvr := Lib.hid (nodeK_range K1 (K2f (pp + nP) (po + nO)))
              generalize hkk : (K2f (pp + nP) (po + nO)) = k2v at HK2 Hnode Hvl Hvr
              generalize hvv : nodeK K1 k2v = V at Hnode Hvl Hvr
              have HKK := Lib.hid hkk
              have HVV := Lib.hid hvv
              clear hkk hvv
              have N4 := Lib.hid (laid_new w3 (ints .u8 z32) (ints .u8 k2v) 23)
              have M4 := Lib.hid (laid_old (ints .u8 z32) (ints .u8 k2v) 23 N3.out)
              have G4 := Lib.hid (laid_old (ints .u8 z32) (ints .u8 k2v) 23 G3.out)
              have B4 := Lib.hid (below_call B3.out B3.out.size (laid_below w3 (ints .u8 z32) (ints .u8 k2v) 23))
              go_wp2_with (first | (refine wpList_store_row rfl 23 (.tmp 17) _ rfl w3.heap.size (ints .u8 k2v) rfl rfl 23 (ints .u8 z32) (by rw [Hz.out]; exact heap_alloc_last _ _) (by rw [ints_size, HK2.out.1]; exact sizeKey) (by rw [ints_size, ints_size, HK2.out.1]; rfl) (ints_one _ _) ?_) | (refine wpList_load_row rfl 23 (.tmp 13) rfl w1.heap.size rfl 23 (ints .u8 K1) (0, 0) _ (by rw [← Hz.out]; exact M4.out) Try.underlying23 rfl (by rw [ints_size, HK1.out.1]; exact sizeKey) ?_) | (refine wpList_load_row rfl 23 (.tmp 17) rfl w3.heap.size rfl 23 (ints .u8 k2v) (0, 0) _ (by rw [← Hz.out]; exact N4.out) Try.underlying23 rfl (by rw [ints_size, HK2.out.1]; exact sizeKey) ?_))
              rw [← Hz.out]
              generalize (w3.alloc (.cells (ints .u8 z32) 23)).setRow w3.heap.size (ints .u8 k2v) = W4 at N4 M4 G4 B4 ⊢
              refine (Hnode.out _).mono ?_
              rintro x w5 ⟨rfl, hb5⟩
              have B5 := Lib.hid (below_call B4.out B4.out.size hb5)
              have G5 := Lib.hid (keep_block G4.out hb5)
              clear hb5
              go_wp2_with (refine wpList_store_row rfl 23 (.tmp 8) _ rfl W.heap.size (ints .u8 V) rfl rfl 23 (ints .u8 z32) G5.out (by rw [ints_size, Hvl.out]; exact sizeKey) (by rw [ints_size, ints_size, Hvl.out]; rfl) (ints_one _ _) ?_)
              have GF := Lib.hid (setRow_heap _ _ (ints .u8 z32) (ints .u8 V) _ _ G5.out)
              refine bodyPost_ret (results_cell4_row rfl _ _ W.heap.size 23 (ints .u8 V) (0, 0) _ rfl GF.out Try.underlying23 rfl (by rw [ints_size, Hvl.out]; exact sizeKey)) rfl ⟨?_, ?_⟩
              · exact Below.setRow B5.out (Nat.le_refl _) _
              · rw [HKK.out, HVV.out]; exact Or.inl ⟨by have := HLE.out; omega, by have := HLE2.out; omega, A2, C2, B2', D2, by rw [show pq - (nP + rP) = pq - nP - rP by omega, show oq - (nO + rO) = oq - nO - rO by omega]; rfl, ⟨Hvl.out, Hvr.out⟩, fun h => by rw [hA2 (by omega), show pp + (nP + rP) = pp + nP + rP by omega], by omega, hE2, fun h => by rw [hBB (by omega), show po + (nO + rO) = po + nO + rO by omega], by omega, hF2⟩
            · have HK2 := Lib.hid hK2
              have Hnode := Lib.hid (fun U => l03node_spec _ _ HK1.out.1 HK1.out.2 HK2.out.1 HK2.out.2 U)
              have Hvl := Lib.hid (nodeK_len K1 k2)
              have Hvr := Lib.hid (nodeK_range K1 k2)
              generalize hvv : nodeK K1 k2 = V at Hnode Hvl Hvr
              have HVV := Lib.hid hvv
              clear hvv
              have N4 := Lib.hid (laid_new w3 (ints .u8 z32) (ints .u8 k2) 23)
              have M4 := Lib.hid (laid_old (ints .u8 z32) (ints .u8 k2) 23 N3.out)
              have G4 := Lib.hid (laid_old (ints .u8 z32) (ints .u8 k2) 23 G3.out)
              have B4 := Lib.hid (below_call B3.out B3.out.size (laid_below w3 (ints .u8 z32) (ints .u8 k2) 23))
              go_wp2_with (first | (refine wpList_store_row rfl 23 (.tmp 17) _ rfl w3.heap.size (ints .u8 k2) rfl rfl 23 (ints .u8 z32) (by rw [Hz.out]; exact heap_alloc_last _ _) (by rw [ints_size, HK2.out.1]; exact sizeKey) (by rw [ints_size, ints_size, HK2.out.1]; rfl) (ints_one _ _) ?_) | (refine wpList_load_row rfl 23 (.tmp 13) rfl w1.heap.size rfl 23 (ints .u8 K1) (0, 0) _ (by rw [← Hz.out]; exact M4.out) Try.underlying23 rfl (by rw [ints_size, HK1.out.1]; exact sizeKey) ?_) | (refine wpList_load_row rfl 23 (.tmp 17) rfl w3.heap.size rfl 23 (ints .u8 k2) (0, 0) _ (by rw [← Hz.out]; exact N4.out) Try.underlying23 rfl (by rw [ints_size, HK2.out.1]; exact sizeKey) ?_))
              rw [← Hz.out]
              generalize (w3.alloc (.cells (ints .u8 z32) 23)).setRow w3.heap.size (ints .u8 k2) = W4 at N4 M4 G4 B4 ⊢
              refine (Hnode.out _).mono ?_
              rintro x w5 ⟨rfl, hb5⟩
              have B5 := Lib.hid (below_call B4.out B4.out.size hb5)
              have G5 := Lib.hid (keep_block G4.out hb5)
              clear hb5
              go_wp2_with (refine wpList_store_row rfl 23 (.tmp 8) _ rfl W.heap.size (ints .u8 V) rfl rfl 23 (ints .u8 z32) G5.out (by rw [ints_size, Hvl.out]; exact sizeKey) (by rw [ints_size, ints_size, Hvl.out]; rfl) (ints_one _ _) ?_)
              have GF := Lib.hid (setRow_heap _ _ (ints .u8 z32) (ints .u8 V) _ _ G5.out)
              refine bodyPost_ret (results_cell4_row rfl _ _ W.heap.size 23 (ints .u8 V) (0, 0) _ rfl GF.out Try.underlying23 rfl (by rw [ints_size, Hvl.out]; exact sizeKey)) rfl ⟨?_, ?_⟩
              · exact Below.setRow B5.out (Nat.le_refl _) _
              · exact Or.inr ⟨by have := HLE.out; have := HLE2.out; omega, _, A2, m2, C2, B2', m3, D2, ⟨Hvl.out, Hvr.out⟩, rfl⟩
          · have HK1 := Lib.hid hK1
            have HLT := Lib.hid hlt
            have L2 := Lib.hid (laid_below w1 (ints .u8 z32) (ints .u8 k) 23)
            have G2 := Lib.hid (laid_old (ints .u8 z32) (ints .u8 k) 23 G1.out)
            have B2 := Lib.hid (below_call B1.out B1.out.size L2.out)
            go_wp2_with (first | (refine wpList_store_row rfl 23 (.tmp 13) _ rfl w1.heap.size (ints .u8 k) rfl rfl 23 (ints .u8 z32) (by rw [Hz.out]; exact heap_alloc_last _ _) (by rw [ints_size, HK1.out.1]; exact sizeKey) (by rw [ints_size, ints_size, HK1.out.1]; rfl) (ints_one _ _) ?_) | (refine wpList_store_row rfl 23 (.tmp 8) _ rfl W.heap.size (ints .u8 z32) rfl rfl 23 (ints .u8 z32) (by rw [← Hz.out]; exact G2.out) (by kernel_rfl) rfl (ints_one _ _) ?_))
            have GF := Lib.hid (setRow_heap _ _ (ints .u8 z32) (ints .u8 z32) _ _ G2.out)
            refine bodyPost_ret (results_cell4_row rfl _ _ W.heap.size 23 (ints .u8 z32) (0, 0) _ rfl (by rw [← Hz.out]; exact GF.out) Try.underlying23 rfl (by kernel_rfl)) rfl ⟨?_, ?_⟩
            · rw [← Hz.out]; exact Below.setRow B2.out (Nat.le_refl _) _
            · exact Or.inr ⟨by have := HLT.out; omega, z32, A, _, C, B, _, D, ⟨rfl, z32_byte⟩, rfl⟩
        · clear hcond
          go_enter Try.func80, Try.ntmps80
          go_wp2_with fail
          refine (Hhalf.out _).mono ?_
          rintro x y2 ⟨rfl, rfl⟩
          go_wp2_with fail
          refine (HMN.out _).mono ?_
          rintro x y3 ⟨rfl, rfl⟩
          go_wp2_with fail
          clear hW0
          refine (HLc.out _ (HW.out.trans (BW.out.mono HW.out.size))).mono ?_
          rintro x w1 ⟨hb1, hT⟩
          have B1 := Lib.hid (below_call BW.out BW.out.size hb1)
          have G1 := Lib.hid (keep_block G0.out hb1)
          have Z1 : Hid (W.heap.size < w1.heap.size) := Lib.hid (by have := hb1.size; have := HSZ.out; omega)
          clear hb1
          rcases hT with ⟨hle, hle2, A', C', B', D', rfl, hK1, hA', hC1', hC2', hB', hD1', hD2'⟩ | ⟨hlt, k, A', m', C', B', m2, D', hK1, rfl⟩
          · have HK1 := Lib.hid hK1
            have HLE := Lib.hid hle
            have HLE2 := Lib.hid hle2
            have L2 := Lib.hid (laid_below w1 (ints .u8 z32) (ints .u8 K1) 23)
            have N2 := Lib.hid (laid_new w1 (ints .u8 z32) (ints .u8 K1) 23)
            have G2 := Lib.hid (laid_old (ints .u8 z32) (ints .u8 K1) 23 G1.out)
            have B2 := Lib.hid (below_call B1.out B1.out.size L2.out)
            have HR2 := Lib.hid (HRc.out (pp + nP) (pq - nP) (po + nO) (oq - nO) C' D' A' B' _ (by omega) (by omega) hA' hC1' hC2' hB' hD1' hD2' (HW.out.trans (B2.out.mono HW.out.size)))
            clear hK1 hle hle2 hA' hC1' hC2' hB' hD1' hD2'
            go_wp2_with (refine wpList_store_row rfl 23 (.tmp 13) _ rfl w1.heap.size (ints .u8 K1) rfl rfl 23 (ints .u8 z32) (by rw [Hz.out]; exact heap_alloc_last _ _) (by rw [ints_size, HK1.out.1]; exact sizeKey) (by rw [ints_size, ints_size, HK1.out.1]; rfl) (ints_one _ _) ?_)
            rw [← Hz.out]
            generalize (w1.alloc (.cells (ints .u8 z32) 23)).setRow w1.heap.size (ints .u8 K1) = W2 at L2 N2 G2 B2 HR2 ⊢
            refine HR2.out.mono ?_
            rintro x w3 ⟨hb3, hT⟩
            have B3 := Lib.hid (below_call B2.out B2.out.size hb3)
            have G3 := Lib.hid (keep_block G2.out hb3)
            have N3 := Lib.hid (keep_block N2.out hb3)
            have Z3 : Hid (w1.heap.size < w3.heap.size) := Lib.hid (by have := hb3.size; have := (Array.getElem?_eq_some_iff.1 N2.out).1; omega)
            clear hb3 HR2
            rcases hT with ⟨hle, hle2, A2, C2, B2', D2, rfl, hK2, hA2, hE1, hE2, hBB, hF1, hF2⟩ | ⟨hlt, k2, A2, m2, C2, B2', m3, D2, hK2, rfl⟩
            · have HK2 := Lib.hid hK2
              have Hnode := Lib.hid (fun U => l03node_spec _ _ HK1.out.1 HK1.out.2 HK2.out.1 HK2.out.2 U)
              have Hvl := Lib.hid (nodeK_len K1 (K2f (pp + nP) (po + nO)))
              have Hvr := Lib.hid (nodeK_range K1 (K2f (pp + nP) (po + nO)))
              generalize hkk : (K2f (pp + nP) (po + nO)) = k2v at HK2 Hnode Hvl Hvr
              generalize hvv : nodeK K1 k2v = V at Hnode Hvl Hvr
              have HKK := Lib.hid hkk
              have HVV := Lib.hid hvv
              clear hkk hvv
              have N4 := Lib.hid (laid_new w3 (ints .u8 z32) (ints .u8 k2v) 23)
              have M4 := Lib.hid (laid_old (ints .u8 z32) (ints .u8 k2v) 23 N3.out)
              have G4 := Lib.hid (laid_old (ints .u8 z32) (ints .u8 k2v) 23 G3.out)
              have B4 := Lib.hid (below_call B3.out B3.out.size (laid_below w3 (ints .u8 z32) (ints .u8 k2v) 23))
              go_wp2_with (first | (refine wpList_store_row rfl 23 (.tmp 17) _ rfl w3.heap.size (ints .u8 k2v) rfl rfl 23 (ints .u8 z32) (by rw [Hz.out]; exact heap_alloc_last _ _) (by rw [ints_size, HK2.out.1]; exact sizeKey) (by rw [ints_size, ints_size, HK2.out.1]; rfl) (ints_one _ _) ?_) | (refine wpList_load_row rfl 23 (.tmp 13) rfl w1.heap.size rfl 23 (ints .u8 K1) (0, 0) _ (by rw [← Hz.out]; exact M4.out) Try.underlying23 rfl (by rw [ints_size, HK1.out.1]; exact sizeKey) ?_) | (refine wpList_load_row rfl 23 (.tmp 17) rfl w3.heap.size rfl 23 (ints .u8 k2v) (0, 0) _ (by rw [← Hz.out]; exact N4.out) Try.underlying23 rfl (by rw [ints_size, HK2.out.1]; exact sizeKey) ?_))
              rw [← Hz.out]
              generalize (w3.alloc (.cells (ints .u8 z32) 23)).setRow w3.heap.size (ints .u8 k2v) = W4 at N4 M4 G4 B4 ⊢
              refine (Hnode.out _).mono ?_
              rintro x w5 ⟨rfl, hb5⟩
              have B5 := Lib.hid (below_call B4.out B4.out.size hb5)
              have G5 := Lib.hid (keep_block G4.out hb5)
              clear hb5
              go_wp2_with (refine wpList_store_row rfl 23 (.tmp 8) _ rfl W.heap.size (ints .u8 V) rfl rfl 23 (ints .u8 z32) G5.out (by rw [ints_size, Hvl.out]; exact sizeKey) (by rw [ints_size, ints_size, Hvl.out]; rfl) (ints_one _ _) ?_)
              have GF := Lib.hid (setRow_heap _ _ (ints .u8 z32) (ints .u8 V) _ _ G5.out)
              refine bodyPost_ret (results_cell4_row rfl _ _ W.heap.size 23 (ints .u8 V) (0, 0) _ rfl GF.out Try.underlying23 rfl (by rw [ints_size, Hvl.out]; exact sizeKey)) rfl ⟨?_, ?_⟩
              · exact Below.setRow B5.out (Nat.le_refl _) _
              · rw [HKK.out, HVV.out]; exact Or.inl ⟨by have := HLE.out; omega, by have := HLE2.out; omega, A2, C2, B2', D2, by rw [show pq - (nP + rP) = pq - nP - rP by omega, show oq - (nO + rO) = oq - nO - rO by omega]; rfl, ⟨Hvl.out, Hvr.out⟩, fun h => by rw [hA2 (by omega), show pp + (nP + rP) = pp + nP + rP by omega], by omega, hE2, fun h => by rw [hBB (by omega), show po + (nO + rO) = po + nO + rO by omega], by omega, hF2⟩
            · have HK2 := Lib.hid hK2
              have Hnode := Lib.hid (fun U => l03node_spec _ _ HK1.out.1 HK1.out.2 HK2.out.1 HK2.out.2 U)
              have Hvl := Lib.hid (nodeK_len K1 k2)
              have Hvr := Lib.hid (nodeK_range K1 k2)
              generalize hvv : nodeK K1 k2 = V at Hnode Hvl Hvr
              have HVV := Lib.hid hvv
              clear hvv
              have N4 := Lib.hid (laid_new w3 (ints .u8 z32) (ints .u8 k2) 23)
              have M4 := Lib.hid (laid_old (ints .u8 z32) (ints .u8 k2) 23 N3.out)
              have G4 := Lib.hid (laid_old (ints .u8 z32) (ints .u8 k2) 23 G3.out)
              have B4 := Lib.hid (below_call B3.out B3.out.size (laid_below w3 (ints .u8 z32) (ints .u8 k2) 23))
              go_wp2_with (first | (refine wpList_store_row rfl 23 (.tmp 17) _ rfl w3.heap.size (ints .u8 k2) rfl rfl 23 (ints .u8 z32) (by rw [Hz.out]; exact heap_alloc_last _ _) (by rw [ints_size, HK2.out.1]; exact sizeKey) (by rw [ints_size, ints_size, HK2.out.1]; rfl) (ints_one _ _) ?_) | (refine wpList_load_row rfl 23 (.tmp 13) rfl w1.heap.size rfl 23 (ints .u8 K1) (0, 0) _ (by rw [← Hz.out]; exact M4.out) Try.underlying23 rfl (by rw [ints_size, HK1.out.1]; exact sizeKey) ?_) | (refine wpList_load_row rfl 23 (.tmp 17) rfl w3.heap.size rfl 23 (ints .u8 k2) (0, 0) _ (by rw [← Hz.out]; exact N4.out) Try.underlying23 rfl (by rw [ints_size, HK2.out.1]; exact sizeKey) ?_))
              rw [← Hz.out]
              generalize (w3.alloc (.cells (ints .u8 z32) 23)).setRow w3.heap.size (ints .u8 k2) = W4 at N4 M4 G4 B4 ⊢
              refine (Hnode.out _).mono ?_
              rintro x w5 ⟨rfl, hb5⟩
              have B5 := Lib.hid (below_call B4.out B4.out.size hb5)
              have G5 := Lib.hid (keep_block G4.out hb5)
              clear hb5
              go_wp2_with (refine wpList_store_row rfl 23 (.tmp 8) _ rfl W.heap.size (ints .u8 V) rfl rfl 23 (ints .u8 z32) G5.out (by rw [ints_size, Hvl.out]; exact sizeKey) (by rw [ints_size, ints_size, Hvl.out]; rfl) (ints_one _ _) ?_)
              have GF := Lib.hid (setRow_heap _ _ (ints .u8 z32) (ints .u8 V) _ _ G5.out)
              refine bodyPost_ret (results_cell4_row rfl _ _ W.heap.size 23 (ints .u8 V) (0, 0) _ rfl GF.out Try.underlying23 rfl (by rw [ints_size, Hvl.out]; exact sizeKey)) rfl ⟨?_, ?_⟩
              · exact Below.setRow B5.out (Nat.le_refl _) _
              · exact Or.inr ⟨by have := HLE.out; have := HLE2.out; omega, _, A2, m2, C2, B2', m3, D2, ⟨Hvl.out, Hvr.out⟩, rfl⟩
          · have HK1 := Lib.hid hK1
            have HLT := Lib.hid hlt
            have L2 := Lib.hid (laid_below w1 (ints .u8 z32) (ints .u8 k) 23)
            have G2 := Lib.hid (laid_old (ints .u8 z32) (ints .u8 k) 23 G1.out)
            have B2 := Lib.hid (below_call B1.out B1.out.size L2.out)
            go_wp2_with (first | (refine wpList_store_row rfl 23 (.tmp 13) _ rfl w1.heap.size (ints .u8 k) rfl rfl 23 (ints .u8 z32) (by rw [Hz.out]; exact heap_alloc_last _ _) (by rw [ints_size, HK1.out.1]; exact sizeKey) (by rw [ints_size, ints_size, HK1.out.1]; rfl) (ints_one _ _) ?_) | (refine wpList_store_row rfl 23 (.tmp 8) _ rfl W.heap.size (ints .u8 z32) rfl rfl 23 (ints .u8 z32) (by rw [← Hz.out]; exact G2.out) (by kernel_rfl) rfl (ints_one _ _) ?_))
            have GF := Lib.hid (setRow_heap _ _ (ints .u8 z32) (ints .u8 z32) _ _ G2.out)
            refine bodyPost_ret (results_cell4_row rfl _ _ W.heap.size 23 (ints .u8 z32) (0, 0) _ rfl (by rw [← Hz.out]; exact GF.out) Try.underlying23 rfl (by kernel_rfl)) rfl ⟨?_, ?_⟩
            · rw [← Hz.out]; exact Below.setRow B2.out (Nat.le_refl _) _
            · exact Or.inr ⟨by have := HLT.out; omega, z32, A, _, C, B, _, D, ⟨rfl, z32_byte⟩, rfl⟩
end Go.Proofs.Ytgpabgemkighhaa
