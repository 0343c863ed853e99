/- The proof of a range of leaves, by the specification. Written by wip/gen/ranges.py. -/
import Derived.Test.YtfnmmpnmbommeaaRangeM
namespace Go.Proofs.Ytfnmmpnmbommeaa
open Go.ChangeShapes Go.WideShapes Go.ChangeAt Go.RowKit
set_option linter.unusedVariables false
set_option linter.unusedSimpArgs false
theorem owns_key {w : World} (K : List Int) (h : K.length = 32) : (w.alloc (.cells (ints .u8 K) 29)).ownsRow w.heap.size 29 32 (.slice (some ⟨w.heap.size, 0, none⟩) 1 1) 1 (K.map (Value.int .u8)) := by
  have := owns_one (w := w) (t := 29) (size := 32) (ints .u8 K) (by rw [ints_size, h])
  simpa [ints] using this
set_option maxRecDepth 100000 in
set_option maxHeartbeats 8000000 in
theorem range_spec : ∀ (n : Nat) (b off cap : Nat) (i j : Int) (fl : List Int) (w : World), 1 ≤ n → n ≤ 1048576 → n ≤ cap → cap ≤ maxLen → (n : Int) - 2097152 ≤ i → i ≤ 2097152 → (n : Int) - 2097152 ≤ j → j ≤ 2097152 → (∀ z ∈ fl, 0 ≤ z ∧ z ≤ 255) → RdK w (some ⟨b, off, none⟩) n fl →
    Calls Try.prog 86 #[.slice (some ⟨b, off, none⟩) n cap, .int .i64 i, .int .i64 j] w fun e w' => ∃ v, e = .returned v ∧ w'.ownsRow w.heap.size 29 32 v (rgN n i j) ((rg (keyAt fl) 0 n i j).map (Value.int .u8)) ∧ Below w.heap.size w w' := by
  intro n
  induction n using Nat.strongRecOn with
  | _ n ih =>
    intro b off cap i j fl w h1 hn hc hm hi1 hi2 hj1 hj2 fb hr
    obtain ⟨i0, z0, hi0, hz0, hz1, hz2, hzs, hzc⟩ := keyParts
    have Hi := Lib.hid hi0
    clear hi0 hzc
    have cn : (1 : Int) ≤ (n : Int) := by omega
    have cn2 : (n : Int) ≤ 1048576 := by omega
    by_cases h : j ≤ 0 ∨ (n : Int) ≤ i
    · rw [rgN_miss h, rg_miss h]
      have Hk := Lib.hid (key_spec n b off cap fl w h1 hn hc hm fb hr)
      have HKL := Lib.hid (tkey_len (kf := keyAt fl) (b := 0) (n := n) h1 (fun k hk => keyAt_len hr.1 (by omega)))
      clear ih hr fb
      generalize tkey (keyAt fl) 0 n = K at Hk HKL ⊢
      by_cases h3 : j ≤ 0
      · go_enter Try.func86, Try.ntmps86
        go_wp2_with fail
        refine Hk.out.mono ?_
        rintro e w1 ⟨rfl, hb⟩
        have B1 := Lib.hid hb
        clear hb
        go_wp2_with (refine wpList_buildSlice_one rfl 24 29 _ rfl Try.underlying24 Hi.out hz0 (ints .u8 K) rfl (by rw [ints_size, HKL.out, hz1]) (by rw [hz1]; decide) (by rw [hz1]; decide) ?_)
        go_ret
        exact ⟨_, rfl, owns_base B1.out.size (owns_key K HKL.out), B1.out.alloc B1.out.size _⟩
      · have h4 : (n : Int) ≤ i := by omega
        go_enter Try.func86, Try.ntmps86
        go_wp2_with fail
        refine Hk.out.mono ?_
        rintro e w1 ⟨rfl, hb⟩
        have B1 := Lib.hid hb
        clear hb
        go_wp2_with (refine wpList_buildSlice_one rfl 24 29 _ rfl Try.underlying24 Hi.out hz0 (ints .u8 K) rfl (by rw [ints_size, HKL.out, hz1]) (by rw [hz1]; decide) (by rw [hz1]; decide) ?_)
        go_ret
        exact ⟨_, rfl, owns_base B1.out.size (owns_key K HKL.out), B1.out.alloc B1.out.size _⟩
    · by_cases h2 : n ≤ 1 ∨ (i ≤ 0 ∧ (n : Int) ≤ j)
      · rw [rgN_in h h2, rg_in h h2]
        have O1 := Lib.hid (owns_empty w 29 32)
        have B1 := Lib.hid ((Below.refl w.heap.size w).alloc (Nat.le_refl _) (.cells #[] 29))
        have h3 : ¬ j ≤ 0 := by omega
        have h4 : ¬ (n : Int) ≤ i := by omega
        clear ih hr fb
        by_cases h5 : n = 1
        · subst h5
          go_enter Try.func86, Try.ntmps86
          go_wp2_with fail
          go_ret
          exact ⟨_, rfl, O1.out, B1.out⟩
        · have h6 : i ≤ 0 := by omega
          have h7 : (n : Int) ≤ j := by omega
          have h8 : ¬ (n : Int) = 1 := by omega
          go_enter Try.func86, Try.ntmps86
          go_wp2_with fail
          go_ret
          exact ⟨_, rfl, O1.out, B1.out⟩
      · have h3 : ¬ j ≤ 0 := by omega
        have h4 : ¬ (n : Int) ≤ i := by omega
        have h5 : ¬ (n : Int) = 1 := by omega
        have j0 : 0 < j := by omega
        have i0' : i < (n : Int) := by omega
        rw [rgN_two h h2, rg_two h h2]
        have hm1 := half_pos n
        have hm2 := half_lt (n := n) (by omega)
        have Hhalf := Lib.hid (fun W => half_spec n (by omega) hn W)
        have HA := Lib.hid (fun W (hB : Below w.heap.size w W) => by
          have := ih (half n) hm2 b off cap i j (fl.take (32 * half n)) W (by omega) (by omega) (by omega) hm (by omega) (by omega) (by omega) (by omega) (fun z hz => fb z (List.mem_of_mem_take hz)) ((hr.below hB).take (by omega))
          rwa [rg_congr (kf := keyAt (fl.take (32 * half n))) (kg := keyAt fl) (half n) 0 0 i j (by omega) (fun k hk => by rw [Nat.zero_add]; exact keyAt_take hk)] at this)
        have HB := Lib.hid (fun W (hB : Below w.heap.size w W) => by
          have := ih (n - half n) (by omega) b (off + half n * 32) (cap - half n) (i - (half n : Nat)) (j - (half n : Nat)) (fl.drop (32 * half n)) W (by omega) (by omega) (by omega) (by omega) (by omega) (by omega) (by omega) (by omega) (fun z hz => fb z (List.mem_of_mem_drop hz)) ((hr.below hB).drop (by omega))
          rwa [rg_congr (kf := keyAt (fl.drop (32 * half n))) (kg := keyAt fl) (n - half n) 0 (0 + half n) _ _ (by omega) (fun k hk => by rw [keyAt_drop, Nat.zero_add, Nat.zero_add])] at this)
        have HD := Lib.hid (show rgN (half n) i j + rgN (n - half n) (i - (half n : Nat)) (j - (half n : Nat)) ≤ 1048576 by
          have := rgN_le (half n) i j (by omega)
          have := rgN_le (n - half n) (i - (half n : Nat)) (j - (half n : Nat)) (by omega)
          omega)
        clear ih hr fb
        generalize rgN (half n) i j = d1 at HA HD ⊢
        generalize rgN (n - half n) (i - (half n : Nat)) (j - (half n : Nat)) = d2 at HB HD ⊢
        generalize rg (keyAt fl) 0 (half n) i j = A at HA ⊢
        generalize rg (keyAt fl) (0 + half n) (n - half n) (i - (half n : Nat)) (j - (half n : Nat)) = B at HB ⊢
        generalize half n = m at hm1 hm2 Hhalf HA HB
        have k2 : (m : Int) < (n : Int) := by omega
        have k3 : (m : Int) < (cap : Int) := by omega
        have k4 : m < n := by omega
        have k5 : (n : Int) ≤ (cap : Int) := by omega
        have k6 : m < cap := by omega
        have k7 : ¬ cap = m := by omega
        have k8 : ¬ n < m := by omega
        have k10 : ¬ cap < m := by omega
        have k9 : (0 : Int) ≤ (m : Int) := by omega
        have k12 : (m : Int) ≤ 1048576 := by omega
        unfold maxLen at hm
        by_cases h6 : i ≤ 0
        · have h7 : ¬ (n : Int) ≤ j := by omega
          go_enter Try.func86, Try.ntmps86
          go_wp2_with fail
          refine (Hhalf.out _).mono ?_
          rintro e w1 ⟨rfl, rfl⟩
          go_wp2_with fail
          refine wp_region_held_drew (S := fun _ => True) (by kernel_rfl) trivial (fun hS => ?_)
          have C0 := Lib.hid ((Below.refl w.heap.size w).drew)
          refine take_at (i := 0) (v := .slice (some ⟨b, off, none⟩) n cap) rfl rfl (by kernel_rfl) (by kernel_rfl) (by kernel_rfl) (fun _ _ _ h => h) (Or.inl ⟨by rfl, fun W hW => by go_simp⟩) hS ?_
          try simp only [List.setIfInBounds_toArray, List.set_cons_zero, List.set_cons_succ]
          refine take_at (i := 1) (v := .int .i64 (m : Int)) rfl rfl (by kernel_rfl) (by kernel_rfl) (by kernel_rfl) (fun _ _ _ h => h) (Or.inl ⟨by rfl, fun W hW => by go_simp⟩) hS ?_
          try simp only [List.setIfInBounds_toArray, List.set_cons_zero, List.set_cons_succ]
          refine take_at (i := 2) (v := .slice (some ⟨b, off, none⟩) m cap) rfl rfl (by kernel_rfl) (by kernel_rfl) (by kernel_rfl) (fun _ _ _ h => h) (Or.inl ⟨by rfl, fun W hW => by go_simp⟩) hS ?_
          try simp only [List.setIfInBounds_toArray, List.set_cons_zero, List.set_cons_succ]
          refine take_at (i := 3) (v := .int .i64 i) rfl rfl (by kernel_rfl) (by kernel_rfl) (by kernel_rfl) (fun _ _ _ h => h) (Or.inl ⟨by rfl, fun W hW => by go_simp⟩) hS ?_
          try simp only [List.setIfInBounds_toArray, List.set_cons_zero, List.set_cons_succ]
          refine take_at (i := 4) (v := .int .i64 j) rfl rfl (by kernel_rfl) (by kernel_rfl) (by kernel_rfl) (fun _ _ _ h => h) (Or.inl ⟨by rfl, fun W hW => by go_simp⟩) hS ?_
          try simp only [List.setIfInBounds_toArray, List.set_cons_zero, List.set_cons_succ]
          refine take_at (i := 6) (v := .slice (some ⟨b, off, none⟩) n cap) rfl rfl (by kernel_rfl) (by kernel_rfl) (by kernel_rfl) (fun _ _ _ h => h) (Or.inl ⟨by rfl, fun W hW => by go_simp⟩) hS ?_
          try simp only [List.setIfInBounds_toArray, List.set_cons_zero, List.set_cons_succ]
          refine take_at (i := 7) (v := .int .i64 (m : Int)) rfl rfl (by kernel_rfl) (by kernel_rfl) (by kernel_rfl) (fun _ _ _ h => h) (Or.inl ⟨by rfl, fun W hW => by go_simp⟩) hS ?_
          try simp only [List.setIfInBounds_toArray, List.set_cons_zero, List.set_cons_succ]
          refine take_at (i := 8) (v := .slice (some ⟨b, off + m * 32, none⟩) (n - m) (cap - m)) rfl rfl (by kernel_rfl) (by kernel_rfl) (by kernel_rfl) (fun _ _ _ h => h) (Or.inl ⟨by rfl, fun W hW => by go_simp⟩) hS ?_
          try simp only [List.setIfInBounds_toArray, List.set_cons_zero, List.set_cons_succ]
          refine take_at (i := 9) (v := .int .i64 i) rfl rfl (by kernel_rfl) (by kernel_rfl) (by kernel_rfl) (fun _ _ _ h => h) (Or.inl ⟨by rfl, fun W hW => by go_simp⟩) hS ?_
          try simp only [List.setIfInBounds_toArray, List.set_cons_zero, List.set_cons_succ]
          refine take_at (i := 10) (v := .int .i64 (m : Int)) rfl rfl (by kernel_rfl) (by kernel_rfl) (by kernel_rfl) (fun _ _ _ h => h) (Or.inl ⟨by rfl, fun W hW => by go_simp⟩) hS ?_
          try simp only [List.setIfInBounds_toArray, List.set_cons_zero, List.set_cons_succ]
          refine take_at (i := 11) (v := .int .i64 (i - (m : Int))) rfl rfl (by kernel_rfl) (by kernel_rfl) (by kernel_rfl) (fun _ _ _ h => h) (Or.inl ⟨by rfl, fun W hW => by go_simp; rw [IntKind.wrap_i64]; omega⟩) hS ?_
          try simp only [List.setIfInBounds_toArray, List.set_cons_zero, List.set_cons_succ]
          refine take_at (i := 12) (v := .int .i64 j) rfl rfl (by kernel_rfl) (by kernel_rfl) (by kernel_rfl) (fun _ _ _ h => h) (Or.inl ⟨by rfl, fun W hW => by go_simp⟩) hS ?_
          try simp only [List.setIfInBounds_toArray, List.set_cons_zero, List.set_cons_succ]
          refine take_at (i := 13) (v := .int .i64 (m : Int)) rfl rfl (by kernel_rfl) (by kernel_rfl) (by kernel_rfl) (fun _ _ _ h => h) (Or.inl ⟨by rfl, fun W hW => by go_simp⟩) hS ?_
          try simp only [List.setIfInBounds_toArray, List.set_cons_zero, List.set_cons_succ]
          refine take_at (i := 14) (v := .int .i64 (j - (m : Int))) rfl rfl (by kernel_rfl) (by kernel_rfl) (by kernel_rfl) (fun _ _ _ h => h) (Or.inl ⟨by rfl, fun W hW => by go_simp; rw [IntKind.wrap_i64]; omega⟩) hS ?_
          try simp only [List.setIfInBounds_toArray, List.set_cons_zero, List.set_cons_succ]
          refine wpAnyH_ready (rs := [5]) (by kernel_rfl) (by simp) ?_
          refine AllReadyH.cons rfl (fun K' hK => ?_) AllReadyH.nil
          rw [if_pos (by rfl)]
          go_simp
          refine (HA.out _ C0.out).mono ?_
          rintro e u1 ⟨v1, rfl, hown, hb⟩
          have C1 := Lib.hid (below_call C0.out C0.out.size hb)
          have O1 := Lib.hid (owns_base C0.out.size hown)
          clear hb hown
          refine hK.out _ _ trivial (fun hS => ?_)
          clear hK
          refine wpAnyH_ready (rs := [15]) (by kernel_rfl) (by simp) ?_
          refine AllReadyH.cons rfl (fun K' hK => ?_) AllReadyH.nil
          rw [if_pos (by rfl)]
          go_simp
          refine (HB.out _ C1.out).mono ?_
          rintro e u2 ⟨v2, rfl, hown, hb⟩
          have C2 := Lib.hid (below_call C1.out C1.out.size hb)
          have P2 := Lib.hid hown
          have O2 := Lib.hid (owns_below O1.out hb)
          clear hb hown
          refine hK.out _ _ trivial (fun hS => ?_)
          clear hK
          refine wpAnyH_ready (rs := [16]) (by kernel_rfl) (by simp) ?_
          refine AllReadyH.cons rfl (fun K' hK => ?_) AllReadyH.nil
          rw [if_pos (by rfl)]
          refine wp_append_rows _ _ 24 rfl 29 i0 z0 32 32 Try.underlying24 Hi.out hz0 hz1 hz2 hzs (by decide) v1 d1 _ rfl O2.out v2 d2 _ rfl P2.out ?c1 ?c2 ?c3 ?c4 ?_
          case c1 =>
            intro u hu
            obtain ⟨z, _, rfl⟩ := List.mem_map.1 hu
            rfl
          case c2 => have := HD.out; unfold maxLen; omega
          case c3 => have := HD.out; omega
          case c4 => exact C2.out.size
          intro v4 w4 hown4 hgrow4
          have O4 := Lib.hid hown4
          have C4 := Lib.hid (C2.out.grown hgrow4 C2.out.size (fun g e => (O2.out.lt g e).1))
          refine hK.out _ _ trivial (fun hS => ?_)
          clear hK hown4 hgrow4
          refine take_at (i := 17) (v := v4) rfl rfl (by kernel_rfl) (by kernel_rfl) (by kernel_rfl) (fun _ _ _ h => h) (Or.inl ⟨by rfl, fun W hW => by go_simp⟩) hS ?_
          try simp only [List.setIfInBounds_toArray, List.set_cons_zero, List.set_cons_succ]
          refine wpAnyH_done (by kernel_rfl) ?_ _
          clear hS
          go_wp2_with fail
          go_ret
          exact ⟨_, rfl, by rw [List.map_append]; exact O4.out, C4.out⟩
        · have h6' : 0 < i := by omega
          go_enter Try.func86, Try.ntmps86
          go_wp2_with fail
          refine (Hhalf.out _).mono ?_
          rintro e w1 ⟨rfl, rfl⟩
          go_wp2_with fail
          refine wp_region_held_drew (S := fun _ => True) (by kernel_rfl) trivial (fun hS => ?_)
          have C0 := Lib.hid ((Below.refl w.heap.size w).drew)
          refine take_at (i := 0) (v := .slice (some ⟨b, off, none⟩) n cap) rfl rfl (by kernel_rfl) (by kernel_rfl) (by kernel_rfl) (fun _ _ _ h => h) (Or.inl ⟨by rfl, fun W hW => by go_simp⟩) hS ?_
          try simp only [List.setIfInBounds_toArray, List.set_cons_zero, List.set_cons_succ]
          refine take_at (i := 1) (v := .int .i64 (m : Int)) rfl rfl (by kernel_rfl) (by kernel_rfl) (by kernel_rfl) (fun _ _ _ h => h) (Or.inl ⟨by rfl, fun W hW => by go_simp⟩) hS ?_
          try simp only [List.setIfInBounds_toArray, List.set_cons_zero, List.set_cons_succ]
          refine take_at (i := 2) (v := .slice (some ⟨b, off, none⟩) m cap) rfl rfl (by kernel_rfl) (by kernel_rfl) (by kernel_rfl) (fun _ _ _ h => h) (Or.inl ⟨by rfl, fun W hW => by go_simp⟩) hS ?_
          try simp only [List.setIfInBounds_toArray, List.set_cons_zero, List.set_cons_succ]
          refine take_at (i := 3) (v := .int .i64 i) rfl rfl (by kernel_rfl) (by kernel_rfl) (by kernel_rfl) (fun _ _ _ h => h) (Or.inl ⟨by rfl, fun W hW => by go_simp⟩) hS ?_
          try simp only [List.setIfInBounds_toArray, List.set_cons_zero, List.set_cons_succ]
          refine take_at (i := 4) (v := .int .i64 j) rfl rfl (by kernel_rfl) (by kernel_rfl) (by kernel_rfl) (fun _ _ _ h => h) (Or.inl ⟨by rfl, fun W hW => by go_simp⟩) hS ?_
          try simp only [List.setIfInBounds_toArray, List.set_cons_zero, List.set_cons_succ]
          refine take_at (i := 6) (v := .slice (some ⟨b, off, none⟩) n cap) rfl rfl (by kernel_rfl) (by kernel_rfl) (by kernel_rfl) (fun _ _ _ h => h) (Or.inl ⟨by rfl, fun W hW => by go_simp⟩) hS ?_
          try simp only [List.setIfInBounds_toArray, List.set_cons_zero, List.set_cons_succ]
          refine take_at (i := 7) (v := .int .i64 (m : Int)) rfl rfl (by kernel_rfl) (by kernel_rfl) (by kernel_rfl) (fun _ _ _ h => h) (Or.inl ⟨by rfl, fun W hW => by go_simp⟩) hS ?_
          try simp only [List.setIfInBounds_toArray, List.set_cons_zero, List.set_cons_succ]
          refine take_at (i := 8) (v := .slice (some ⟨b, off + m * 32, none⟩) (n - m) (cap - m)) rfl rfl (by kernel_rfl) (by kernel_rfl) (by kernel_rfl) (fun _ _ _ h => h) (Or.inl ⟨by rfl, fun W hW => by go_simp⟩) hS ?_
          try simp only [List.setIfInBounds_toArray, List.set_cons_zero, List.set_cons_succ]
          refine take_at (i := 9) (v := .int .i64 i) rfl rfl (by kernel_rfl) (by kernel_rfl) (by kernel_rfl) (fun _ _ _ h => h) (Or.inl ⟨by rfl, fun W hW => by go_simp⟩) hS ?_
          try simp only [List.setIfInBounds_toArray, List.set_cons_zero, List.set_cons_succ]
          refine take_at (i := 10) (v := .int .i64 (m : Int)) rfl rfl (by kernel_rfl) (by kernel_rfl) (by kernel_rfl) (fun _ _ _ h => h) (Or.inl ⟨by rfl, fun W hW => by go_simp⟩) hS ?_
          try simp only [List.setIfInBounds_toArray, List.set_cons_zero, List.set_cons_succ]
          refine take_at (i := 11) (v := .int .i64 (i - (m : Int))) rfl rfl (by kernel_rfl) (by kernel_rfl) (by kernel_rfl) (fun _ _ _ h => h) (Or.inl ⟨by rfl, fun W hW => by go_simp; rw [IntKind.wrap_i64]; omega⟩) hS ?_
          try simp only [List.setIfInBounds_toArray, List.set_cons_zero, List.set_cons_succ]
          refine take_at (i := 12) (v := .int .i64 j) rfl rfl (by kernel_rfl) (by kernel_rfl) (by kernel_rfl) (fun _ _ _ h => h) (Or.inl ⟨by rfl, fun W hW => by go_simp⟩) hS ?_
          try simp only [List.setIfInBounds_toArray, List.set_cons_zero, List.set_cons_succ]
          refine take_at (i := 13) (v := .int .i64 (m : Int)) rfl rfl (by kernel_rfl) (by kernel_rfl) (by kernel_rfl) (fun _ _ _ h => h) (Or.inl ⟨by rfl, fun W hW => by go_simp⟩) hS ?_
          try simp only [List.setIfInBounds_toArray, List.set_cons_zero, List.set_cons_succ]
          refine take_at (i := 14) (v := .int .i64 (j - (m : Int))) rfl rfl (by kernel_rfl) (by kernel_rfl) (by kernel_rfl) (fun _ _ _ h => h) (Or.inl ⟨by rfl, fun W hW => by go_simp; rw [IntKind.wrap_i64]; omega⟩) hS ?_
          try simp only [List.setIfInBounds_toArray, List.set_cons_zero, List.set_cons_succ]
          refine wpAnyH_ready (rs := [5]) (by kernel_rfl) (by simp) ?_
          refine AllReadyH.cons rfl (fun K' hK => ?_) AllReadyH.nil
          rw [if_pos (by rfl)]
          go_simp
          refine (HA.out _ C0.out).mono ?_
          rintro e u1 ⟨v1, rfl, hown, hb⟩
          have C1 := Lib.hid (below_call C0.out C0.out.size hb)
          have O1 := Lib.hid (owns_base C0.out.size hown)
          clear hb hown
          refine hK.out _ _ trivial (fun hS => ?_)
          clear hK
          refine wpAnyH_ready (rs := [15]) (by kernel_rfl) (by simp) ?_
          refine AllReadyH.cons rfl (fun K' hK => ?_) AllReadyH.nil
          rw [if_pos (by rfl)]
          go_simp
          refine (HB.out _ C1.out).mono ?_
          rintro e u2 ⟨v2, rfl, hown, hb⟩
          have C2 := Lib.hid (below_call C1.out C1.out.size hb)
          have P2 := Lib.hid hown
          have O2 := Lib.hid (owns_below O1.out hb)
          clear hb hown
          refine hK.out _ _ trivial (fun hS => ?_)
          clear hK
          refine wpAnyH_ready (rs := [16]) (by kernel_rfl) (by simp) ?_
          refine AllReadyH.cons rfl (fun K' hK => ?_) AllReadyH.nil
          rw [if_pos (by rfl)]
          refine wp_append_rows _ _ 24 rfl 29 i0 z0 32 32 Try.underlying24 Hi.out hz0 hz1 hz2 hzs (by decide) v1 d1 _ rfl O2.out v2 d2 _ rfl P2.out ?c1 ?c2 ?c3 ?c4 ?_
          case c1 =>
            intro u hu
            obtain ⟨z, _, rfl⟩ := List.mem_map.1 hu
            rfl
          case c2 => have := HD.out; unfold maxLen; omega
          case c3 => have := HD.out; omega
          case c4 => exact C2.out.size
          intro v4 w4 hown4 hgrow4
          have O4 := Lib.hid hown4
          have C4 := Lib.hid (C2.out.grown hgrow4 C2.out.size (fun g e => (O2.out.lt g e).1))
          refine hK.out _ _ trivial (fun hS => ?_)
          clear hK hown4 hgrow4
          refine take_at (i := 17) (v := v4) rfl rfl (by kernel_rfl) (by kernel_rfl) (by kernel_rfl) (fun _ _ _ h => h) (Or.inl ⟨by rfl, fun W hW => by go_simp⟩) hS ?_
          try simp only [List.setIfInBounds_toArray, List.set_cons_zero, List.set_cons_succ]
          refine wpAnyH_done (by kernel_rfl) ?_ _
          clear hS
          go_wp2_with fail
          go_ret
          exact ⟨_, rfl, by rw [List.map_append]; exact O4.out, C4.out⟩
end Go.Proofs.Ytfnmmpnmbommeaa
