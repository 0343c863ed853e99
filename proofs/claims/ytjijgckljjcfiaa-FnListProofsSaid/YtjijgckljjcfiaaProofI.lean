/- The proof of a leaf, by the specification and by the program. Written by wip/gen/proofi.py. -/
import Derived.Test.YtjijgckljjcfiaaPopO
import Derived.Test.YtjijgckljjcfiaaDepth
namespace Go.Proofs.Ytjijgckljjcfiaa
open Go.ChangeShapes Go.WideShapes Go.ChangeAt Go.RowKit
set_option linter.unusedVariables false
set_option linter.unusedSimpArgs false
/-- The keys of the proof of the leaf i of the n ones from b on. -/
def prf (kf : Nat → List Int) (b n i : Nat) : List Int :=
  if h : n ≤ 1 then [] else if i < half n then prf kf b (half n) i ++ tkey kf (b + half n) (n - half n) else prf kf (b + half n) (n - half n) (i - half n) ++ tkey kf b (half n)
termination_by n
decreasing_by
  · exact half_lt (by omega)
  · have := half_pos n; have := half_lt (n := n) (by omega); omega
theorem prf_one {kf : Nat → List Int} {b n i : Nat} (h : n ≤ 1) : prf kf b n i = [] := by rw [prf, dif_pos h]
theorem prf_left {kf : Nat → List Int} {b n i : Nat} (h : 1 < n) (h1 : i < half n) : prf kf b n i = prf kf b (half n) i ++ tkey kf (b + half n) (n - half n) := by rw [prf, dif_neg (by omega), if_pos h1]
theorem prf_right {kf : Nat → List Int} {b n i : Nat} (h : 1 < n) (h1 : ¬ i < half n) : prf kf b n i = prf kf (b + half n) (n - half n) (i - half n) ++ tkey kf b (half n) := by rw [prf, dif_neg (by omega), if_neg h1]
theorem prf_congr {kf kg : Nat → List Int} : ∀ (n b c i : Nat), i < n → (∀ j, j < n → kf (b + j) = kg (c + j)) → prf kf b n i = prf kg c n i := by
  intro n
  induction n using Nat.strongRecOn with
  | _ n ih =>
    intro b c i hi h
    by_cases h2 : n ≤ 1
    · rw [prf_one h2, prf_one h2]
    · have a1 := half_pos n
      have a2 := half_lt (n := n) (by omega)
      have e1 := tkey_congr (kf := kf) (kg := kg) (n - half n) (b + half n) (c + half n) (by omega) (fun j hj => by rw [Nat.add_assoc, Nat.add_assoc]; exact h _ (by omega))
      have e2 := tkey_congr (kf := kf) (kg := kg) (half n) b c (by omega) (fun j hj => h j (by omega))
      by_cases h3 : i < half n
      · rw [prf_left (by omega) h3, prf_left (by omega) h3, e1, ih _ a2 b c i h3 (fun j hj => h j (by omega))]
      · rw [prf_right (by omega) h3, prf_right (by omega) h3, e2, ih _ (by omega) (b + half n) (c + half n) (i - half n) (by omega) (fun j hj => by rw [Nat.add_assoc, Nat.add_assoc]; exact h _ (by omega))]
theorem prf_len {kf : Nat → List Int} : ∀ (n b i : Nat), i < n → (∀ j, j < n → (kf (b + j)).length = 32) → (prf kf b n i).length = 32 * dN n i := by
  intro n
  induction n using Nat.strongRecOn with
  | _ n ih =>
    intro b i hi h
    by_cases h2 : n ≤ 1
    · rw [prf_one h2, dN_one h2]; rfl
    · have a1 := half_pos n
      have a2 := half_lt (n := n) (by omega)
      by_cases h3 : i < half n
      · rw [prf_left (by omega) h3, dN_left (by omega) h3, List.length_append, ih _ a2 b i h3 (fun j hj => h j (by omega)), tkey_len (by omega) (fun j hj => by rw [Nat.add_assoc]; exact h _ (by omega))]
        omega
      · rw [prf_right (by omega) h3, dN_right (by omega) h3, List.length_append, ih _ (by omega) (b + half n) (i - half n) (by omega) (fun j hj => by rw [Nat.add_assoc]; exact h _ (by omega)), tkey_len (by omega) (fun j hj => h _ (by omega))]
        omega
set_option maxRecDepth 100000 in
set_option maxHeartbeats 8000000 in
theorem proof_spec : ∀ (n : Nat) (b off cap i : Nat) (fl : List Int) (w : World), i < n → n ≤ 1048576 → n ≤ cap → cap ≤ maxLen → (∀ z ∈ fl, 0 ≤ z ∧ z ≤ 255) → RdK w (some ⟨b, off, none⟩) n fl →
    Calls Try.prog 88 #[.slice (some ⟨b, off, none⟩) n cap, .int .i64 (i : Int)] w fun e w' => ∃ v, e = .returned v ∧ w'.ownsRow w.heap.size 28 32 v (dN n i) ((prf (keyAt fl) 0 n i).map (Value.int .u8)) ∧ Below w.heap.size w w' := by
  intro n
  induction n using Nat.strongRecOn with
  | _ n ih =>
    intro b off cap i fl w h1 hn hc hm fb hr
    obtain ⟨i0, z0, hi0, hz0, hz1, hz2, hzs, hzc⟩ := keyParts
    have Hi := Lib.hid hi0
    clear hi0 hzc
    by_cases h2 : n = 1
    · subst h2
      rw [dN_one (Nat.le_refl 1), prf_one (Nat.le_refl 1)]
      have O1 := Lib.hid (owns_empty w 28 32)
      have B1 := Lib.hid ((Below.refl w.heap.size w).alloc (Nat.le_refl _) (.cells #[] 28))
      go_enter Try.func88, Try.ntmps88
      go_wp2_with fail
      go_ret
      exact ⟨_, rfl, O1.out, B1.out⟩
    · have hm1 := half_pos n
      have hm2 := half_lt (n := n) (by omega)
      have Hhalf := Lib.hid (fun W => half_spec n (by omega) hn W)
      have c1 : ¬ (n : Int) = 1 := by omega
      have c2 : (n : Int) ≤ 1048576 := by omega
      have c3 : (0 : Int) ≤ (i : Int) := by omega
      have c4 : (i : Int) < (n : Int) := by omega
      by_cases h3 : i < half n
      · rw [dN_left (by omega) h3, prf_left (by omega) h3]
        have HA := Lib.hid (fun W (hB : Below w.heap.size w W) => by
          have := ih (half n) hm2 b off cap i (fl.take (32 * half n)) W h3 (by omega) (by omega) hm (fun z hz => fb z (List.mem_of_mem_take hz)) ((hr.below hB).take (by omega))
          rwa [prf_congr (kf := keyAt (fl.take (32 * half n))) (kg := keyAt fl) (half n) 0 0 i h3 (fun j hj => by rw [Nat.zero_add]; exact keyAt_take hj)] at this)
        have HB := Lib.hid (fun W (hB : Below w.heap.size w W) => part_spec b off n (cap - half n) (half n) (n - half n) fl (by omega) (by omega) hn (by omega) (by omega) fb W (hr.below hB))
        have HBL := Lib.hid (tkey_len (kf := keyAt fl) (b := half n) (n := n - half n) (by omega) (fun j hj => keyAt_len hr.1 (by omega)))
        have HD := Lib.hid (show dN (half n) i ≤ 1048575 by have := dN_le (half n) i; omega)
        rw [Nat.zero_add]
        clear ih hr fb
        generalize dN (half n) i = d at HA HD ⊢
        generalize prf (keyAt fl) 0 (half n) i = A at HA ⊢
        generalize tkey (keyAt fl) (half n) (n - half n) = B at HB HBL ⊢
        generalize half n = m at hm1 hm2 Hhalf HA HB h3
        have d1 : (i : Int) < (m : Int) := by omega
        have d2 : (m : Int) < (n : Int) := by omega
        have d3 : (m : Int) < (cap : Int) := by omega
        have d4 : m < n := by omega
        have d5 : (n : Int) ≤ (cap : Int) := by omega
        have d6 : m < cap := by omega
        have d7 : ¬ cap = m := by omega
        have d8 : ¬ n < m := by omega
        have d10 : ¬ cap < m := by omega
        have d11 : IntKind.i64.wrap ((i : Int) - (m : Int)) = (i : Int) - (m : Int) := by rw [IntKind.wrap_i64]; omega
        have D11 := Lib.hid d11
        clear d11
        unfold maxLen at hm
        go_enter Try.func88, Try.ntmps88
        go_wp2_with fail
        refine (Hhalf.out _).mono ?_
        rintro e w1 ⟨rfl, rfl⟩
        go_wp2_with fail
        refine wp_region_held_drew (S := fun _ => True) (by kernel_rfl) trivial (fun hS => ?_)
        have C0 := Lib.hid ((Below.refl w.heap.size w).drew)
        refine take_at (i := 0) (v := .slice (some ⟨b, off, none⟩) n cap) rfl rfl (by kernel_rfl) (by kernel_rfl) (by kernel_rfl) (fun _ _ _ h => h) (Or.inl ⟨by rfl, fun W hW => by go_simp⟩) hS ?_
        refine take_at (i := 1) (v := .int .i64 (m : Int)) rfl rfl (by kernel_rfl) (by kernel_rfl) (by kernel_rfl) (fun _ _ _ h => h) (Or.inl ⟨by rfl, fun W hW => by go_simp⟩) hS ?_
        refine take_at (i := 3) (v := .int .i64 (i : Int)) rfl rfl (by kernel_rfl) (by kernel_rfl) (by kernel_rfl) (fun _ _ _ h => h) (Or.inl ⟨by rfl, fun W hW => by go_simp⟩) hS ?_
        refine take_at (i := 2) (v := .slice (some ⟨b, off, none⟩) m cap) rfl rfl (by kernel_rfl) (by kernel_rfl) (by kernel_rfl) (fun _ _ _ h => h) (Or.inl ⟨by rfl, fun W hW => by go_simp⟩) hS ?_
        simp only [List.setIfInBounds_toArray, List.set_cons_zero, List.set_cons_succ]
        refine take_at (i := 5) (v := .slice (some ⟨b, off, none⟩) n cap) rfl rfl (by kernel_rfl) (by kernel_rfl) (by kernel_rfl) (fun _ _ _ h => h) (Or.inl ⟨by rfl, fun W hW => by go_simp⟩) hS ?_
        refine take_at (i := 6) (v := .int .i64 (m : Int)) rfl rfl (by kernel_rfl) (by kernel_rfl) (by kernel_rfl) (fun _ _ _ h => h) (Or.inl ⟨by rfl, fun W hW => by go_simp⟩) hS ?_
        simp only [List.setIfInBounds_toArray, List.set_cons_zero, List.set_cons_succ]
        refine take_at (i := 7) (v := .slice (some ⟨b, off + m * 32, none⟩) (n - m) (cap - m)) rfl rfl (by kernel_rfl) (by kernel_rfl) (by kernel_rfl) (fun _ _ _ h => h) (Or.inl ⟨by rfl, fun W hW => by go_simp⟩) hS ?_
        simp only [List.setIfInBounds_toArray, List.set_cons_zero, List.set_cons_succ]
        refine wpAnyH_ready (rs := [4]) (by kernel_rfl) (by simp) ?_
        refine AllReadyH.cons rfl (fun K' hK => ?_) AllReadyH.nil
        rw [if_pos (by rfl)]
        go_simp
        refine (HA.out _ C0.out).mono ?_
        rintro e u1 ⟨v1, rfl, hown, hb⟩
        obtain ⟨a1, c1, hv1⟩ := owns_slc hown
        subst hv1
        have C1 := Lib.hid (below_call C0.out C0.out.size hb)
        have O1 := Lib.hid (owns_base C0.out.size hown)
        clear hb hown
        refine hK.out _ _ trivial (fun hS => ?_)
        clear hK
        refine wpAnyH_ready (rs := [8]) (by kernel_rfl) (by simp) ?_
        refine AllReadyH.cons rfl (fun K' hK => ?_) AllReadyH.nil
        rw [if_pos (by rfl)]
        go_simp
        refine (HB.out _ C1.out).mono ?_
        rintro e u2 ⟨rfl, hb⟩
        have C2 := Lib.hid (below_call C1.out C1.out.size hb)
        have O2 := Lib.hid (owns_below O1.out hb)
        clear hb
        refine hK.out _ _ trivial (fun hS => ?_)
        clear hK
        refine wpAnyH_ready (rs := [9]) (by kernel_rfl) (by simp) ?_
        refine AllReadyH.cons rfl (fun K' hK => ?_) AllReadyH.nil
        rw [if_pos (by rfl)]
        refine wp_buildSlice_one (o := ⟨some 25, _, _, _, _, _⟩) 24 28 _ rfl Try.underlying24 Hi.out hz0 (ints .u8 B) rfl (by rw [ints_size, HBL.out, hz1]) (by rw [hz1]; decide) (by rw [hz1]; decide) ?_
        simp only [Act.put]
        refine hK.out _ _ trivial (fun hS => ?_)
        clear hK
        refine wpAnyH_ready (rs := [10]) (by kernel_rfl) (by simp) ?_
        refine AllReadyH.cons rfl (fun K' hK => ?_) AllReadyH.nil
        rw [if_pos (by rfl)]
        refine wp_append_own _ _ _ 24 rfl w.heap.size 28 i0 z0 32 32 Try.underlying24 Hi.out hz0 hz1 hz2 hzs (by decide) _ d _ rfl (O2.out.alloc _) ⟨u2.heap.size, 0, none⟩ 1 1 (B.map (Value.int .u8)) rfl (by rw [List.length_map, HBL.out]) ?c1 ?c2 ?c3 ?c4 ?c5 ?_
        case c1 =>
          intro p u hu
          rw [addr_add, Nat.zero_add, cell_of_row _ u2.heap.size p _ _ _ (heap_alloc_last u2 (.cells (ints .u8 B) 28)), ← hu]
          simp [ints]
        case c2 =>
          intro u hu
          obtain ⟨z, _, rfl⟩ := List.mem_map.1 hu
          rfl
        case c3 => have := HD.out; unfold maxLen; omega
        case c4 => have := HD.out; omega
        case c5 => have := C2.out.size; simp; omega
        intro v4 w4 hown4 hgrow4 hnil4
        obtain ⟨a4, c4, hv4⟩ := owns_slc hown4
        subst hv4
        have O4 := Lib.hid (show w4.ownsRow w.heap.size 28 32 (.slice a4 (d + 1) c4) (d + 1) ((A ++ B).map (Value.int .u8)) by rw [List.map_append]; exact hown4)
        have C4 := Lib.hid ((C2.out.alloc C2.out.size (.cells (ints .u8 B) 28)).grown hgrow4 (by have := C2.out.size; simp; omega) (fun g e => (O2.out.lt g e).1))
        refine hK.out _ _ trivial (fun hS => ?_)
        clear hK hown4 hgrow4 hnil4
        refine take_at (i := 11) (v := .slice a4 (d + 1) c4) rfl rfl (by kernel_rfl) (by kernel_rfl) (by kernel_rfl) (fun _ _ _ h => h) (Or.inl ⟨by rfl, fun W hW => by go_simp⟩) hS ?_
        try simp only [List.setIfInBounds_toArray, List.set_cons_zero, List.set_cons_succ]
        refine wpAnyH_done (by kernel_rfl) ?_ _
        clear hS
        go_wp2_with fail
        go_ret
        exact ⟨_, rfl, by first | exact O4.out | (rw [← List.map_append]; exact O4.out) | (have h := O4.out; rw [List.map_append] at h; exact h), C4.out⟩
      · rw [dN_right (by omega) h3, prf_right (by omega) h3]
        have HA := Lib.hid (fun W (hB : Below w.heap.size w W) => by
          have := ih (n - half n) (by omega) b (off + half n * 32) (cap - half n) (i - half n) (fl.drop (32 * half n)) W (by omega) (by omega) (by omega) (by omega) (fun z hz => fb z (List.mem_of_mem_drop hz)) ((hr.below hB).drop (by omega))
          rwa [prf_congr (kf := keyAt (fl.drop (32 * half n))) (kg := keyAt fl) (n - half n) 0 (0 + half n) (i - half n) (by omega) (fun j hj => by rw [keyAt_drop, Nat.zero_add, Nat.zero_add])] at this)
        have HB := Lib.hid (fun W (hB : Below w.heap.size w W) => by
          have := part_spec b off n cap 0 (half n) fl (by omega) (by omega) hn (by omega) hm fb W (hr.below hB)
          rwa [show off + 0 * 32 = off by omega] at this)
        have HBL := Lib.hid (tkey_len (kf := keyAt fl) (b := 0) (n := half n) (by omega) (fun j hj => keyAt_len hr.1 (by omega)))
        have HD := Lib.hid (show dN (n - half n) (i - half n) ≤ 1048575 by have := dN_le (n - half n) (i - half n); omega)
        have hii : ((i - half n : Nat) : Int) = (i : Int) - (half n : Nat) := by omega
        rw [hii] at HA
        clear ih hr fb hii
        generalize dN (n - half n) (i - half n) = d at HA HD ⊢
        generalize prf (keyAt fl) (0 + half n) (n - half n) (i - half n) = A at HA ⊢
        generalize tkey (keyAt fl) 0 (half n) = B at HB HBL ⊢
        generalize half n = m at hm1 hm2 Hhalf HA HB h3
        have d1 : ¬ (i : Int) < (m : Int) := by omega
        have d2 : (m : Int) < (n : Int) := by omega
        have d3 : (m : Int) < (cap : Int) := by omega
        have d4 : m < n := by omega
        have d5 : (n : Int) ≤ (cap : Int) := by omega
        have d6 : m < cap := by omega
        have d7 : ¬ cap = m := by omega
        have d8 : ¬ n < m := by omega
        have d10 : ¬ cap < m := by omega
        have d11 : IntKind.i64.wrap ((i : Int) - (m : Int)) = (i : Int) - (m : Int) := by rw [IntKind.wrap_i64]; omega
        have D11 := Lib.hid d11
        clear d11
        have d9 : (0 : Int) ≤ (m : Int) := by omega
        unfold maxLen at hm
        go_enter Try.func88, Try.ntmps88
        go_wp2_with fail
        refine (Hhalf.out _).mono ?_
        rintro e w1 ⟨rfl, rfl⟩
        go_wp2_with fail
        refine wp_region_held_drew (S := fun _ => True) (by kernel_rfl) trivial (fun hS => ?_)
        have C0 := Lib.hid ((Below.refl w.heap.size w).drew)
        refine take_at (i := 0) (v := .slice (some ⟨b, off, none⟩) n cap) rfl rfl (by kernel_rfl) (by kernel_rfl) (by kernel_rfl) (fun _ _ _ h => h) (Or.inl ⟨by rfl, fun W hW => by go_simp⟩) hS ?_
        refine take_at (i := 1) (v := .int .i64 (m : Int)) rfl rfl (by kernel_rfl) (by kernel_rfl) (by kernel_rfl) (fun _ _ _ h => h) (Or.inl ⟨by rfl, fun W hW => by go_simp⟩) hS ?_
        refine take_at (i := 3) (v := .int .i64 (i : Int)) rfl rfl (by kernel_rfl) (by kernel_rfl) (by kernel_rfl) (fun _ _ _ h => h) (Or.inl ⟨by rfl, fun W hW => by go_simp⟩) hS ?_
        refine take_at (i := 4) (v := .int .i64 (m : Int)) rfl rfl (by kernel_rfl) (by kernel_rfl) (by kernel_rfl) (fun _ _ _ h => h) (Or.inl ⟨by rfl, fun W hW => by go_simp⟩) hS ?_
        simp only [List.setIfInBounds_toArray, List.set_cons_zero, List.set_cons_succ]
        refine take_at (i := 2) (v := .slice (some ⟨b, off + m * 32, none⟩) (n - m) (cap - m)) rfl rfl (by kernel_rfl) (by kernel_rfl) (by kernel_rfl) (fun _ _ _ h => h) (Or.inl ⟨by rfl, fun W hW => by go_simp⟩) hS ?_
        refine take_at (i := 5) (v := .int .i64 ((i : Int) - (m : Int))) rfl rfl (by kernel_rfl) (by kernel_rfl) (by kernel_rfl) (fun _ _ _ h => h) (Or.inl ⟨by rfl, fun W hW => by (go_simp; exact D11.out)⟩) hS ?_
        simp only [List.setIfInBounds_toArray, List.set_cons_zero, List.set_cons_succ]
        refine take_at (i := 7) (v := .slice (some ⟨b, off, none⟩) n cap) rfl rfl (by kernel_rfl) (by kernel_rfl) (by kernel_rfl) (fun _ _ _ h => h) (Or.inl ⟨by rfl, fun W hW => by go_simp⟩) hS ?_
        refine take_at (i := 8) (v := .int .i64 (m : Int)) rfl rfl (by kernel_rfl) (by kernel_rfl) (by kernel_rfl) (fun _ _ _ h => h) (Or.inl ⟨by rfl, fun W hW => by go_simp⟩) hS ?_
        simp only [List.setIfInBounds_toArray, List.set_cons_zero, List.set_cons_succ]
        refine take_at (i := 9) (v := .slice (some ⟨b, off, none⟩) m cap) rfl rfl (by kernel_rfl) (by kernel_rfl) (by kernel_rfl) (fun _ _ _ h => h) (Or.inl ⟨by rfl, fun W hW => by go_simp⟩) hS ?_
        simp only [List.setIfInBounds_toArray, List.set_cons_zero, List.set_cons_succ]
        refine wpAnyH_ready (rs := [6]) (by kernel_rfl) (by simp) ?_
        refine AllReadyH.cons rfl (fun K' hK => ?_) AllReadyH.nil
        rw [if_pos (by rfl)]
        go_simp
        refine (HA.out _ C0.out).mono ?_
        rintro e u1 ⟨v1, rfl, hown, hb⟩
        obtain ⟨a1, c1, hv1⟩ := owns_slc hown
        subst hv1
        have C1 := Lib.hid (below_call C0.out C0.out.size hb)
        have O1 := Lib.hid (owns_base C0.out.size hown)
        clear hb hown
        refine hK.out _ _ trivial (fun hS => ?_)
        clear hK
        refine wpAnyH_ready (rs := [10]) (by kernel_rfl) (by simp) ?_
        refine AllReadyH.cons rfl (fun K' hK => ?_) AllReadyH.nil
        rw [if_pos (by rfl)]
        go_simp
        refine (HB.out _ C1.out).mono ?_
        rintro e u2 ⟨rfl, hb⟩
        have C2 := Lib.hid (below_call C1.out C1.out.size hb)
        have O2 := Lib.hid (owns_below O1.out hb)
        clear hb
        refine hK.out _ _ trivial (fun hS => ?_)
        clear hK
        refine wpAnyH_ready (rs := [11]) (by kernel_rfl) (by simp) ?_
        refine AllReadyH.cons rfl (fun K' hK => ?_) AllReadyH.nil
        rw [if_pos (by rfl)]
        refine wp_buildSlice_one (o := ⟨some 38, _, _, _, _, _⟩) 24 28 _ rfl Try.underlying24 Hi.out hz0 (ints .u8 B) rfl (by rw [ints_size, HBL.out, hz1]) (by rw [hz1]; decide) (by rw [hz1]; decide) ?_
        simp only [Act.put]
        refine hK.out _ _ trivial (fun hS => ?_)
        clear hK
        refine wpAnyH_ready (rs := [12]) (by kernel_rfl) (by simp) ?_
        refine AllReadyH.cons rfl (fun K' hK => ?_) AllReadyH.nil
        rw [if_pos (by rfl)]
        refine wp_append_own _ _ _ 24 rfl w.heap.size 28 i0 z0 32 32 Try.underlying24 Hi.out hz0 hz1 hz2 hzs (by decide) _ d _ rfl (O2.out.alloc _) ⟨u2.heap.size, 0, none⟩ 1 1 (B.map (Value.int .u8)) rfl (by rw [List.length_map, HBL.out]) ?c1 ?c2 ?c3 ?c4 ?c5 ?_
        case c1 =>
          intro p u hu
          rw [addr_add, Nat.zero_add, cell_of_row _ u2.heap.size p _ _ _ (heap_alloc_last u2 (.cells (ints .u8 B) 28)), ← hu]
          simp [ints]
        case c2 =>
          intro u hu
          obtain ⟨z, _, rfl⟩ := List.mem_map.1 hu
          rfl
        case c3 => have := HD.out; unfold maxLen; omega
        case c4 => have := HD.out; omega
        case c5 => have := C2.out.size; simp; omega
        intro v4 w4 hown4 hgrow4 hnil4
        obtain ⟨a4, c4, hv4⟩ := owns_slc hown4
        subst hv4
        have O4 := Lib.hid (show w4.ownsRow w.heap.size 28 32 (.slice a4 (d + 1) c4) (d + 1) ((A ++ B).map (Value.int .u8)) by rw [List.map_append]; exact hown4)
        have C4 := Lib.hid ((C2.out.alloc C2.out.size (.cells (ints .u8 B) 28)).grown hgrow4 (by have := C2.out.size; simp; omega) (fun g e => (O2.out.lt g e).1))
        refine hK.out _ _ trivial (fun hS => ?_)
        clear hK hown4 hgrow4 hnil4
        refine take_at (i := 13) (v := .slice a4 (d + 1) c4) rfl rfl (by kernel_rfl) (by kernel_rfl) (by kernel_rfl) (fun _ _ _ h => h) (Or.inl ⟨by rfl, fun W hW => by go_simp⟩) hS ?_
        try simp only [List.setIfInBounds_toArray, List.set_cons_zero, List.set_cons_succ]
        refine wpAnyH_done (by kernel_rfl) ?_ _
        clear hS
        go_wp2_with fail
        go_ret
        exact ⟨_, rfl, by first | exact O4.out | (rw [← List.map_append]; exact O4.out) | (have h := O4.out; rw [List.map_append] at h; exact h), C4.out⟩
end Go.Proofs.Ytjijgckljjcfiaa
