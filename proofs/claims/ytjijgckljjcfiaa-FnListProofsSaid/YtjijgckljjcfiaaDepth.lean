/- TreeDepth: both programs, and the walk of its statement. Written by wip/gen/depth.py. -/
import Derived.Test.YtjijgckljjcfiaaTurns
import Derived.Test.YtjijgckljjcfiaaPeakS
namespace Go.Proofs.Ytjijgckljjcfiaa
open Go.ChangeShapes Go.WideShapes Go.ChangeAt Go.RowKit
set_option linter.unusedVariables false
set_option linter.unusedSimpArgs false
/-- How many nodes there are above the leaf i of n. -/
def dN (n i : Nat) : Nat := if h : n ≤ 1 then 0 else if i < half n then dN (half n) i + 1 else dN (n - half n) (i - half n) + 1
termination_by n
decreasing_by
  · exact half_lt (by omega)
  · have := half_pos n; have := half_lt (n := n) (by omega); omega
theorem dN_one {n i : Nat} (h : n ≤ 1) : dN n i = 0 := by rw [dN, dif_pos h]
theorem dN_left {n i : Nat} (h : 1 < n) (h1 : i < half n) : dN n i = dN (half n) i + 1 := by rw [dN, dif_neg (by omega), if_pos h1]
theorem dN_right {n i : Nat} (h : 1 < n) (h1 : ¬ i < half n) : dN n i = dN (n - half n) (i - half n) + 1 := by rw [dN, dif_neg (by omega), if_neg h1]
theorem tns_dN : ∀ n b i, b ≤ i → (tns b n i).length = dN n (i - b) := by
  intro n
  induction n using Nat.strongRecOn with
  | _ n ih =>
    intro b i hb
    by_cases h : n ≤ 1
    · rw [tns_one h, dN_one h]; rfl
    · have h1 := half_pos n
      have h2 := half_lt (n := n) (by omega)
      by_cases h3 : i < b + half n
      · rw [tns_left (by omega) h3, dN_left (by omega) (by omega), List.length_cons, ih _ h2 b i hb]
      · rw [tns_right (by omega) h3, dN_right (by omega) (by omega), List.length_cons, ih _ (by omega) (b + half n) i (by omega), show i - (b + half n) = i - b - half n by omega]
theorem dN_le (n i : Nat) : dN n i ≤ n := by
  have h := tns_dN n 0 i (Nat.zero_le _)
  have h2 := tns_len n 0 i
  rw [Nat.sub_zero] at h
  omega
set_option maxRecDepth 100000 in
set_option maxHeartbeats 2000000 in
theorem depth_spec : ∀ (n i : Nat) (w : World), 1 ≤ n → n ≤ 1048576 → i < n →
    Calls Try.prog 83 #[.int .i64 (n : Int), .int .i64 (i : Int)] w fun e w' => e = .returned (.int .i64 (dN n i : Nat)) ∧ w = w' := by
  intro n
  induction n using Nat.strongRecOn with
  | _ n ih =>
    intro i w h1 hn hi
    by_cases h2 : n = 1
    · subst h2
      rw [dN_one (Nat.le_refl 1)]
      go_enter Try.func83, Try.ntmps83
      go_wp2
      go_ret
      exact ⟨rfl, rfl⟩
    · have a1 := half_pos n
      have a2 := half_lt (n := n) (by omega)
      have Hh := Lib.hid (fun W => half_spec n (by omega) hn W)
      have c1 : ¬ (n : Int) = 1 := by omega
      have c2 : (n : Int) ≤ 1048576 := by omega
      have c3 : (0 : Int) ≤ (i : Int) := by omega
      have c4 : (i : Int) < (n : Int) := by omega
      by_cases h3 : i < half n
      · rw [dN_left (by omega) h3]
        have Hr := Lib.hid (fun W => ih (half n) a2 i W a1 (by omega) h3)
        have HB := Lib.hid (dN_le (half n) i)
        generalize dN (half n) i = d at Hr HB ⊢
        generalize half n = m at *
        have c5 : (i : Int) < (m : Int) := by omega
        have c6 : (d : Int) ≤ 1048576 := by have := HB.out; omega
        have c7 : (0 : Int) ≤ (d : Int) := by omega
        clear ih h1 hn hi h2 a1 a2 h3
        go_enter Try.func83, Try.ntmps83
        go_wp2_with fail
        refine (Hh.out _).mono ?_
        rintro e w1 ⟨rfl, rfl⟩
        go_wp2_with fail
        refine (Hr.out _).mono ?_
        rintro e w1 ⟨rfl, rfl⟩
        go_wp2
        go_ret
        exact ⟨by rw [show ((d + 1 : Nat) : Int) = 1 + (d : Int) by omega]; rfl, rfl⟩
      · rw [dN_right (by omega) h3]
        have Hr := Lib.hid (fun W => ih (n - half n) (by omega) (i - half n) W (by omega) (by omega) (by omega))
        rw [show ((n - half n : Nat) : Int) = (n : Int) - ((half n : Nat) : Int) by omega, show ((i - half n : Nat) : Int) = (i : Int) - ((half n : Nat) : Int) by omega] at Hr
        have HB := Lib.hid (dN_le (n - half n) (i - half n))
        generalize dN (n - half n) (i - half n) = d at Hr HB ⊢
        generalize half n = m at *
        have c5 : ¬ (i : Int) < (m : Int) := by omega
        have c8 : (0 : Int) ≤ (m : Int) := by omega
        have c9 : (m : Int) ≤ (n : Int) := by omega
        have c6 : (d : Int) ≤ 1048576 := by have := HB.out; omega
        have c7 : (0 : Int) ≤ (d : Int) := by omega
        clear ih h1 hn hi h2 a1 a2 h3
        go_enter Try.func83, Try.ntmps83
        go_wp2_with fail
        refine (Hh.out _).mono ?_
        rintro e w1 ⟨rfl, rfl⟩
        go_wp2_with fail
        refine (Hr.out _).mono ?_
        rintro e w1 ⟨rfl, rfl⟩
        go_wp2
        go_ret
        exact ⟨by rw [show ((d + 1 : Nat) : Int) = 1 + (d : Int) by omega]; rfl, rfl⟩
/-- Whether i is a leaf of n, which is no more than MaxLeaves. -/
def isLf (n i : Int) : Prop := n ≤ 256 ∧ 0 ≤ i ∧ i < n
instance (n i : Int) : Decidable (isLf n i) := by unfold isLf; infer_instance
set_option maxHeartbeats 1000000 in
theorem place_yes (n i : Int) (h0 : 0 ≤ i) (h1 : i < n) (w : World) : Calls Try.prog 62 #[.int .i64 n, .int .i64 i] w fun e w' => e = .returned (.bool true) ∧ w = w' := by
  go_enter Try.func62, Try.ntmps62
  go_wp2
  go_ret
  exact ⟨rfl, rfl⟩
set_option maxHeartbeats 1000000 in
theorem place_no (n i : Int) (h : ¬ (0 ≤ i ∧ i < n)) (w : World) : Calls Try.prog 62 #[.int .i64 n, .int .i64 i] w fun e w' => e = .returned (.bool false) ∧ w = w' := by
  by_cases h0 : 0 ≤ i
  · have h1 : ¬ i < n := fun h1 => h ⟨h0, h1⟩
    go_enter Try.func62, Try.ntmps62
    go_wp2
    go_ret
    exact ⟨rfl, rfl⟩
  · go_enter Try.func62, Try.ntmps62
    go_wp2
    go_ret
    exact ⟨rfl, rfl⟩
set_option maxHeartbeats 1000000 in
theorem leaf_yes (n i : Int) (h : isLf n i) (w : World) : Calls Try.prog 64 #[.int .i64 n, .int .i64 i] w fun e w' => e = .returned (.bool true) ∧ w = w' := by
  obtain ⟨h0, h1, h2⟩ := h
  have Hp := Lib.hid (fun W => place_yes n i h1 h2 W)
  go_enter Try.func64, Try.ntmps64
  go_wp2_with fail
  refine (Hp.out _).mono ?_
  rintro e w1 ⟨rfl, rfl⟩
  go_wp2
  go_ret
  exact ⟨rfl, rfl⟩
set_option maxHeartbeats 1000000 in
theorem leaf_no (n i : Int) (h : ¬ isLf n i) (w : World) : Calls Try.prog 64 #[.int .i64 n, .int .i64 i] w fun e w' => e = .returned (.bool false) ∧ w = w' := by
  by_cases h0 : n ≤ 256
  · have Hp := Lib.hid (fun W => place_no n i (fun h1 => h ⟨h0, h1⟩) W)
    go_enter Try.func64, Try.ntmps64
    go_wp2_with fail
    refine (Hp.out _).mono ?_
    rintro e w1 ⟨rfl, rfl⟩
    go_wp2
    go_ret
    exact ⟨rfl, rfl⟩
  · go_enter Try.func64, Try.ntmps64
    go_wp2
    go_ret
    exact ⟨rfl, rfl⟩
/-- What TreeDepth answers. -/
def tdV (n i : Int) : Int := if isLf n i then (dN n.toNat i.toNat : Nat) else 0
def tdE (n i : Int) : Int := if isLf n i then 0 else 2
set_option maxRecDepth 100000 in
set_option maxHeartbeats 1000000 in
theorem td_impl (n i : Int) (w : World) : Calls Try.prog 20 #[.int .i64 n, .int .i64 i] w fun e w' => e = .returned (.tuple #[.int .i64 (tdV n i), .int .i64 (tdE n i)]) ∧ Below w.heap.size w w' := by
  unfold tdV tdE
  by_cases h : isLf n i
  · rw [if_pos h, if_pos h]
    obtain ⟨m, rfl⟩ := Int.eq_ofNat_of_zero_le (show 0 ≤ n by unfold isLf at h; omega)
    obtain ⟨j, rfl⟩ := Int.eq_ofNat_of_zero_le h.2.1
    have Hl := Lib.hid (fun W => leaf_yes (m : Int) (j : Int) h W)
    have Ht := Lib.hid (fun W => turns_impl m j (by unfold isLf at h; omega) (by unfold isLf at h; omega) W)
    have Hd := Lib.hid (tns_dN m 0 j (Nat.zero_le _))
    rw [Int.toNat_natCast, Int.toNat_natCast]
    rw [Nat.sub_zero] at Hd
    rw [Hd.out] at Ht
    generalize dN m j = d at Ht ⊢
    clear h Hd
    go_enter Try.func20, Try.ntmps20
    go_wp2_with fail
    refine (Hl.out _).mono ?_
    rintro e w1 ⟨rfl, rfl⟩
    go_wp2_with fail
    refine (Ht.out _).mono ?_
    rintro e w1 ⟨g, v, rfl, hg, ho, hg1, hg2, hb⟩
    obtain ⟨a, c, rfl⟩ := owns_slc ho
    have B1 := Lib.hid hb
    have cg := cell_of_one hg
    clear ho hb hg hg1 hg2
    go_wp2
    go_ret2
    exact ⟨rfl, B1.out⟩
  · rw [if_neg h, if_neg h]
    have Hl := Lib.hid (fun W => leaf_no n i h W)
    go_enter Try.func20, Try.ntmps20
    go_wp2_with fail
    refine (Hl.out _).mono ?_
    rintro e w1 ⟨rfl, rfl⟩
    go_wp2
    go_ret2
    exact ⟨rfl, Below.refl _ _⟩
set_option maxRecDepth 100000 in
set_option maxHeartbeats 1000000 in
theorem td_spec (n i : Int) (w : World) : Calls Try.prog 37 #[.int .i64 n, .int .i64 i] w fun e w' => e = .returned (.tuple #[.int .i64 (tdV n i), .int .i64 (tdE n i)]) ∧ w = w' := by
  unfold tdV tdE
  by_cases h1 : 1 ≤ n ∧ n ≤ 256
  · have Ha := Lib.hid (fun W => in_true n 1 256 h1.1 h1.2 W)
    have h11 := h1.1
    have h12 := h1.2
    by_cases h2 : 0 ≤ i ∧ i ≤ n - 1
    · have h : isLf n i := ⟨h1.2, h2.1, by omega⟩
      rw [if_pos h, if_pos h]
      have Hb := Lib.hid (fun W => in_true i 0 (n - 1) h2.1 h2.2 W)
      have Hd := Lib.hid (fun W => depth_spec n.toNat i.toNat W (by omega) (by omega) (by omega))
      rw [Int.toNat_of_nonneg (by omega), Int.toNat_of_nonneg h2.1] at Hd
      generalize dN n.toNat i.toNat = d at Hd ⊢
      clear h h2 h1
      go_enter Try.func37, Try.ntmps37
      go_wp2_with fail
      refine (Ha.out _).mono ?_
      rintro e w1 ⟨rfl, rfl⟩
      go_wp2_with fail
      refine (Hb.out _).mono ?_
      rintro e w1 ⟨rfl, rfl⟩
      go_wp2_with fail
      refine (Hd.out _).mono ?_
      rintro e w1 ⟨rfl, rfl⟩
      go_wp2
      go_ret2
      exact ⟨rfl, rfl⟩
    · have h : ¬ isLf n i := fun h => h2 ⟨h.2.1, by have := h.2.2; omega⟩
      rw [if_neg h, if_neg h]
      have Hb := Lib.hid (fun W => in_false i 0 (n - 1) h2 W)
      clear h h2 h1
      go_enter Try.func37, Try.ntmps37
      go_wp2_with fail
      refine (Ha.out _).mono ?_
      rintro e w1 ⟨rfl, rfl⟩
      go_wp2_with fail
      refine (Hb.out _).mono ?_
      rintro e w1 ⟨rfl, rfl⟩
      go_wp2
      go_ret2
      exact ⟨rfl, rfl⟩
  · have h : ¬ isLf n i := fun h => h1 ⟨by have := h.2.1; have := h.2.2; omega, h.1⟩
    rw [if_neg h, if_neg h]
    have Ha := Lib.hid (fun W => in_false n 1 256 h1 W)
    clear h h1
    go_enter Try.func37, Try.ntmps37
    go_wp2_with fail
    refine (Ha.out _).mono ?_
    rintro e w1 ⟨rfl, rfl⟩
    go_wp2
    go_ret2
    exact ⟨rfl, rfl⟩
set_option maxHeartbeats 1000000 in
theorem FnExactTreeDepth_walk (n i : Int) (w : World) (f : (Lit.int .i64 n).wf = true) (f1 : (Lit.int .i64 i).wf = true) : Calls Try.prog 8 #[.int .i64 n, .int .i64 i] w fun e w' => e = .returned (.bool true) ∧ Below w.heap.size w w' := by
  have Hs := Lib.hid (fun W => td_spec n i W)
  have Hi := Lib.hid (fun W => td_impl n i W)
  generalize tdV n i = V at Hs Hi
  generalize tdE n i = E at Hs Hi
  go_enter Try.func8, Try.ntmps8
  go_wp2_with fail
  refine (Hs.out _).mono ?_
  rintro e w1 ⟨rfl, rfl⟩
  go_wp2_with fail
  refine (Hi.out _).mono ?_
  rintro e w1 ⟨rfl, hb⟩
  have B1 := Lib.hid hb
  clear hb
  go_wp2
  go_ret
  exact ⟨rfl, B1.out⟩
end Go.Proofs.Ytjijgckljjcfiaa
