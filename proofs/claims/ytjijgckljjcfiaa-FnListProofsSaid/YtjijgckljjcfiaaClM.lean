/- Two lists with one key that are not equal: what is reckoned. Lists held against each other. Written by wip/gen/clm.py. -/
import Derived.Test.YtjijgckljjcfiaaLeadS
namespace Go.Proofs.Ytjijgckljjcfiaa
open Go.ChangeShapes Go.WideShapes Go.ChangeAt Go.RowKit
set_option linter.unusedVariables false
set_option linter.unusedSimpArgs false
/-- The keys from the b-th on, n of them. -/
def subK (fl : List Int) (b n : Nat) : List Int := (fl.drop (32 * b)).take (32 * n)
theorem subK_one (fl : List Int) (b : Nat) : subK fl b 1 = keyAt fl b := rfl
theorem subK_all {fl : List Int} {n : Nat} (h : fl.length = 32 * n) : subK fl 0 n = fl := by unfold subK; rw [Nat.mul_zero, List.drop_zero, List.take_of_length_le (by omega)]
theorem subK_split (fl : List Int) {b m n : Nat} (h : m ≤ n) : subK fl b n = subK fl b m ++ subK fl (b + m) (n - m) := by
  unfold subK
  rw [show 32 * n = 32 * m + 32 * (n - m) by omega, List.take_add, List.drop_drop, show 32 * b + 32 * m = 32 * (b + m) by omega]
theorem rdk_sub {w : World} {b off n : Nat} {fl : List Int} (h : RdK w (some ⟨b, off, none⟩) n fl) (i m : Nat) (hi : i + m ≤ n) : RdK w (some ⟨b, off + i * 32, none⟩) m (subK fl i m) :=
  (h.drop (m := i) (by omega)).take (m := m) (by omega)
/-- The two pairs of the node over the n leaves from b on: its halves' keys in both lists. -/
def clQ (fl gl : List Int) (b n : Nat) : List Int := tkey (keyAt fl) b (half n) ++ (tkey (keyAt fl) (b + half n) (n - half n) ++ (tkey (keyAt gl) b (half n) ++ tkey (keyAt gl) (b + half n) (n - half n)))
/-- Whether these pairs are unlike. -/
def clU (fl gl : List Int) (b n : Nat) : Prop := tkey (keyAt fl) b (half n) ≠ tkey (keyAt gl) b (half n) ∨ tkey (keyAt fl) (b + half n) (n - half n) ≠ tkey (keyAt gl) (b + half n) (n - half n)
instance (fl gl : List Int) (b n : Nat) : Decidable (clU fl gl b n) := by unfold clU; infer_instance
/-- The clash, from the top down. -/
def clK (fl gl : List Int) (b n : Nat) : List Int :=
  if h : n ≤ 1 then [] else if clU fl gl b n then clQ fl gl b n else if subK fl b (half n) = subK gl b (half n) then clK fl gl (b + half n) (n - half n) else clK fl gl b (half n)
termination_by n
decreasing_by
  · have := half_pos n; have := half_lt (n := n) (by omega); omega
  · exact half_lt (by omega)
theorem clK_here {fl gl : List Int} {b n : Nat} (h : 1 < n) (hu : clU fl gl b n) : clK fl gl b n = clQ fl gl b n := by rw [clK, dif_neg (by omega), if_pos hu]
theorem clK_right {fl gl : List Int} {b n : Nat} (h : 1 < n) (hu : ¬ clU fl gl b n) (hs : subK fl b (half n) = subK gl b (half n)) : clK fl gl b n = clK fl gl (b + half n) (n - half n) := by rw [clK, dif_neg (by omega), if_neg hu, if_pos hs]
theorem clK_left {fl gl : List Int} {b n : Nat} (h : 1 < n) (hu : ¬ clU fl gl b n) (hs : ¬ subK fl b (half n) = subK gl b (half n)) : clK fl gl b n = clK fl gl b (half n) := by rw [clK, dif_neg (by omega), if_neg hu, if_neg hs]
/-- What holds on the way: the keys are equal, and the leaves are not. -/
def clO (fl gl : List Int) (b n : Nat) : Prop := 1 ≤ n ∧ tkey (keyAt fl) b n = tkey (keyAt gl) b n ∧ subK fl b n ≠ subK gl b n
theorem clO_two {fl gl : List Int} {b n : Nat} (h : clO fl gl b n) : 1 < n := by
  obtain ⟨h1, h2, h3⟩ := h
  rcases Nat.lt_or_ge 1 n with h4 | h4
  · exact h4
  · obtain rfl : n = 1 := by omega
    rw [tkey_one, tkey_one, ← subK_one, ← subK_one] at h2
    exact absurd h2 h3
theorem clO_left {fl gl : List Int} {b n : Nat} (h : clO fl gl b n) (hu : ¬ clU fl gl b n) (hs : ¬ subK fl b (half n) = subK gl b (half n)) : clO fl gl b (half n) := by
  refine ⟨half_pos n, ?_, hs⟩
  by_cases e : tkey (keyAt fl) b (half n) = tkey (keyAt gl) b (half n)
  · exact e
  · exact absurd (Or.inl e) hu
theorem clO_right {fl gl : List Int} {b n : Nat} (h : clO fl gl b n) (hu : ¬ clU fl gl b n) (hs : subK fl b (half n) = subK gl b (half n)) : clO fl gl (b + half n) (n - half n) := by
  have h1 := clO_two h
  have h2 := half_lt (n := n) (by omega)
  refine ⟨by omega, ?_, ?_⟩
  · by_cases e : tkey (keyAt fl) (b + half n) (n - half n) = tkey (keyAt gl) (b + half n) (n - half n)
    · exact e
    · exact absurd (Or.inr e) hu
  · intro e
    apply h.2.2
    rw [subK_split fl (m := half n) (by omega), subK_split gl (m := half n) (by omega), hs, e]
/-- A clash: two unlike pairs with one key. -/
def isCl (c : List Int) : Prop := ∃ x y u v : List Int, c = x ++ (y ++ (u ++ v)) ∧ Is32 x ∧ Is32 y ∧ Is32 u ∧ Is32 v ∧ (x ≠ u ∨ y ≠ v) ∧ nodeK x y = nodeK u v
theorem tkey32 {fl : List Int} {N b n : Nat} (hl : fl.length = 32 * N) (fb : ∀ z ∈ fl, 0 ≤ z ∧ z ≤ 255) (h1 : 1 ≤ n) (hn : b + n ≤ N) : Is32 (tkey (keyAt fl) b n) :=
  ⟨tkey_len h1 (fun j hj => keyAt_len hl (by omega)), tkey_range h1 (fun j hj => keyAt_range fb _)⟩
theorem clK_is {fl gl : List Int} {N : Nat} (hl : fl.length = 32 * N) (hg : gl.length = 32 * N) (fb : ∀ z ∈ fl, 0 ≤ z ∧ z ≤ 255) (gb : ∀ z ∈ gl, 0 ≤ z ∧ z ≤ 255) : ∀ n b, b + n ≤ N → clO fl gl b n → isCl (clK fl gl b n) := by
  intro n
  induction n using Nat.strongRecOn with
  | _ n ih =>
    intro b hb ho
    have h1 := clO_two ho
    have a1 := half_pos n
    have a2 := half_lt (n := n) (by omega)
    by_cases hu : clU fl gl b n
    · rw [clK_here h1 hu]
      refine ⟨_, _, _, _, rfl, tkey32 hl fb a1 (by omega), tkey32 hl fb (by omega) (by omega), tkey32 hg gb a1 (by omega), tkey32 hg gb (by omega) (by omega), hu, ?_⟩
      rw [← tkey_two _ _ _ h1, ← tkey_two _ _ _ h1]
      exact ho.2.1
    · by_cases hs : subK fl b (half n) = subK gl b (half n)
      · rw [clK_right h1 hu hs]
        exact ih _ (by omega) _ (by omega) (clO_right ho hu hs)
      · rw [clK_left h1 hu hs]
        exact ih _ a2 _ (by omega) (clO_left ho hu hs)
theorem take_nextK {fl gl : List Int} {k n : Nat} (hf : fl.length = 32 * n) (hg : gl.length = 32 * n) (h : fl.take (32 * k) = gl.take (32 * k)) (he : keyAt fl k = keyAt gl k) : fl.take (32 * (k + 1)) = gl.take (32 * (k + 1)) := by
  rw [show 32 * (k + 1) = 32 * k + 32 by omega, List.take_add, List.take_add, h]
  unfold keyAt at he
  rw [he]
theorem take_otherK {fl gl : List Int} {k : Nat} (he : ¬ keyAt fl k = keyAt gl k) : fl ≠ gl := fun h => he (by rw [h])
set_option maxRecDepth 100000 in
set_option maxHeartbeats 4000000 in
theorem equal_impl (a b : Option Addr) (n m ca cb : Nat) (fl gl : List Int) (hn : n ≤ 1048576) (hm : m ≤ 1048576) (w : World) (hr : RdK w a n fl) (hs : RdK w b m gl) :
    Calls Try.prog 119 #[.slice a n ca, .slice b m cb] w fun e w' => e = .returned (.bool (decide (fl = gl))) ∧ Below w.heap.size w w' := by
  by_cases hnm : n = m
  · subst hnm
    have c0 : (0 : Int) ≤ (n : Int) := by omega
    have c1 : (n : Int) ≤ 1048576 := by omega
    have HR := Lib.hid hr
    have HS := Lib.hid hs
    have HFL := Lib.hid hr.1
    have HGL := Lib.hid hs.1
    have B0 := Lib.hid (Below.refl w.heap.size w)
    clear hr hs
    go_enter Try.func119, Try.ntmps119
    go_wp2_with fail
    go_loopw [13] (fun i wr => ∃ k : Nat, k ≤ n ∧ i = .int .i64 k ∧ fl.take (32 * k) = gl.take (32 * k) ∧ Below w.heap.size w wr) (fun i _ => n - (intOf i).toNat)
    case atStart => exact ⟨0, by omega, rfl, rfl, B0.out⟩
    case round =>
      obtain ⟨k, hk, rfl, ht, hb⟩ := hrel
      have HB := Lib.hid hb
      have HT := Lib.hid ht
      clear hb ht
      by_cases hlt : k < n
      · have b0 : (0 : Int) ≤ (k : Int) := by omega
        have b1 : (k : Int) < (n : Int) := by omega
        obtain ⟨ba, oa, rfl⟩ := HR.out.form (by omega)
        obtain ⟨bb, ob, rfl⟩ := HS.out.form (by omega)
        have K1 := Lib.hid ((HR.out.below HB.out).key k hlt)
        have K2 := Lib.hid ((HS.out.below HB.out).key k hlt)
        have L1 := Lib.hid (keyAt_len HFL.out hlt)
        have L2 := Lib.hid (keyAt_len HGL.out hlt)
        have Hq := Lib.hid (fun W => eqlIn2 (keyAt fl k) (keyAt gl k) L1.out L2.out W)
        by_cases he : keyAt fl k = keyAt gl k
        · have HN := Lib.hid (take_nextK HFL.out HGL.out HT.out he)
          rw [decide_eq_true he] at Hq
          clear he
          generalize keyAt fl k = x at K1 L1 Hq
          generalize keyAt gl k = y at K2 L2 Hq
          go_wp2_with fail
          refine wp_region_held_drew (S := Below (wr).heap.size (wr)) (by kernel_rfl) ((Below.refl _ _).drew) (fun hS => ?_)
          refine take_at (i := 0) (v := .slice (some ⟨ba, oa, none⟩) n ca) rfl rfl (by kernel_rfl) (by kernel_rfl) (by kernel_rfl) (fun _ _ _ h => h) (Or.inl ⟨by rfl, fun U hU => by go_simp⟩) hS ?_
          try simp only [List.setIfInBounds_toArray, List.set_cons_zero, List.set_cons_succ]
          refine take_at (i := 1) (v := .int .i64 (k : Int)) rfl rfl (by kernel_rfl) (by kernel_rfl) (by kernel_rfl) (fun _ _ _ h => h) (Or.inl ⟨by rfl, fun U hU => by go_simp⟩) hS ?_
          try simp only [List.setIfInBounds_toArray, List.set_cons_zero, List.set_cons_succ]
          refine take_at (i := 2) (v := .pointer (some ⟨ba, oa + k * 32, none⟩)) rfl rfl (by kernel_rfl) (by kernel_rfl) (by kernel_rfl) (fun _ _ _ h => h) (Or.inl ⟨by rfl, fun U hU => by go_simp⟩) hS ?_
          try simp only [List.setIfInBounds_toArray, List.set_cons_zero, List.set_cons_succ]
          refine take_at (i := 3) (v := .agg (ints .u8 x)) rfl rfl (by kernel_rfl) (by kernel_rfl) (by kernel_rfl) (fun _ _ _ h => h) (yieldsIf_load_mid (by rfl) 28 _ rfl ba (oa + k * 32) rfl (x.map (Value.int .u8)) _ (fun U hU => rangeAt_below K1.out hU) Try.underlying28 rfl (by rw [List.length_map, L1.out]; exact sizeKey)) hS ?_
          try simp only [List.setIfInBounds_toArray, List.set_cons_zero, List.set_cons_succ]
          refine take_at (i := 4) (v := .slice (some ⟨bb, ob, none⟩) n cb) rfl rfl (by kernel_rfl) (by kernel_rfl) (by kernel_rfl) (fun _ _ _ h => h) (Or.inl ⟨by rfl, fun U hU => by go_simp⟩) hS ?_
          try simp only [List.setIfInBounds_toArray, List.set_cons_zero, List.set_cons_succ]
          refine take_at (i := 5) (v := .int .i64 (k : Int)) rfl rfl (by kernel_rfl) (by kernel_rfl) (by kernel_rfl) (fun _ _ _ h => h) (Or.inl ⟨by rfl, fun U hU => by go_simp⟩) hS ?_
          try simp only [List.setIfInBounds_toArray, List.set_cons_zero, List.set_cons_succ]
          refine take_at (i := 6) (v := .pointer (some ⟨bb, ob + k * 32, none⟩)) rfl rfl (by kernel_rfl) (by kernel_rfl) (by kernel_rfl) (fun _ _ _ h => h) (Or.inl ⟨by rfl, fun U hU => by go_simp⟩) hS ?_
          try simp only [List.setIfInBounds_toArray, List.set_cons_zero, List.set_cons_succ]
          refine take_at (i := 7) (v := .agg (ints .u8 y)) rfl rfl (by kernel_rfl) (by kernel_rfl) (by kernel_rfl) (fun _ _ _ h => h) (yieldsIf_load_mid (by rfl) 28 _ rfl bb (ob + k * 32) rfl (y.map (Value.int .u8)) _ (fun U hU => rangeAt_below K2.out hU) Try.underlying28 rfl (by rw [List.length_map, L2.out]; exact sizeKey)) hS ?_
          try simp only [List.setIfInBounds_toArray, List.set_cons_zero, List.set_cons_succ]
          refine take_at (i := 8) (v := .bool false) rfl rfl (by kernel_rfl) (by kernel_rfl) (by kernel_rfl) (fun _ _ _ h => h) (Or.inl ⟨by rfl, fun U hU => by have hq := Hq.out U; go_simp⟩) hS ?_
          try simp only [List.setIfInBounds_toArray, List.set_cons_zero, List.set_cons_succ]
          refine wpAnyH_done (by kernel_rfl) ?_ _
          go_wp2_with fail
          go_roundw
          case rel => exact ⟨k + 1, by omega, by go_num, HN.out, HB.out.trans (hS.mono HB.out.size)⟩
          case measure => simp [intOf]; omega
        · have HD := Lib.hid (decide_eq_false (take_otherK he))
          rw [decide_eq_false he] at Hq
          clear he
          generalize keyAt fl k = x at K1 L1 Hq
          generalize keyAt gl k = y at K2 L2 Hq
          go_wp2_with fail
          refine wp_region_held_drew (S := Below (wr).heap.size (wr)) (by kernel_rfl) ((Below.refl _ _).drew) (fun hS => ?_)
          refine take_at (i := 0) (v := .slice (some ⟨ba, oa, none⟩) n ca) rfl rfl (by kernel_rfl) (by kernel_rfl) (by kernel_rfl) (fun _ _ _ h => h) (Or.inl ⟨by rfl, fun U hU => by go_simp⟩) hS ?_
          try simp only [List.setIfInBounds_toArray, List.set_cons_zero, List.set_cons_succ]
          refine take_at (i := 1) (v := .int .i64 (k : Int)) rfl rfl (by kernel_rfl) (by kernel_rfl) (by kernel_rfl) (fun _ _ _ h => h) (Or.inl ⟨by rfl, fun U hU => by go_simp⟩) hS ?_
          try simp only [List.setIfInBounds_toArray, List.set_cons_zero, List.set_cons_succ]
          refine take_at (i := 2) (v := .pointer (some ⟨ba, oa + k * 32, none⟩)) rfl rfl (by kernel_rfl) (by kernel_rfl) (by kernel_rfl) (fun _ _ _ h => h) (Or.inl ⟨by rfl, fun U hU => by go_simp⟩) hS ?_
          try simp only [List.setIfInBounds_toArray, List.set_cons_zero, List.set_cons_succ]
          refine take_at (i := 3) (v := .agg (ints .u8 x)) rfl rfl (by kernel_rfl) (by kernel_rfl) (by kernel_rfl) (fun _ _ _ h => h) (yieldsIf_load_mid (by rfl) 28 _ rfl ba (oa + k * 32) rfl (x.map (Value.int .u8)) _ (fun U hU => rangeAt_below K1.out hU) Try.underlying28 rfl (by rw [List.length_map, L1.out]; exact sizeKey)) hS ?_
          try simp only [List.setIfInBounds_toArray, List.set_cons_zero, List.set_cons_succ]
          refine take_at (i := 4) (v := .slice (some ⟨bb, ob, none⟩) n cb) rfl rfl (by kernel_rfl) (by kernel_rfl) (by kernel_rfl) (fun _ _ _ h => h) (Or.inl ⟨by rfl, fun U hU => by go_simp⟩) hS ?_
          try simp only [List.setIfInBounds_toArray, List.set_cons_zero, List.set_cons_succ]
          refine take_at (i := 5) (v := .int .i64 (k : Int)) rfl rfl (by kernel_rfl) (by kernel_rfl) (by kernel_rfl) (fun _ _ _ h => h) (Or.inl ⟨by rfl, fun U hU => by go_simp⟩) hS ?_
          try simp only [List.setIfInBounds_toArray, List.set_cons_zero, List.set_cons_succ]
          refine take_at (i := 6) (v := .pointer (some ⟨bb, ob + k * 32, none⟩)) rfl rfl (by kernel_rfl) (by kernel_rfl) (by kernel_rfl) (fun _ _ _ h => h) (Or.inl ⟨by rfl, fun U hU => by go_simp⟩) hS ?_
          try simp only [List.setIfInBounds_toArray, List.set_cons_zero, List.set_cons_succ]
          refine take_at (i := 7) (v := .agg (ints .u8 y)) rfl rfl (by kernel_rfl) (by kernel_rfl) (by kernel_rfl) (fun _ _ _ h => h) (yieldsIf_load_mid (by rfl) 28 _ rfl bb (ob + k * 32) rfl (y.map (Value.int .u8)) _ (fun U hU => rangeAt_below K2.out hU) Try.underlying28 rfl (by rw [List.length_map, L2.out]; exact sizeKey)) hS ?_
          try simp only [List.setIfInBounds_toArray, List.set_cons_zero, List.set_cons_succ]
          refine take_at (i := 8) (v := .bool true) rfl rfl (by kernel_rfl) (by kernel_rfl) (by kernel_rfl) (fun _ _ _ h => h) (Or.inl ⟨by rfl, fun U hU => by have hq := Hq.out U; go_simp⟩) hS ?_
          try simp only [List.setIfInBounds_toArray, List.set_cons_zero, List.set_cons_succ]
          refine wpAnyH_done (by kernel_rfl) ?_ _
          go_wp2_with fail
          go_ret
          exact ⟨by rw [HD.out]; rfl, HB.out.trans (hS.mono HB.out.size)⟩
      · obtain rfl : k = n := by omega
        have HD : Hid (decide (fl = gl) = true) := Lib.hid (by have h := HT.out; rw [List.take_of_length_le (by have := HFL.out; omega), List.take_of_length_le (by have := HGL.out; omega)] at h; exact decide_eq_true h)
        go_wp2_with fail
        go_ret
        exact ⟨by rw [HD.out]; rfl, HB.out⟩
  · have h1 : ¬ (n : Int) = (m : Int) := by omega
    have HD : Hid (decide (fl = gl) = false) := Lib.hid (decide_eq_false (fun e => by have h2 := hr.1; have h3 := hs.1; rw [e] at h2; omega))
    go_enter Try.func119, Try.ntmps119
    go_wp2
    go_ret
    exact ⟨by rw [HD.out]; rfl, Below.refl _ _⟩
set_option maxRecDepth 100000 in
set_option maxHeartbeats 4000000 in
theorem lists_spec (a b : Option Addr) (n m ca cb : Nat) (fl gl : List Int) (hn : n ≤ 1048576) (hm : m ≤ 1048576) (w : World) (hr : RdK w a n fl) (hs : RdK w b m gl) :
    Calls Try.prog 81 #[.slice a n ca, .slice b m cb] w fun e w' => e = .returned (.bool (decide (fl = gl))) ∧ Below w.heap.size w w' := by
  by_cases hnm : n = m
  · subst hnm
    have c0 : (0 : Int) ≤ (n : Int) := by omega
    have c1 : (n : Int) ≤ 1048576 := by omega
    have HR := Lib.hid hr
    have HS := Lib.hid hs
    have HFL := Lib.hid hr.1
    have HGL := Lib.hid hs.1
    have B0 := Lib.hid (Below.refl w.heap.size w)
    clear hr hs
    go_enter Try.func81, Try.ntmps81
    go_wp2_with fail
    go_loopw [5] (fun i wr => ∃ k : Nat, k ≤ n ∧ i = .int .i64 k ∧ fl.take (32 * k) = gl.take (32 * k) ∧ Below w.heap.size w wr) (fun i _ => n - (intOf i).toNat)
    case atStart => exact ⟨0, by omega, rfl, rfl, B0.out⟩
    case round =>
      obtain ⟨k, hk, rfl, ht, hb⟩ := hrel
      have HB := Lib.hid hb
      have HT := Lib.hid ht
      clear hb ht
      by_cases hlt : k < n
      · have b0 : (0 : Int) ≤ (k : Int) := by omega
        have b1 : (k : Int) < (n : Int) := by omega
        obtain ⟨ba, oa, rfl⟩ := HR.out.form (by omega)
        obtain ⟨bb, ob, rfl⟩ := HS.out.form (by omega)
        have K1 := Lib.hid ((HR.out.below HB.out).key k hlt)
        have K2 := Lib.hid ((HS.out.below HB.out).key k hlt)
        have L1 := Lib.hid (keyAt_len HFL.out hlt)
        have L2 := Lib.hid (keyAt_len HGL.out hlt)
        have Hq := Lib.hid (fun W => eqlIn2 (keyAt fl k) (keyAt gl k) L1.out L2.out W)
        by_cases he : keyAt fl k = keyAt gl k
        · have HN := Lib.hid (take_nextK HFL.out HGL.out HT.out he)
          rw [decide_eq_true he] at Hq
          clear he
          generalize keyAt fl k = x at K1 L1 Hq
          generalize keyAt gl k = y at K2 L2 Hq
          go_wp2_with fail
          refine wp_region_held_drew (S := Below (wr).heap.size (wr)) (by kernel_rfl) ((Below.refl _ _).drew) (fun hS => ?_)
          refine take_at (i := 0) (v := .slice (some ⟨ba, oa, none⟩) n ca) rfl rfl (by kernel_rfl) (by kernel_rfl) (by kernel_rfl) (fun _ _ _ h => h) (Or.inl ⟨by rfl, fun U hU => by go_simp⟩) hS ?_
          try simp only [List.setIfInBounds_toArray, List.set_cons_zero, List.set_cons_succ]
          refine take_at (i := 1) (v := .int .i64 (k : Int)) rfl rfl (by kernel_rfl) (by kernel_rfl) (by kernel_rfl) (fun _ _ _ h => h) (Or.inl ⟨by rfl, fun U hU => by go_simp⟩) hS ?_
          try simp only [List.setIfInBounds_toArray, List.set_cons_zero, List.set_cons_succ]
          refine take_at (i := 2) (v := .pointer (some ⟨ba, oa + k * 32, none⟩)) rfl rfl (by kernel_rfl) (by kernel_rfl) (by kernel_rfl) (fun _ _ _ h => h) (Or.inl ⟨by rfl, fun U hU => by go_simp⟩) hS ?_
          try simp only [List.setIfInBounds_toArray, List.set_cons_zero, List.set_cons_succ]
          refine take_at (i := 3) (v := .agg (ints .u8 x)) rfl rfl (by kernel_rfl) (by kernel_rfl) (by kernel_rfl) (fun _ _ _ h => h) (yieldsIf_load_mid (by rfl) 28 _ rfl ba (oa + k * 32) rfl (x.map (Value.int .u8)) _ (fun U hU => rangeAt_below K1.out hU) Try.underlying28 rfl (by rw [List.length_map, L1.out]; exact sizeKey)) hS ?_
          try simp only [List.setIfInBounds_toArray, List.set_cons_zero, List.set_cons_succ]
          refine take_at (i := 4) (v := .slice (some ⟨bb, ob, none⟩) n cb) rfl rfl (by kernel_rfl) (by kernel_rfl) (by kernel_rfl) (fun _ _ _ h => h) (Or.inl ⟨by rfl, fun U hU => by go_simp⟩) hS ?_
          try simp only [List.setIfInBounds_toArray, List.set_cons_zero, List.set_cons_succ]
          refine take_at (i := 5) (v := .int .i64 (k : Int)) rfl rfl (by kernel_rfl) (by kernel_rfl) (by kernel_rfl) (fun _ _ _ h => h) (Or.inl ⟨by rfl, fun U hU => by go_simp⟩) hS ?_
          try simp only [List.setIfInBounds_toArray, List.set_cons_zero, List.set_cons_succ]
          refine take_at (i := 6) (v := .pointer (some ⟨bb, ob + k * 32, none⟩)) rfl rfl (by kernel_rfl) (by kernel_rfl) (by kernel_rfl) (fun _ _ _ h => h) (Or.inl ⟨by rfl, fun U hU => by go_simp⟩) hS ?_
          try simp only [List.setIfInBounds_toArray, List.set_cons_zero, List.set_cons_succ]
          refine take_at (i := 7) (v := .agg (ints .u8 y)) rfl rfl (by kernel_rfl) (by kernel_rfl) (by kernel_rfl) (fun _ _ _ h => h) (yieldsIf_load_mid (by rfl) 28 _ rfl bb (ob + k * 32) rfl (y.map (Value.int .u8)) _ (fun U hU => rangeAt_below K2.out hU) Try.underlying28 rfl (by rw [List.length_map, L2.out]; exact sizeKey)) hS ?_
          try simp only [List.setIfInBounds_toArray, List.set_cons_zero, List.set_cons_succ]
          refine take_at (i := 8) (v := .bool false) rfl rfl (by kernel_rfl) (by kernel_rfl) (by kernel_rfl) (fun _ _ _ h => h) (Or.inl ⟨by rfl, fun U hU => by have hq := Hq.out U; go_simp⟩) hS ?_
          try simp only [List.setIfInBounds_toArray, List.set_cons_zero, List.set_cons_succ]
          refine wpAnyH_done (by kernel_rfl) ?_ _
          go_wp2_with fail
          go_roundw
          case rel => exact ⟨k + 1, by omega, by go_num, HN.out, HB.out.trans (hS.mono HB.out.size)⟩
          case measure => simp [intOf]; omega
        · have HD := Lib.hid (decide_eq_false (take_otherK he))
          rw [decide_eq_false he] at Hq
          clear he
          generalize keyAt fl k = x at K1 L1 Hq
          generalize keyAt gl k = y at K2 L2 Hq
          go_wp2_with fail
          refine wp_region_held_drew (S := Below (wr).heap.size (wr)) (by kernel_rfl) ((Below.refl _ _).drew) (fun hS => ?_)
          refine take_at (i := 0) (v := .slice (some ⟨ba, oa, none⟩) n ca) rfl rfl (by kernel_rfl) (by kernel_rfl) (by kernel_rfl) (fun _ _ _ h => h) (Or.inl ⟨by rfl, fun U hU => by go_simp⟩) hS ?_
          try simp only [List.setIfInBounds_toArray, List.set_cons_zero, List.set_cons_succ]
          refine take_at (i := 1) (v := .int .i64 (k : Int)) rfl rfl (by kernel_rfl) (by kernel_rfl) (by kernel_rfl) (fun _ _ _ h => h) (Or.inl ⟨by rfl, fun U hU => by go_simp⟩) hS ?_
          try simp only [List.setIfInBounds_toArray, List.set_cons_zero, List.set_cons_succ]
          refine take_at (i := 2) (v := .pointer (some ⟨ba, oa + k * 32, none⟩)) rfl rfl (by kernel_rfl) (by kernel_rfl) (by kernel_rfl) (fun _ _ _ h => h) (Or.inl ⟨by rfl, fun U hU => by go_simp⟩) hS ?_
          try simp only [List.setIfInBounds_toArray, List.set_cons_zero, List.set_cons_succ]
          refine take_at (i := 3) (v := .agg (ints .u8 x)) rfl rfl (by kernel_rfl) (by kernel_rfl) (by kernel_rfl) (fun _ _ _ h => h) (yieldsIf_load_mid (by rfl) 28 _ rfl ba (oa + k * 32) rfl (x.map (Value.int .u8)) _ (fun U hU => rangeAt_below K1.out hU) Try.underlying28 rfl (by rw [List.length_map, L1.out]; exact sizeKey)) hS ?_
          try simp only [List.setIfInBounds_toArray, List.set_cons_zero, List.set_cons_succ]
          refine take_at (i := 4) (v := .slice (some ⟨bb, ob, none⟩) n cb) rfl rfl (by kernel_rfl) (by kernel_rfl) (by kernel_rfl) (fun _ _ _ h => h) (Or.inl ⟨by rfl, fun U hU => by go_simp⟩) hS ?_
          try simp only [List.setIfInBounds_toArray, List.set_cons_zero, List.set_cons_succ]
          refine take_at (i := 5) (v := .int .i64 (k : Int)) rfl rfl (by kernel_rfl) (by kernel_rfl) (by kernel_rfl) (fun _ _ _ h => h) (Or.inl ⟨by rfl, fun U hU => by go_simp⟩) hS ?_
          try simp only [List.setIfInBounds_toArray, List.set_cons_zero, List.set_cons_succ]
          refine take_at (i := 6) (v := .pointer (some ⟨bb, ob + k * 32, none⟩)) rfl rfl (by kernel_rfl) (by kernel_rfl) (by kernel_rfl) (fun _ _ _ h => h) (Or.inl ⟨by rfl, fun U hU => by go_simp⟩) hS ?_
          try simp only [List.setIfInBounds_toArray, List.set_cons_zero, List.set_cons_succ]
          refine take_at (i := 7) (v := .agg (ints .u8 y)) rfl rfl (by kernel_rfl) (by kernel_rfl) (by kernel_rfl) (fun _ _ _ h => h) (yieldsIf_load_mid (by rfl) 28 _ rfl bb (ob + k * 32) rfl (y.map (Value.int .u8)) _ (fun U hU => rangeAt_below K2.out hU) Try.underlying28 rfl (by rw [List.length_map, L2.out]; exact sizeKey)) hS ?_
          try simp only [List.setIfInBounds_toArray, List.set_cons_zero, List.set_cons_succ]
          refine take_at (i := 8) (v := .bool true) rfl rfl (by kernel_rfl) (by kernel_rfl) (by kernel_rfl) (fun _ _ _ h => h) (Or.inl ⟨by rfl, fun U hU => by have hq := Hq.out U; go_simp⟩) hS ?_
          try simp only [List.setIfInBounds_toArray, List.set_cons_zero, List.set_cons_succ]
          refine wpAnyH_done (by kernel_rfl) ?_ _
          go_wp2_with fail
          go_ret
          exact ⟨by rw [HD.out]; rfl, HB.out.trans (hS.mono HB.out.size)⟩
      · obtain rfl : k = n := by omega
        have HD : Hid (decide (fl = gl) = true) := Lib.hid (by have h := HT.out; rw [List.take_of_length_le (by have := HFL.out; omega), List.take_of_length_le (by have := HGL.out; omega)] at h; exact decide_eq_true h)
        go_wp2_with fail
        go_ret
        exact ⟨by rw [HD.out]; rfl, HB.out⟩
  · have h1 : ¬ (n : Int) = (m : Int) := by omega
    have HD : Hid (decide (fl = gl) = false) := Lib.hid (decide_eq_false (fun e => by have h2 := hr.1; have h3 := hs.1; rw [e] at h2; omega))
    go_enter Try.func81, Try.ntmps81
    go_wp2
    go_ret
    exact ⟨by rw [HD.out]; rfl, Below.refl _ _⟩
end Go.Proofs.Ytjijgckljjcfiaa
