/- NearestKeys: both programs whole. Written by hand. -/
import Derived.Test.YtnnplebebhjfaabNeI
namespace Go.Proofs.Ytnnplebebhjfaab
open Go.ChangeShapes Go.WideShapes Go.ChangeAt Go.RowKit
set_option linter.unusedVariables false
set_option linter.unusedSimpArgs false
open Go.Sort Go.Shelf
/-- The nearest keys. -/
noncomputable def nearK (f fl : List Int) (n : Nat) (c : Int) : List KeyS := (sortD f (onceK (ksL fl n))).take c.toNat
theorem nearK_le (f fl : List Int) (n : Nat) (c : Int) : (nearK f fl n c).length ≤ n := by
  unfold nearK
  rw [List.length_take, (sortD_perm f _).length_eq]
  have := onceK_len n _ (ksL_len fl n)
  omega
theorem flatK_take : ∀ (S : List KeyS) (m : Nat), flatK (S.take m) = (flatK S).take (m * 32)
  | [], m => by simp [flatK]
  | x :: S, 0 => by simp [flatK]
  | x :: S, m + 1 => by
    show x.1 ++ flatK (S.take m) = (x.1 ++ flatK S).take ((m + 1) * 32)
    rw [flatK_take S m, List.take_append, List.take_of_length_le (l := x.1) (by rw [x.2.1]; omega), x.2.1]
    congr 2
    omega
theorem owns_pre {w : World} {base n m cap : Nat} {a : Option Addr} {S : List KeyS} (h : w.ownsRow base 44 32 (.slice a n cap) n ((flatK S).map (Value.int .u8))) (hm : m ≤ n) (hS : S.length = n) :
    w.ownsRow base 44 32 (.slice a m cap) m ((flatK (S.take m)).map (Value.int .u8)) := by
  obtain ⟨h1, h2⟩ := h
  refine ⟨by rw [List.length_map, flatK_len, List.length_take]; omega, ?_⟩
  rcases h2 with ⟨h2, h3⟩ | ⟨g, c, cur, hv, hb, hg, k1, k2, k3, k4⟩
  · cases h2
    have : m = 0 := by omega
    subst this
    exact Or.inl ⟨rfl, rfl⟩
  · cases hv
    refine Or.inr ⟨g, cap, cur, rfl, hb, hg, by omega, k2, k3, ?_⟩
    rw [flatK_take, List.map_take, ← k4, List.take_take, Nat.min_eq_left (by omega)]
set_option maxRecDepth 100000 in
set_option maxHeartbeats 2000000 in
theorem near_impl (b : Option Addr) (n cap : Nat) (fl f : List Int) (c : Int) (hc : -9223372036854775808 ≤ c ∧ c ≤ 9223372036854775807) (hn : n ≤ 1048576) (hf : ∀ y ∈ fl, 0 ≤ y ∧ y ≤ 255) (hF : IsK f) (w : World) (hk : RdK w b n fl) :
    Calls Try.prog 30 #[.slice b n cap, .agg (ints .u8 f), .int .i64 c] w fun e w' => ∃ v, e = .returned (.tuple #[v, .int .i64 (if n ≤ 256 then (if 0 ≤ c ∧ c ≤ 256 then 0 else 2) else 3)]) ∧ w'.ownsRow w.heap.size 44 32 v (if n ≤ 256 ∧ 0 ≤ c ∧ c ≤ 256 then (nearK f fl n c).length else 0) ((flatK (if n ≤ 256 ∧ 0 ≤ c ∧ c ≤ 256 then nearK f fl n c else [])).map (Value.int .u8)) ∧ Below w.heap.size w w' := by
  have BA := Lib.hid (show Below w.heap.size w (w.alloc (.cells (ints .u8 f) 44)) by go_grown)
  have Ho := Lib.hid (once_impl b n cap fl hn hf _ (hk.below BA.out))
  have XA := Lib.hid (heap_alloc_last w (.cells (ints .u8 f) 44))
  have FK := Lib.hid hF
  have hol := onceK_len n _ (ksL_len fl n)
  unfold nearK
  generalize onceK (ksL fl n) = ss at Ho hol ⊢
  obtain ⟨hc1, hc2⟩ := hc
  clear hk hf hF
  have z1 : (0 : Int) ≤ (n : Int) := by omega
  have z2 : (n : Int) ≤ 1048576 := by omega
  by_cases hq : n ≤ 256
  · have z3 : ¬ (256 : Int) < (n : Int) := by omega
    rw [if_pos hq]
    by_cases hcc : 0 ≤ c ∧ c ≤ 256
    · rw [if_pos hcc, if_pos ⟨hq, hcc⟩, if_pos ⟨hq, hcc⟩]
      obtain ⟨y1, y2⟩ := hcc
      obtain ⟨m, rfl⟩ : ∃ m : Nat, c = (m : Int) := ⟨c.toNat, by omega⟩
      have y3 : ¬ (m : Int) < 0 := by omega
      have y4 : ¬ 256 < (m : Int) := by omega
      go_enter Try.func30, Try.ntmps30
      go_upto_region 6 with (go_at_call 53; refine Ho.out.mono ?_; rintro e w1 ⟨v, rfl, hrow, hb⟩)
      have X1 := Lib.hid (keep_block XA.out hb)
      have B1 := Lib.hid (below_call BA.out BA.out.size hb)
      clear hb
      obtain ⟨_, hrow | ⟨g, cap, cur, rfl, hbase, hcb, h1, h2, h3, h4⟩⟩ := hrow
      · obtain ⟨rfl, h0⟩ := hrow
        have he : ss = [] := List.eq_nil_of_length_eq_zero h0
        subst he
        have hsn := Lib.hid (fun fv => sort_none none 0 fv)
        go_wp2_with (go_at_call 58; refine (hsn.out _ _).mono ?_; rintro e w2 ⟨rfl, rfl⟩)
        go_returns
        have e0 : sortD f [] = [] := List.mergeSort_nil
        have e1 : (min (m : Int) 0).toNat = 0 := by omega
        simp only [e0, List.take_nil, e1]
        exact ⟨_, rfl, ⟨rfl, .inl ⟨rfl, rfl⟩⟩, B1.out⟩
      · have hH : HoldsK encL 32 w1 g 0 ss.toArray := holds_keys rfl hcb h4
        have hg : g < w1.heap.size := (Array.getElem?_eq_some_iff.1 hcb).1
        have hbs : w.heap.size + 1 ≤ g := by simpa using hbase
        have hsf := Lib.hid (sort_near w.heap.size f FK.out g cap ss w1 hH hg (by omega) (Nat.lt_of_lt_of_le (by omega) (Nat.le_of_lt hg)) (fun e => by omega) X1.out)
        have HC := Lib.hid hcb
        have BB := Lib.hid hbs
        have GG := Lib.hid hg
        have C1 := Lib.hid h1
        have C2 := Lib.hid h2
        have C3 := Lib.hid h3
        clear hcb hH h4 Ho hbase hbs hg h1 h2 h3
        go_upto_region 7 with (go_at_call 58; refine hsf.out.mono ?_; rintro e w2 ⟨rfl, q, os, rfl⟩)
        have hol2 : (sortD f ss).length = ss.length := (sortD_perm f ss).length_eq
        have OW := Lib.hid (owns_sortedK (n := q) (os := os) (ts := sortD f ss) (base := w.heap.size) hol2 (Nat.le_of_succ_le BB.out) HC.out C1.out C2.out C3.out)
        have B2 := Lib.hid (B1.out.trans (below_sorted (w := w1) (base := w.heap.size) (g := g) (n := q) (os := os) (sortD f ss).toArray (Nat.le_of_succ_le BB.out) GG.out))
        generalize sortWorldK encL 32 w1 g 0 q (sortD f ss).toArray os = w2 at OW B2 ⊢
        have y5 : (0 : Int) ≤ (ss.length : Int) := by omega
        have y6 : (ss.length : Int) ≤ 256 := by omega
        have HL := Lib.hid hol2
        have hcap : ss.length ≤ cap := C1.out
        clear hsf hol2
        go_wp2_with fail
        go_returns
        have em : (min (m : Int) (ss.length : Int)).toNat = ((sortD f ss).take m).length := by rw [List.length_take, HL.out]; omega
        have hp := owns_pre (m := ((sortD f ss).take m).length) OW.out (by rw [List.length_take, HL.out]; omega) HL.out
        have e2 : (sortD f ss).take ((sortD f ss).take m).length = (sortD f ss).take m := by
          rw [List.length_take, List.take_eq_take_iff]
          omega
        rw [e2] at hp
        refine ⟨_, rfl, ?_, B2.out⟩
        show w2.ownsRow w.heap.size 44 32 (.slice (some ⟨g, 0, none⟩) (min (m : Int) (ss.length : Int)).toNat cap) _ _
        rw [em]
        simpa using hp
    · rw [if_neg hcc, if_neg (fun h => hcc h.2), if_neg (fun h => hcc h.2)]
      by_cases y3 : c < 0
      · go_enter Try.func30, Try.ntmps30
        go_wp2_with fail
        go_returns
        exact ⟨_, rfl, ⟨rfl, .inl ⟨rfl, rfl⟩⟩, BA.out⟩
      · have y4 : 256 < c := by omega
        go_enter Try.func30, Try.ntmps30
        go_wp2_with fail
        go_returns
        exact ⟨_, rfl, ⟨rfl, .inl ⟨rfl, rfl⟩⟩, BA.out⟩
  · rw [if_neg hq, if_neg (fun h => hq h.1), if_neg (fun h => hq h.1)]
    have z3 : (256 : Int) < (n : Int) := by omega
    go_enter Try.func30, Try.ntmps30
    go_wp2_with fail
    go_returns
    exact ⟨_, rfl, ⟨rfl, .inl ⟨rfl, rfl⟩⟩, BA.out⟩
theorem in00 (n a b : Int) (w : World) : Calls Try.prog 56 #[.int .i64 n, .int .i64 a, .int .i64 b] w fun e w' => e = .returned (.bool (decide (a ≤ n) && decide (n ≤ b))) ∧ w = w' := by
  by_cases h1 : a ≤ n <;> by_cases h2 : n ≤ b
  all_goals
    go_enter Try.func56, Try.ntmps56
    go_wp2
    go_ret
    exact ⟨by simp [h1, h2], rfl⟩
theorem min00 (a b : Int) (w : World) : Calls Try.prog 57 #[.int .i64 a, .int .i64 b] w fun e w' => e = .returned (.int .i64 (min a b)) ∧ w = w' := by
  by_cases h : a < b
  · have e : min a b = a := by omega
    rw [e]
    go_enter Try.func57, Try.ntmps57
    go_wp2
    go_ret
    exact ⟨rfl, rfl⟩
  · have e : min a b = b := by omega
    rw [e]
    go_enter Try.func57, Try.ntmps57
    go_wp2
    go_ret
    exact ⟨rfl, rfl⟩
set_option maxRecDepth 100000 in
set_option maxHeartbeats 600000 in
theorem near_spec (b : Option Addr) (n cap : Nat) (fl f : List Int) (c : Int) (hc : -9223372036854775808 ≤ c ∧ c ≤ 9223372036854775807) (hn : n ≤ 1048576) (hf : ∀ y ∈ fl, 0 ≤ y ∧ y ≤ 255) (hF : IsK f) (w : World) (hk : RdK w b n fl) :
    Calls Try.prog 28 #[.slice b n cap, .agg (ints .u8 f), .int .i64 c] w fun e w' => ∃ v, e = .returned (.tuple #[v, .int .i64 (if n ≤ 256 then (if 0 ≤ c ∧ c ≤ 256 then 0 else 2) else 3)]) ∧ w'.ownsRow w.heap.size 44 32 v (if n ≤ 256 ∧ 0 ≤ c ∧ c ≤ 256 then (nearK f fl n c).length else 0) ((flatK (if n ≤ 256 ∧ 0 ≤ c ∧ c ≤ 256 then nearK f fl n c else [])).map (Value.int .u8)) ∧ Below w.heap.size w w' := by
  have BA := Lib.hid (show Below w.heap.size w (w.alloc (.cells (ints .u8 f) 44)) by go_grown)
  have Ho := Lib.hid (sort_spec b n cap fl f hn hf hF (xorK_inj hF.1) _ (hk.below BA.out))
  have XA := Lib.hid (heap_alloc_last w (.cells (ints .u8 f) 44))
  have FK := Lib.hid hF
  have hol := onceK_len n _ (ksL_len fl n)
  unfold nearK
  generalize onceK (ksL fl n) = ss at Ho hol ⊢
  obtain ⟨hc1, hc2⟩ := hc
  have Hin := Lib.hid (fun U => in00 c 0 256 U)
  clear hk hf hF
  have z1 : (0 : Int) ≤ (n : Int) := by omega
  have z2 : (n : Int) ≤ 1048576 := by omega
  have NIL := Lib.hid (fun (U : World) (base : Nat) (h : base ≤ U.heap.size) (k : Nat) (e : U.heap.size = k) => (show (U.alloc (.cells #[] 44)).ownsRow base 44 32 (.slice (some ⟨k, 0, none⟩) 0 0) 0 ((flatK []).map (Value.int .u8)) from by subst e; exact ⟨rfl, .inr ⟨U.heap.size, 0, #[], rfl, h, heap_alloc_last _ _, Nat.le_refl _, by unfold maxLen; omega, rfl, rfl⟩⟩))
  by_cases hq : n ≤ 256
  · have z3 : ¬ (256 : Int) < (n : Int) := by omega
    rw [if_pos hq]
    by_cases hcc : 0 ≤ c ∧ c ≤ 256
    · rw [if_pos hcc, if_pos ⟨hq, hcc⟩, if_pos ⟨hq, hcc⟩]
      obtain ⟨y1, y2⟩ := hcc
      obtain ⟨m, rfl⟩ : ∃ m : Nat, c = (m : Int) := ⟨c.toNat, by omega⟩
      rw [decide_eq_true y1, decide_eq_true y2] at Hin
      go_enter Try.func28, Try.ntmps28
      go_upto_region 6 with (first
        | (go_at_call 56; refine (Hin.out _).mono ?_; rintro e w3 ⟨rfl, rfl⟩)
        | (refine wpList_load_row rfl 44 _ rfl w.heap.size rfl 44 (ints .u8 f) (0, 0) _ XA.out Try.underlying44 rfl (by rw [ints_size, FK.out.1]; exact sizeKey) ?_)
        | (go_at_call 48; refine Ho.out.mono ?_; rintro e w1 ⟨v, acc, rfl, hp, ha, hrow, hb⟩))
      have B2 := Lib.hid (below_call BA.out BA.out.size hb)
      have hacc := sortD_of FK.out.1 hp ha
      have hl : acc.length = ss.length := hp.length_eq
      obtain ⟨oa, oc, rfl, _⟩ := rdkO (by rw [flatK_len]) hrow
      have OW := Lib.hid (row_monoO (base := w.heap.size) hrow (by simp))
      have HA := Lib.hid hacc
      have hm0 : acc.length ≤ 256 := by omega
      rcases OW.out.2 with ⟨e, h0⟩ | ⟨g, cap2, cur, e, hbase, hcb, h1, h2, h3, h4⟩
      · obtain ⟨rfl, _, rfl⟩ := Value.slice.inj e
        have he : acc = [] := List.eq_nil_of_length_eq_zero h0
        subst he
        simp only [List.length_nil]
        have HM := Lib.hid (fun U => min00 (m : Int) (0 : Int) U)
        clear hrow hb hp ha hacc Ho e h0 hm0 OW
        go_wp2_with (go_at_call 57; refine (HM.out _).mono ?_; rintro e w3 ⟨rfl, rfl⟩)
        go_returns
        have e1 : (min (m : Int) 0).toNat = 0 := by omega
        simp only [← HA.out, List.take_nil, e1]
        exact ⟨_, rfl, ⟨rfl, .inl ⟨rfl, rfl⟩⟩, B2.out⟩
      · obtain ⟨rfl, _, rfl⟩ := Value.slice.inj e
        have HM := Lib.hid (fun U => min00 (m : Int) (acc.length : Int) U)
        have y5 : (0 : Int) ≤ (acc.length : Int) := by omega
        have y6 : (acc.length : Int) ≤ 256 := by omega
        have y7 : (min (m : Int) (acc.length : Int)) ≤ (acc.length : Int) := by omega
        have y8 : 0 ≤ (min (m : Int) (acc.length : Int)) := by omega
        clear hrow hb hp ha hacc Ho e hbase hcb h2 h3 h4 hl
        go_wp2_with (go_at_call 57; refine (HM.out _).mono ?_; rintro e w3 ⟨rfl, rfl⟩)
        go_returns
        rw [← HA.out]
        have em : (min (m : Int) (acc.length : Int)).toNat = (acc.take m).length := by rw [List.length_take]; omega
        have hp := owns_pre (m := (acc.take m).length) OW.out (by rw [List.length_take]; omega) rfl
        have e2 : acc.take (acc.take m).length = acc.take m := by
          rw [List.length_take, List.take_eq_take_iff]
          omega
        rw [e2] at hp
        refine ⟨_, rfl, ?_, B2.out⟩
        show World.ownsRow _ w.heap.size 44 32 (.slice (some ⟨g, 0, none⟩) (min (m : Int) (acc.length : Int)).toNat oc) _ _
        rw [em]
        simpa using hp
    · rw [if_neg hcc, if_neg (fun h => hcc h.2), if_neg (fun h => hcc h.2)]
      have hd : (decide (0 ≤ c) && decide (c ≤ 256)) = false := by simpa using hcc
      rw [hd] at Hin
      clear hd
      go_enter Try.func28, Try.ntmps28
      go_wp2_with (go_at_call 56; refine (Hin.out _).mono ?_; rintro e w3 ⟨rfl, rfl⟩)
      go_returns
      exact ⟨_, rfl, NIL.out _ _ BA.out.size _ (World.size_alloc _ _), by go_grown⟩
  · rw [if_neg hq, if_neg (fun h => hq h.1), if_neg (fun h => hq h.1)]
    have z3 : (256 : Int) < (n : Int) := by omega
    go_enter Try.func28, Try.ntmps28
    go_wp2_with fail
    go_returns
    exact ⟨_, rfl, NIL.out _ _ BA.out.size _ (World.size_alloc _ _), by go_grown⟩
end Go.Proofs.Ytnnplebebhjfaab
