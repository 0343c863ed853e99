/- The nodes above a leaf: the program's stack of turns. Written by wip/gen/turns.py. -/
import Derived.Test.YtjijgckljjcfiaaPush
namespace Go.Proofs.Ytjijgckljjcfiaa
open Go.ChangeShapes Go.WideShapes Go.ChangeAt Go.RowKit
set_option linter.unusedVariables false
set_option linter.unusedSimpArgs false
/-- The nodes above the leaf i of the n ones from b on, from the top down: whether it is in the right part, and the other part. -/
def tns (b n i : Nat) : List (Bool × Nat × Nat) :=
  if h : n ≤ 1 then [] else if i < b + half n then (false, b + half n, b + n) :: tns b (half n) i else (true, b, b + half n) :: tns (b + half n) (n - half n) i
termination_by n
decreasing_by
  · exact half_lt (by omega)
  · have := half_pos n; have := half_lt (n := n) (by omega); omega
theorem tns_one {b n i : Nat} (h : n ≤ 1) : tns b n i = [] := by rw [tns, dif_pos h]
theorem tns_left {b n i : Nat} (h : 1 < n) (h1 : i < b + half n) : tns b n i = (false, b + half n, b + n) :: tns b (half n) i := by rw [tns, dif_neg (by omega), if_pos h1]
theorem tns_right {b n i : Nat} (h : 1 < n) (h1 : ¬ i < b + half n) : tns b n i = (true, b, b + half n) :: tns (b + half n) (n - half n) i := by rw [tns, dif_neg (by omega), if_neg h1]
theorem tns_len : ∀ n b i, (tns b n i).length ≤ n := by
  intro n
  induction n using Nat.strongRecOn with
  | _ n ih =>
    intro b i
    by_cases h : n ≤ 1
    · rw [tns_one h]; simp
    · have h1 := half_pos n
      have h2 := half_lt (n := n) (by omega)
      by_cases h3 : i < b + half n
      · rw [tns_left (by omega) h3]
        have := ih (half n) h2 b i
        simp; omega
      · rw [tns_right (by omega) h3]
        have := ih (n - half n) (by omega) (b + half n) i
        simp; omega
/-- The cells of a turn. -/
def tcs (t : Bool × Nat × Nat) : List Value := [.bool t.1, .int .i64 (t.2.1 : Int), .int .i64 (t.2.2 : Int)]
def tcl (l : List (Bool × Nat × Nat)) : List Value := l.flatMap tcs
theorem tcl_snoc (l : List (Bool × Nat × Nat)) (t : Bool × Nat × Nat) : tcl (l ++ [t]) = tcl l ++ tcs t := by simp [tcl]
set_option maxRecDepth 100000 in
set_option maxHeartbeats 2000000 in
theorem cloneT0 (b : Nat) (w : World) :
    Calls Try.prog 130 #[.slice (some ⟨b, 0, none⟩) 0 0] w fun e w' => ∃ v, e = .returned v ∧ w'.ownsRow w.heap.size 141 3 v 0 [] ∧ Below w.heap.size w w' := by
  obtain ⟨i0, z0, hi, hz0, hz1, hz2, hzs⟩ := turnParts
  have Hi := Lib.hid hi
  have heq : ∀ W, (binOp .eql 84 (.slice (some ⟨b, 0, none⟩) 0 0) (.slice none 0 0)).run Try.prog W = .ok (.bool false) W := fun W => by
    simp [binOp, go_sem, run_equal_slice_nil W 84 141 (some ⟨b, 0, none⟩) 0 0 Try.underlying84]
  have B1 := Lib.hid ((Below.refl w.heap.size w).alloc (Nat.le_refl _) (.cells #[] 141))
  have O1 := Lib.hid (owns_empty w 141 3)
  clear hi
  go_enter Try.func130, Try.ntmps130
  go_wp2_with (refine wpList_append_ran rfl _ _ 84 84 rfl _ _ rfl rfl (run_append_zero 84 _ 141 i0 3 Try.underlying84 Hi.out _ 0 [] O1.out _ _) ?_)
  go_ret
  exact ⟨_, rfl, O1.out, B1.out⟩
set_option maxRecDepth 100000 in
set_option maxHeartbeats 1000000 in
theorem stackT0 (b : Nat) (w : World) :
    Calls Try.prog 110 #[.slice (some ⟨b, 0, none⟩) 0 0] w fun e w' => ∃ g v, e = .returned (.pointer (some ⟨g, 0, none⟩)) ∧ w'.heap[g]? = some (.cells #[v] 86) ∧ w'.ownsRow w.heap.size 141 3 v 0 [] ∧ w.heap.size ≤ g ∧ g < w'.heap.size ∧ Below w.heap.size w w' := by
  have Hc := Lib.hid (cloneT0 b w)
  go_enter Try.func110, Try.ntmps110
  go_wp2_with fail
  refine Hc.out.mono ?_
  rintro e w1 ⟨v, rfl, hown, hb⟩
  obtain ⟨a1, c1, hv⟩ := owns_slc hown
  subst hv
  have O1 := Lib.hid hown
  have B1 := Lib.hid hb
  clear hown hb Hc
  go_wp2_with fail
  go_ret
  exact ⟨w1.heap.size, _, rfl, heap_alloc_last _ _, owns_below O1.out ((Below.refl _ _).alloc (Nat.le_refl _) _), B1.out.size, by simp, B1.out.alloc B1.out.size _⟩
theorem owns_setRow_ne {g base e n size : Nat} {w : World} {v : Value} {xs : List Value} {cs : Array Value} (hb : v.ownBlock ≠ some g) (o : w.ownsRow base e size v n xs) : (w.setRow g cs).ownsRow base e size v n xs := by
  refine ⟨o.1, ?_⟩
  rcases o.2 with h0 | ⟨c, cap, cur, hv, hc, hh, r⟩
  · exact Or.inl h0
  · exact Or.inr ⟨c, cap, cur, hv, hc, (setRow_other _ _ _ _ (fun e => hb (by rw [hv]; simp [Value.ownBlock]; exact e))).trans hh, r⟩
def spanN (W : World) : Value → Nat
  | .pointer (some a) => (match W.heap[a.block]? with
    | some (Obj.cells cs _ _) => (match cs[0]?, cs[1]? with | some (Value.int _ b), some (Value.int _ e) => (e - b).toNat | _, _ => 0)
    | _ => 0)
  | _ => 0
theorem spanN_of {W : World} {h b n : Nat} {t : TypeId} {fr : Nat × Nat} (hh : W.heap[h]? = some (.cells (spanA b (b + n)) t fr)) : spanN W (.pointer (some ⟨h, 0, none⟩)) = n := by
  simp only [spanN, hh, spanA]
  simp
  omega
theorem spanN_of2 {W : World} {h b e : Nat} {t : TypeId} {fr : Nat × Nat} (hb : b ≤ e) (hh : W.heap[h]? = some (.cells (spanA b e) t fr)) : spanN W (.pointer (some ⟨h, 0, none⟩)) = e - b := by
  simp only [spanN, hh, spanA]
  simp
theorem laid1_below (u : World) (z c : Array Value) (t : TypeId) : Below u.heap.size u ((u.alloc (.cells z t)).setRow u.heap.size c) := laid_below u z c t
set_option maxRecDepth 100000 in
set_option maxHeartbeats 8000000 in
theorem turns_impl (N i : Nat) (hi : i < N) (hN : N ≤ 1048576) (w : World) :
    Calls Try.prog 65 #[.int .i64 (N : Int), .int .i64 (i : Int)] w fun e w' => ∃ g v, e = .returned (.pointer (some ⟨g, 0, none⟩)) ∧ w'.heap[g]? = some (.cells #[v] 86) ∧ w'.ownsRow w.heap.size 141 3 v (tns 0 N i).length (tcl (tns 0 N i)) ∧ w.heap.size ≤ g ∧ g < w'.heap.size ∧ Below w.heap.size w w' := by
  have Hs := Lib.hid (fun b W => stackT0 b W)
  have HLEN := Lib.hid (tns_len N 0 i)
  have B1 := Lib.hid ((Below.refl w.heap.size w).alloc (Nat.le_refl _) (.cells #[] 141))
  go_enter Try.func65, Try.ntmps65
  go_wp2_with fail
  refine (Hs.out _ _).mono ?_
  rintro e w2 ⟨g, v0, rfl, hg, ho, hg1, hg2, hb⟩
  have G2 := Lib.hid hg
  have O2 := Lib.hid (owns_base (base := w.heap.size) (by simp) ho)
  have HG1 := Lib.hid (show w.heap.size ≤ g from Nat.le_trans (by simp) hg1)
  have HG2 := Lib.hid hg2
  have B2 := Lib.hid (B1.out.trans (hb.mono B1.out.size))
  clear hg ho hg1 hg2 hb B1
  have B3 := Lib.hid (below_call B2.out B2.out.size (laid_below w2 #[.int .i64 0, .int .i64 0] (spanA 0 N) 96))
  have G3 := Lib.hid (laid_old #[.int .i64 0, .int .i64 0] (spanA 0 N) 96 G2.out)
  have O3 := Lib.hid (owns_below O2.out (laid_below w2 #[.int .i64 0, .int .i64 0] (spanA 0 N) 96))
  have H3 := Lib.hid (laid_new w2 #[.int .i64 0, .int .i64 0] (spanA 0 N) 96)
  have HV3 : Hid (∀ q, v0.ownBlock = some q → q < w2.heap.size) := Lib.hid (fun q h => (O2.out.lt q h).2)
  go_wp2_with (refine wpList_store_row rfl 96 (.tmp 6) _ rfl (w2.heap.size) (spanA 0 N) rfl rfl 96 (#[.int .i64 0, .int .i64 0]) (heap_alloc_last _ _) sizeSpan rfl (spanA_one _ _) ?_)
  generalize (w2.alloc (.cells #[.int .i64 0, .int .i64 0] 96)).setRow w2.heap.size (spanA 0 N) = W3 at B3 G3 O3 H3 ⊢
  generalize w2.heap.size = h3 at H3 HV3 HG2 ⊢
  simp only [Act.put]
  go_loopw [6] (fun hv wr => ∃ b n pre h v, hv = .pointer (some ⟨h, 0, none⟩) ∧ 1 ≤ n ∧ b ≤ i ∧ i < b + n ∧ b + n ≤ N ∧ Hid (pre ++ tns b n i = tns 0 N i) ∧ wr.heap[h]? = some (.cells (spanA b (b + n)) 96) ∧ wr.heap[g]? = some (.cells #[v] 86) ∧ wr.ownsRow w.heap.size 141 3 v pre.length (tcl pre) ∧ (∀ q, v.ownBlock = some q → q < h) ∧ g < h ∧ Below w.heap.size w wr) (fun hv wr => spanN wr hv)
  case atStart => exact ⟨0, N, [], h3, v0, rfl, by omega, by omega, by omega, by omega, Lib.hid rfl, by rw [Nat.zero_add]; exact H3.out, G3.out, O3.out, HV3.out, HG2.out, B3.out⟩
  case round =>
    obtain ⟨b, n, pre, h, v, rfl, hn1, hbi, hin, hbn, HP, hh, hg, ho, hv, hgh, hB⟩ := hrel
    have HB := Lib.hid hB
    have HG := Lib.hid hg
    have HO := Lib.hid ho
    have HH := Lib.hid hh
    have HV := Lib.hid hv
    have HGH := Lib.hid hgh
    have Hcnt := Lib.hid (fun W => count_impl b (b + n) (by omega) (by omega) W)
    rw [show b + n - b = n by omega] at Hcnt
    clear hB hg ho hh hv hgh
    have HWG : Hid (w.heap.size ≤ g) := HG1
    by_cases h2 : 1 < n
    · have hm1 := half_pos n
      have hm2 := half_lt (n := n) (by omega)
      have Hparts := Lib.hid (fun W => parts_impl b (b + n) (by omega) (by omega) W)
      rw [show b + n - b = n by omega] at Hparts
      have c0 : (1 : Int) < (n : Int) := by omega
      have HPL : Hid (pre.length ≤ 1048575) := Lib.hid (by
        have h1 := congrArg List.length HP.out
        have h9 := HLEN.out
        by_cases h3 : i < b + half n
        · rw [tns_left h2 h3] at h1; simp at h1; omega
        · rw [tns_right h2 h3] at h1; simp at h1; omega)
      generalize hm : half n = m at hm1 hm2 Hparts
      have HM := Lib.hid hm
      clear hm
      go_wp2_with (refine wpList_load_row rfl 96 (.tmp 6) rfl (h) rfl 96 (spanA b (b + n)) (0, 0) _ (HH.out) Try.underlying96 rfl sizeSpan ?_)
      refine (Hcnt.out _).mono ?_
      rintro x w4 ⟨rfl, hb⟩
      have B4 := Lib.hid (below_call HB.out HB.out.size hb)
      have G4 := Lib.hid (keep_block HG.out hb)
      have O4 := Lib.hid (owns_below HO.out hb)
      have H4 := Lib.hid (keep_block HH.out hb)
      clear hb
      go_wp2_with (refine wpList_load_row rfl 96 (.tmp 6) rfl (h) rfl 96 (spanA b (b + n)) (0, 0) _ (H4.out) Try.underlying96 rfl sizeSpan ?_)
      refine (Hparts.out _).mono ?_
      rintro x w5 ⟨rfl, hb⟩
      have B5 := Lib.hid (below_call B4.out B4.out.size hb)
      have G5 := Lib.hid (keep_block G4.out hb)
      have O5 := Lib.hid (owns_below O4.out hb)
      have H5 := Lib.hid (keep_block H4.out hb)
      clear hb
      have L6 := Lib.hid (laid2_below w5 #[.int .i64 0, .int .i64 0] (spanA b (b + m)) (spanA (b + m) (b + n)) 96)
      have F6 := Lib.hid (laid2_fst w5 #[.int .i64 0, .int .i64 0] (spanA b (b + m)) (spanA (b + m) (b + n)) 96)
      have N6 := Lib.hid (laid2_snd w5 #[.int .i64 0, .int .i64 0] (spanA b (b + m)) (spanA (b + m) (b + n)) 96)
      have B6 := Lib.hid (below_call B5.out B5.out.size L6.out)
      have G6 := Lib.hid (keep_block G5.out L6.out)
      have O6 := Lib.hid (owns_below O5.out L6.out)
      have H6 := Lib.hid (keep_block H5.out L6.out)
      have HX5 : Hid (h < w5.heap.size) := Lib.hid (Array.getElem?_eq_some_iff.1 H5.out).1
      obtain ⟨W6, hW6⟩ : ∃ W6, (((w5.alloc (.cells #[.int .i64 0, .int .i64 0] 96)).alloc (.cells #[.int .i64 0, .int .i64 0] 96)).setRow w5.heap.size (spanA b (b + m))).setRow (w5.heap.size + 1) (spanA (b + m) (b + n)) = W6 := ⟨_, rfl⟩
      have hc6 : W6.cell? ⟨w5.heap.size, 1, none⟩ = some (.int .i64 ((b + m : Nat) : Int)) := by rw [← hW6]; exact (cell_of_row _ w5.heap.size 1 _ _ _ F6.out).trans rfl
      rw [hW6] at L6 F6 N6 B6 G6 O6 H6
      have HX6 : Hid (W6.heap.size = w5.heap.size + 2) := Lib.hid (by rw [← hW6]; simp [World.setRow])
      have HBI := Lib.hid hbi
      have HVB : Hid (∀ q, v.ownBlock = some q → q < h) := HV
      by_cases hlt : i < b + m
      · have hl2 : (i : Int) < (b : Int) + (m : Int) := by omega
        go_wp2_with (first | (refine wpList_store_row rfl 96 (.tmp 7) _ rfl (w5.heap.size) (spanA b (b + m)) rfl rfl 96 (#[.int .i64 0, .int .i64 0]) (heap_alloc2_old _ _ _) sizeSpan rfl (spanA_one _ _) ?_) | (refine wpList_store_row rfl 96 (.tmp 8) _ rfl (w5.heap.size + 1) (spanA (b + m) (b + n)) rfl rfl 96 (#[.int .i64 0, .int .i64 0]) ((setRow_other _ _ _ _ (by omega)).trans (heap_alloc2_new _ _ _)) sizeSpan rfl (spanA_one _ _) ?_) | (refine wpList_load_row rfl 96 (.tmp 8) rfl (w5.heap.size + 1) rfl 96 (#[.int .i64 ((b + m : Nat) : Int), .int .i64 ((b + n : Nat) : Int)]) (0, 0) _ N6.out Try.underlying96 rfl sizeSpan ?_))
        clear hc6 hW6
        refine (push_turn g w.heap.size pre.length v (tcl pre) false (b + m) (b + n) (by have := HPL.out; omega) W6 G6.out O6.out B6.out.size).mono ?_
        rintro x w8 ⟨rfl, v8, hg8, ho8, hk8⟩
        have G8 := Lib.hid hg8
        have O8 := Lib.hid (show w8.ownsRow w.heap.size 141 3 v8 (pre ++ [(false, b + m, b + n)]).length (tcl (pre ++ [(false, b + m, b + n)])) by rw [tcl_snoc, List.length_append]; exact ho8)
        have FF8 := Lib.hid (hk8.hold (g := w5.heap.size) (fun e => by rcases e with e | e; (have := HGH.out; have := HX5.out; omega); (have := HV.out _ e.symm; have := HX5.out; omega)) F6.out)
        have H8 := Lib.hid (hk8.hold (g := h) (fun e => by rcases e with e | e; (have := HGH.out; omega); (have := HV.out _ e.symm; omega)) H6.out)
        have B8 := Lib.hid (B6.out.trans (hk8.below B6.out.size (fun k e => by rcases e with e | e; (have := HWG.out; omega); exact (O6.out.lt _ e.symm).1)))
        clear hg8 ho8 hk8
        have HSX : Hid ((w8.setRow h (spanA b (b + m))).heap.size = w8.heap.size) := Lib.hid (by simp [World.setRow])
        have B9 := Lib.hid (Below.setRow (g := h) B8.out (by have := HWG.out; have := HGH.out; omega) (spanA b (b + m)))
        have G9 := Lib.hid ((setRow_other w8 h g (spanA b (b + m)) (by have := HGH.out; omega)).trans G8.out)
        have O9 := Lib.hid (owns_setRow_ne (cs := spanA b (b + m)) (owns_ne O8.out H8.out (by decide)) O8.out)
        have H9 := Lib.hid (setRow_heap w8 h (spanA b (b + n)) (spanA b (b + m)) _ _ H8.out)
        have B10 := below_call B9.out B9.out.size (laid_below (w8.setRow h (spanA b (b + m))) #[.int .i64 0, .int .i64 0] (spanA b (b + m)) 96)
        have G10 := laid_old #[.int .i64 0, .int .i64 0] (spanA b (b + m)) 96 G9.out
        have O10 := owns_below O9.out (laid_below (w8.setRow h (spanA b (b + m))) #[.int .i64 0, .int .i64 0] (spanA b (b + m)) 96)
        have H10 := laid_new (w8.setRow h (spanA b (b + m))) #[.int .i64 0, .int .i64 0] (spanA b (b + m)) 96
        have A10 := heap_alloc_last (w8.setRow h (spanA b (b + m))) (.cells #[.int .i64 0, .int .i64 0] 96)
        rw [HSX.out] at B10 G10 O10 H10 A10
        have B11 := Lib.hid B10
        have G11 := Lib.hid G10
        have O11 := Lib.hid O10
        have H11 := Lib.hid H10
        have A11 := Lib.hid A10
        have HV8 : Hid (∀ q, v8.ownBlock = some q → q < w8.heap.size) := Lib.hid (fun q hq => (O8.out.lt q hq).2)
        have HG8 : Hid (g < w8.heap.size) := Lib.hid (Array.getElem?_eq_some_iff.1 G8.out).1
        clear B10 G10 O10 H10 A10
        have HTN := Lib.hid (show tns b n i = (false, b + m, b + n) :: tns b m i by rw [← HM.out]; exact tns_left h2 (by rw [HM.out]; exact hlt))
        go_wp2_with (first | (refine wpList_load_row rfl 96 (.tmp 7) rfl w5.heap.size rfl 96 (spanA b (b + m)) (0, 0) _ FF8.out Try.underlying96 rfl sizeSpan ?_) | (refine wpList_store_row rfl 96 (.tmp 6) _ rfl h (spanA b (b + m)) rfl rfl 96 (spanA b (b + n)) H8.out sizeSpan rfl (spanA_one _ _) ?_) | (refine wpList_load_row rfl 96 (.tmp 6) rfl h rfl 96 (spanA b (b + m)) (0, 0) _ H9.out Try.underlying96 rfl sizeSpan ?_) | (refine wpList_store_row rfl 96 (.tmp 6) _ rfl w8.heap.size (spanA b (b + m)) rfl rfl 96 (#[.int .i64 0, .int .i64 0]) A11.out sizeSpan rfl (spanA_one _ _) ?_))
        simp only [Act.put]
        go_roundw
        case rel => exact ⟨b, m, pre ++ [(false, b + m, b + n)], _, v8, rfl, by omega, by have := HBI.out; omega, by omega, by omega, Lib.hid (by rw [List.append_assoc, List.singleton_append, ← HTN.out]; exact HP.out), by skip; exact H11.out, G11.out, O11.out, HV8.out, HG8.out, B11.out⟩
        case measure => rw [spanN_of HH.out]; rw [spanN_of2 (by omega) H11.out]; omega
      · have hl2 : ¬ (i : Int) < (b : Int) + (m : Int) := by omega
        go_wp2_with (first | (refine wpList_store_row rfl 96 (.tmp 7) _ rfl (w5.heap.size) (spanA b (b + m)) rfl rfl 96 (#[.int .i64 0, .int .i64 0]) (heap_alloc2_old _ _ _) sizeSpan rfl (spanA_one _ _) ?_) | (refine wpList_store_row rfl 96 (.tmp 8) _ rfl (w5.heap.size + 1) (spanA (b + m) (b + n)) rfl rfl 96 (#[.int .i64 0, .int .i64 0]) ((setRow_other _ _ _ _ (by omega)).trans (heap_alloc2_new _ _ _)) sizeSpan rfl (spanA_one _ _) ?_) | (refine wpList_load_row rfl 96 (.tmp 7) rfl w5.heap.size rfl 96 (#[.int .i64 ((b : Nat) : Int), .int .i64 ((b + m : Nat) : Int)]) (0, 0) _ F6.out Try.underlying96 rfl sizeSpan ?_))
        clear hc6 hW6
        refine (push_turn g w.heap.size pre.length v (tcl pre) true (b) (b + m) (by have := HPL.out; omega) W6 G6.out O6.out B6.out.size).mono ?_
        rintro x w8 ⟨rfl, v8, hg8, ho8, hk8⟩
        have G8 := Lib.hid hg8
        have O8 := Lib.hid (show w8.ownsRow w.heap.size 141 3 v8 (pre ++ [(true, b, b + m)]).length (tcl (pre ++ [(true, b, b + m)])) by rw [tcl_snoc, List.length_append]; exact ho8)
        have FF8 := Lib.hid (hk8.hold (g := w5.heap.size + 1) (fun e => by rcases e with e | e; (have := HGH.out; have := HX5.out; omega); (have := HV.out _ e.symm; have := HX5.out; omega)) N6.out)
        have H8 := Lib.hid (hk8.hold (g := h) (fun e => by rcases e with e | e; (have := HGH.out; omega); (have := HV.out _ e.symm; omega)) H6.out)
        have B8 := Lib.hid (B6.out.trans (hk8.below B6.out.size (fun k e => by rcases e with e | e; (have := HWG.out; omega); exact (O6.out.lt _ e.symm).1)))
        clear hg8 ho8 hk8
        have HSX : Hid ((w8.setRow h (spanA (b + m) (b + n))).heap.size = w8.heap.size) := Lib.hid (by simp [World.setRow])
        have B9 := Lib.hid (Below.setRow (g := h) B8.out (by have := HWG.out; have := HGH.out; omega) (spanA (b + m) (b + n)))
        have G9 := Lib.hid ((setRow_other w8 h g (spanA (b + m) (b + n)) (by have := HGH.out; omega)).trans G8.out)
        have O9 := Lib.hid (owns_setRow_ne (cs := spanA (b + m) (b + n)) (owns_ne O8.out H8.out (by decide)) O8.out)
        have H9 := Lib.hid (setRow_heap w8 h (spanA b (b + n)) (spanA (b + m) (b + n)) _ _ H8.out)
        have B10 := below_call B9.out B9.out.size (laid_below (w8.setRow h (spanA (b + m) (b + n))) #[.int .i64 0, .int .i64 0] (spanA (b + m) (b + n)) 96)
        have G10 := laid_old #[.int .i64 0, .int .i64 0] (spanA (b + m) (b + n)) 96 G9.out
        have O10 := owns_below O9.out (laid_below (w8.setRow h (spanA (b + m) (b + n))) #[.int .i64 0, .int .i64 0] (spanA (b + m) (b + n)) 96)
        have H10 := laid_new (w8.setRow h (spanA (b + m) (b + n))) #[.int .i64 0, .int .i64 0] (spanA (b + m) (b + n)) 96
        have A10 := heap_alloc_last (w8.setRow h (spanA (b + m) (b + n))) (.cells #[.int .i64 0, .int .i64 0] 96)
        rw [HSX.out] at B10 G10 O10 H10 A10
        have B11 := Lib.hid B10
        have G11 := Lib.hid G10
        have O11 := Lib.hid O10
        have H11 := Lib.hid H10
        have A11 := Lib.hid A10
        have HV8 : Hid (∀ q, v8.ownBlock = some q → q < w8.heap.size) := Lib.hid (fun q hq => (O8.out.lt q hq).2)
        have HG8 : Hid (g < w8.heap.size) := Lib.hid (Array.getElem?_eq_some_iff.1 G8.out).1
        clear B10 G10 O10 H10 A10
        have HTN := Lib.hid (show tns b n i = (true, b, b + m) :: tns (b + m) (n - m) i by rw [← HM.out]; exact tns_right h2 (by rw [HM.out]; exact hlt))
        go_wp2_with (first | (refine wpList_load_row rfl 96 (.tmp 8) rfl (w5.heap.size + 1) rfl 96 (spanA (b + m) (b + n)) (0, 0) _ FF8.out Try.underlying96 rfl sizeSpan ?_) | (refine wpList_store_row rfl 96 (.tmp 6) _ rfl h (spanA (b + m) (b + n)) rfl rfl 96 (spanA b (b + n)) H8.out sizeSpan rfl (spanA_one _ _) ?_) | (refine wpList_load_row rfl 96 (.tmp 6) rfl h rfl 96 (spanA (b + m) (b + n)) (0, 0) _ H9.out Try.underlying96 rfl sizeSpan ?_) | (refine wpList_store_row rfl 96 (.tmp 6) _ rfl w8.heap.size (spanA (b + m) (b + n)) rfl rfl 96 (#[.int .i64 0, .int .i64 0]) A11.out sizeSpan rfl (spanA_one _ _) ?_))
        simp only [Act.put]
        go_roundw
        case rel => exact ⟨b + m, n - m, pre ++ [(true, b, b + m)], _, v8, rfl, by omega, by have := HBI.out; omega, by omega, by omega, Lib.hid (by rw [List.append_assoc, List.singleton_append, ← HTN.out]; exact HP.out), by rw [show b + m + (n - m) = b + n by omega]; exact H11.out, G11.out, O11.out, HV8.out, HG8.out, B11.out⟩
        case measure => rw [spanN_of HH.out]; rw [spanN_of2 (by omega) H11.out]; omega
    · obtain rfl : n = 1 := by omega
      have HP2 := HP.out
      rw [tns_one (Nat.le_refl 1), List.append_nil] at HP2
      have HE := Lib.hid HP2
      clear HP HP2
      go_wp2_with (refine wpList_load_row rfl 96 (.tmp 6) rfl (h) rfl 96 (spanA b (b + 1)) (0, 0) _ (HH.out) Try.underlying96 rfl sizeSpan ?_)
      refine (Hcnt.out _).mono ?_
      rintro x w4 ⟨rfl, hb⟩
      have B4 := Lib.hid (below_call HB.out HB.out.size hb)
      have G4 := Lib.hid (keep_block HG.out hb)
      have O4 := Lib.hid (owns_below HO.out hb)
      have HGL := Lib.hid (Array.getElem?_eq_some_iff.1 G4.out).1
      clear hb
      go_wp2_with fail
      go_ret
      exact ⟨g, v, rfl, G4.out, by rw [← HE.out]; exact O4.out, HG1.out, HGL.out, B4.out⟩
end Go.Proofs.Ytjijgckljjcfiaa
