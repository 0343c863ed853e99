/- FnRangeProofs answers true at every input, and leaves all that was there as it was. -/
import Derived.Test.YtcbcfjflaplkoaaClB
import Derived.Test.YtcbcfjflaplkoaaRwB
import Derived.Test.YtcbcfjflaplkoaaClI
import Derived.Test.YtcbcfjflaplkoaaOpen
namespace Go.Proofs.Ytcbcfjflaplkoaa
open Go.ChangeShapes Go.WideShapes Go.ChangeAt Go.RowKit
set_option linter.unusedVariables false
set_option linter.unusedSimpArgs false
theorem wpList_load_ints_v {P : Program} {ops : Array Oper} {rest : List Oper} {op : Oper} {a : Act} {w : World} {Q : Exit → Act → World → Prop} (hw : Region.wanted op (yielded ops a.tmps) = true) (ty : TypeId) (x : Operand) (ho : op.op = .load ty x)
    (b o : Nat) (hx : a.eval x = .pointer (some ⟨b, o, none⟩)) (κ : IntKind) (l : List Int) (d : TypeDesc) (hc : w.rangeAt b o (l.map (Value.int κ)))
    (hu : P.underlying ty = some d) (hd : d.isRow = true) (hi : (P.info? ty).map (·.size) = some l.length)
    (h : wpList P ops Q rest (a.put op.dst (.agg (ints κ l))) w) : wpList P ops Q (op :: rest) a w :=
  wpList_step fun _ hK => by rw [if_pos hw]; exact wp_load_mid ty x ho b o hx (l.map (Value.int κ)) d hc hu hd (by rw [List.length_map]; exact hi) (hK _ _ h)
set_option maxRecDepth 100000 in
set_option maxHeartbeats 4000000 in
theorem valid_spec (x y u v : List Int) (hx : Is32 x) (hy : Is32 y) (hu : Is32 u) (hv : Is32 v) (w : World) :
    Calls Try.prog 23 #[.agg (ints .u8 (x ++ (y ++ (u ++ v))))] w fun z w' => z = .returned (.bool (!decide (x = u ∧ y = v) && decide (nodeK x y = nodeK u v))) ∧ Below w.heap.size w w' := by
  have T1 := Lib.hid hx.1
  have T2 := Lib.hid hy.1
  have T3 := Lib.hid hu.1
  have T4 := Lib.hid hv.1
  have A0 := heap_alloc_last w (.cells (ints .u8 (x ++ (y ++ (u ++ v)))) 38)
  have B0 := Lib.hid ((Below.refl w.heap.size w).alloc (Nat.le_refl _) (.cells (ints .u8 (x ++ (y ++ (u ++ v)))) 38))
  have HR := Lib.hid (four_rng hx.1 hy.1 hu.1 hv.1 A0)
  have N1 := Lib.hid (fun W => l03node_spec x y hx.1 hx.2 hy.1 hy.2 W)
  have N2 := Lib.hid (fun W => l03node_spec u v hu.1 hu.2 hv.1 hv.2 W)
  have HE := Lib.hid (fun W => eqlIn2 (nodeK x y) (nodeK u v) (nodeK_len _ _) (nodeK_len _ _) W)
  have Q1 := Lib.hid (fun W => eqlIn2 x u hx.1 hu.1 W)
  have Q2 := Lib.hid (fun W => eqlIn2 y v hy.1 hv.1 W)
  generalize nodeK x y = p at N1 HE ⊢
  generalize nodeK u v = q at N2 HE ⊢
  generalize decide (p = q) = e at HE ⊢
  generalize x ++ (y ++ (u ++ v)) = c at A0 B0 HR ⊢
  obtain ⟨W0, hW0⟩ : ∃ W0, w.alloc (.cells (ints .u8 c) 38) = W0 := ⟨_, rfl⟩
  rw [hW0] at B0 HR
  clear A0 hx hy hu hv
  by_cases h1 : x = u
  · rw [decide_eq_true h1] at Q1
    by_cases h2 : y = v
    · rw [decide_eq_true h2] at Q2
      rw [decide_eq_true (show x = u ∧ y = v from ⟨h1, h2⟩), Bool.not_true, Bool.false_and]
      have hq1 := Q1.out
      have hq2 := Q2.out
      clear h1 h2
      go_enter Try.func23, Try.ntmps23
      go_upto_region 2 with (first | (refine wpList_load_ints rfl 28 (.tmp 4) rfl w.heap.size 0 rfl .u8 x _ HR.out.1 Try.underlying28 rfl (by rw [T1.out]; exact sizeKey) ?_) | (refine wpList_load_ints rfl 28 (.tmp 6) rfl w.heap.size 64 rfl .u8 u _ HR.out.2.2.1 Try.underlying28 rfl (by rw [T3.out]; exact sizeKey) ?_) | (refine wpList_load_ints_v (by rfl) 28 (.tmp 10) rfl w.heap.size 32 rfl .u8 y _ HR.out.2.1 Try.underlying28 rfl (by rw [T2.out]; exact sizeKey) ?_) | (refine wpList_load_ints_v (by rfl) 28 (.tmp 12) rfl w.heap.size 96 rfl .u8 v _ HR.out.2.2.2 Try.underlying28 rfl (by rw [T4.out]; exact sizeKey) ?_))
      clear hW0 hq1 hq2
      refine wp_region_held_drew (S := Below (W0).heap.size (W0)) (by kernel_rfl) ((Below.refl _ _).drew) (fun hS => ?_)
      refine take_at (i := 0) (v := .bool false) rfl rfl (by kernel_rfl) (by kernel_rfl) (by kernel_rfl) (fun _ _ _ h => h) (Or.inl ⟨by rfl, fun U hU => by go_simp⟩) hS ?_
      try simp only [List.setIfInBounds_toArray, List.set_cons_zero, List.set_cons_succ]
      refine take_at (i := 1) (v := .bool false) rfl rfl (by kernel_rfl) (by kernel_rfl) (by kernel_rfl) (fun _ _ _ h => h) (Or.inl ⟨by rfl, fun U hU => by go_simp⟩) hS ?_
      try simp only [List.setIfInBounds_toArray, List.set_cons_zero, List.set_cons_succ]
      refine take_at (i := 2) (v := undef) rfl rfl (by kernel_rfl) (by kernel_rfl) (by kernel_rfl) (fun _ _ _ h => h) (Or.inr ⟨by rfl, rfl⟩) hS ?_
      try simp only [List.setIfInBounds_toArray, List.set_cons_zero, List.set_cons_succ]
      refine take_at (i := 3) (v := undef) rfl rfl (by kernel_rfl) (by kernel_rfl) (by kernel_rfl) (fun _ _ _ h => h) (Or.inr ⟨by rfl, rfl⟩) hS ?_
      try simp only [List.setIfInBounds_toArray, List.set_cons_zero, List.set_cons_succ]
      refine take_at (i := 4) (v := undef) rfl rfl (by kernel_rfl) (by kernel_rfl) (by kernel_rfl) (fun _ _ _ h => h) (Or.inr ⟨by rfl, rfl⟩) hS ?_
      try simp only [List.setIfInBounds_toArray, List.set_cons_zero, List.set_cons_succ]
      refine take_at (i := 5) (v := undef) rfl rfl (by kernel_rfl) (by kernel_rfl) (by kernel_rfl) (fun _ _ _ h => h) (Or.inr ⟨by rfl, rfl⟩) hS ?_
      try simp only [List.setIfInBounds_toArray, List.set_cons_zero, List.set_cons_succ]
      refine take_at (i := 6) (v := undef) rfl rfl (by kernel_rfl) (by kernel_rfl) (by kernel_rfl) (fun _ _ _ h => h) (Or.inr ⟨by rfl, rfl⟩) hS ?_
      try simp only [List.setIfInBounds_toArray, List.set_cons_zero, List.set_cons_succ]
      refine take_at (i := 7) (v := undef) rfl rfl (by kernel_rfl) (by kernel_rfl) (by kernel_rfl) (fun _ _ _ h => h) (Or.inr ⟨by rfl, rfl⟩) hS ?_
      try simp only [List.setIfInBounds_toArray, List.set_cons_zero, List.set_cons_succ]
      refine take_at (i := 8) (v := undef) rfl rfl (by kernel_rfl) (by kernel_rfl) (by kernel_rfl) (fun _ _ _ h => h) (Or.inr ⟨by rfl, rfl⟩) hS ?_
      try simp only [List.setIfInBounds_toArray, List.set_cons_zero, List.set_cons_succ]
      refine take_at (i := 9) (v := undef) rfl rfl (by kernel_rfl) (by kernel_rfl) (by kernel_rfl) (fun _ _ _ h => h) (Or.inr ⟨by rfl, rfl⟩) hS ?_
      try simp only [List.setIfInBounds_toArray, List.set_cons_zero, List.set_cons_succ]
      refine take_at (i := 10) (v := undef) rfl rfl (by kernel_rfl) (by kernel_rfl) (by kernel_rfl) (fun _ _ _ h => h) (Or.inr ⟨by rfl, rfl⟩) hS ?_
      try simp only [List.setIfInBounds_toArray, List.set_cons_zero, List.set_cons_succ]
      refine take_at (i := 11) (v := undef) rfl rfl (by kernel_rfl) (by kernel_rfl) (by kernel_rfl) (fun _ _ _ h => h) (Or.inr ⟨by rfl, rfl⟩) hS ?_
      try simp only [List.setIfInBounds_toArray, List.set_cons_zero, List.set_cons_succ]
      refine take_at (i := 12) (v := undef) rfl rfl (by kernel_rfl) (by kernel_rfl) (by kernel_rfl) (fun _ _ _ h => h) (Or.inr ⟨by rfl, rfl⟩) hS ?_
      try simp only [List.setIfInBounds_toArray, List.set_cons_zero, List.set_cons_succ]
      refine take_at (i := 13) (v := .bool false) rfl rfl (by kernel_rfl) (by kernel_rfl) (by kernel_rfl) (fun _ _ _ h => h) (Or.inl ⟨by rfl, fun U hU => by go_simp⟩) hS ?_
      try simp only [List.setIfInBounds_toArray, List.set_cons_zero, List.set_cons_succ]
      refine take_at (i := 14) (v := .bool false) rfl rfl (by kernel_rfl) (by kernel_rfl) (by kernel_rfl) (fun _ _ _ h => h) (Or.inl ⟨by rfl, fun U hU => by go_simp⟩) hS ?_
      try simp only [List.setIfInBounds_toArray, List.set_cons_zero, List.set_cons_succ]
      refine wpAnyH_done (by kernel_rfl) ?_ _
      go_wp2_with fail
      go_ret
      exact ⟨rfl, B0.out.trans (hS.mono B0.out.size)⟩
    · rw [decide_eq_false h2] at Q2
      rw [decide_eq_false (show ¬ (x = u ∧ y = v) from fun h => h2 h.2), Bool.not_false, Bool.true_and]
      have hq1 := Q1.out
      have hq2 := Q2.out
      clear h1 h2
      go_enter Try.func23, Try.ntmps23
      go_upto_region 2 with (first | (refine wpList_load_ints rfl 28 (.tmp 4) rfl w.heap.size 0 rfl .u8 x _ HR.out.1 Try.underlying28 rfl (by rw [T1.out]; exact sizeKey) ?_) | (refine wpList_load_ints rfl 28 (.tmp 6) rfl w.heap.size 64 rfl .u8 u _ HR.out.2.2.1 Try.underlying28 rfl (by rw [T3.out]; exact sizeKey) ?_) | (refine wpList_load_ints_v (by rfl) 28 (.tmp 10) rfl w.heap.size 32 rfl .u8 y _ HR.out.2.1 Try.underlying28 rfl (by rw [T2.out]; exact sizeKey) ?_) | (refine wpList_load_ints_v (by rfl) 28 (.tmp 12) rfl w.heap.size 96 rfl .u8 v _ HR.out.2.2.2 Try.underlying28 rfl (by rw [T4.out]; exact sizeKey) ?_))
      clear hW0 hq1 hq2
      refine wp_region_held_drew (S := Below (W0).heap.size (W0)) (by kernel_rfl) ((Below.refl _ _).drew) (fun hS => ?_)
      refine take_at (i := 0) (v := .bool true) rfl rfl (by kernel_rfl) (by kernel_rfl) (by kernel_rfl) (fun _ _ _ h => h) (Or.inl ⟨by rfl, fun U hU => by go_simp⟩) hS ?_
      try simp only [List.setIfInBounds_toArray, List.set_cons_zero, List.set_cons_succ]
      refine take_at (i := 1) (v := .bool true) rfl rfl (by kernel_rfl) (by kernel_rfl) (by kernel_rfl) (fun _ _ _ h => h) (Or.inl ⟨by rfl, fun U hU => by go_simp⟩) hS ?_
      try simp only [List.setIfInBounds_toArray, List.set_cons_zero, List.set_cons_succ]
      refine take_at (i := 2) (v := .pointer (some ⟨w.heap.size, 0, none⟩)) rfl rfl (by kernel_rfl) (by kernel_rfl) (by kernel_rfl) (fun _ _ _ h => h) (Or.inl ⟨by rfl, fun U hU => by go_simp⟩) hS ?_
      try simp only [List.setIfInBounds_toArray, List.set_cons_zero, List.set_cons_succ]
      refine take_at (i := 3) (v := .agg (ints .u8 x)) rfl rfl (by kernel_rfl) (by kernel_rfl) (by kernel_rfl) (fun _ _ _ h => h) (yieldsIf_load_mid (by rfl) 28 _ rfl w.heap.size 0 rfl (x.map (Value.int .u8)) _ (fun U hU => rangeAt_below HR.out.1 hU) Try.underlying28 rfl (by rw [List.length_map, T1.out]; exact sizeKey)) hS ?_
      try simp only [List.setIfInBounds_toArray, List.set_cons_zero, List.set_cons_succ]
      refine take_at (i := 4) (v := .pointer (some ⟨w.heap.size, 32, none⟩)) rfl rfl (by kernel_rfl) (by kernel_rfl) (by kernel_rfl) (fun _ _ _ h => h) (Or.inl ⟨by rfl, fun U hU => by go_simp⟩) hS ?_
      try simp only [List.setIfInBounds_toArray, List.set_cons_zero, List.set_cons_succ]
      refine take_at (i := 5) (v := .agg (ints .u8 y)) rfl rfl (by kernel_rfl) (by kernel_rfl) (by kernel_rfl) (fun _ _ _ h => h) (yieldsIf_load_mid (by rfl) 28 _ rfl w.heap.size 32 rfl (y.map (Value.int .u8)) _ (fun U hU => rangeAt_below HR.out.2.1 hU) Try.underlying28 rfl (by rw [List.length_map, T2.out]; exact sizeKey)) hS ?_
      try simp only [List.setIfInBounds_toArray, List.set_cons_zero, List.set_cons_succ]
      refine take_at (i := 7) (v := .pointer (some ⟨w.heap.size, 64, none⟩)) rfl rfl (by kernel_rfl) (by kernel_rfl) (by kernel_rfl) (fun _ _ _ h => h) (Or.inl ⟨by rfl, fun U hU => by go_simp⟩) hS ?_
      try simp only [List.setIfInBounds_toArray, List.set_cons_zero, List.set_cons_succ]
      refine take_at (i := 8) (v := .agg (ints .u8 u)) rfl rfl (by kernel_rfl) (by kernel_rfl) (by kernel_rfl) (fun _ _ _ h => h) (yieldsIf_load_mid (by rfl) 28 _ rfl w.heap.size 64 rfl (u.map (Value.int .u8)) _ (fun U hU => rangeAt_below HR.out.2.2.1 hU) Try.underlying28 rfl (by rw [List.length_map, T3.out]; exact sizeKey)) hS ?_
      try simp only [List.setIfInBounds_toArray, List.set_cons_zero, List.set_cons_succ]
      refine take_at (i := 9) (v := .pointer (some ⟨w.heap.size, 96, none⟩)) rfl rfl (by kernel_rfl) (by kernel_rfl) (by kernel_rfl) (fun _ _ _ h => h) (Or.inl ⟨by rfl, fun U hU => by go_simp⟩) hS ?_
      try simp only [List.setIfInBounds_toArray, List.set_cons_zero, List.set_cons_succ]
      refine take_at (i := 10) (v := .agg (ints .u8 v)) rfl rfl (by kernel_rfl) (by kernel_rfl) (by kernel_rfl) (fun _ _ _ h => h) (yieldsIf_load_mid (by rfl) 28 _ rfl w.heap.size 96 rfl (v.map (Value.int .u8)) _ (fun U hU => rangeAt_below HR.out.2.2.2 hU) Try.underlying28 rfl (by rw [List.length_map, T4.out]; exact sizeKey)) hS ?_
      try simp only [List.setIfInBounds_toArray, List.set_cons_zero, List.set_cons_succ]
      refine wpAnyH_ready (rs := [6]) (by kernel_rfl) (by simp) ?_
      refine AllReadyH.cons rfl (fun KQ hK => ?_) AllReadyH.nil
      rw [if_pos (by rfl)]
      go_simp
      refine (N1.out _).mono ?_
      rintro e1 u1 ⟨rfl, hb⟩
      refine hK.out _ _ (below_call hS hS.size hb) (fun hS => ?_)
      clear hb hK
      refine wpAnyH_ready (rs := [11]) (by kernel_rfl) (by simp) ?_
      refine AllReadyH.cons rfl (fun KQ hK => ?_) AllReadyH.nil
      rw [if_pos (by rfl)]
      go_simp
      refine (N2.out _).mono ?_
      rintro e2 u2 ⟨rfl, hb⟩
      refine hK.out _ _ (below_call hS hS.size hb) (fun hS => ?_)
      clear hb hK
      refine take_at (i := 12) (v := .bool e) rfl rfl (by kernel_rfl) (by kernel_rfl) (by kernel_rfl) (fun _ _ _ h => h) (Or.inl ⟨by rfl, fun U hU => by have hq := HE.out U; go_simp⟩) hS ?_
      try simp only [List.setIfInBounds_toArray, List.set_cons_zero, List.set_cons_succ]
      refine take_at (i := 13) (v := .bool e) rfl rfl (by kernel_rfl) (by kernel_rfl) (by kernel_rfl) (fun _ _ _ h => h) (Or.inl ⟨by rfl, fun U hU => by go_simp⟩) hS ?_
      try simp only [List.setIfInBounds_toArray, List.set_cons_zero, List.set_cons_succ]
      refine take_at (i := 14) (v := .bool e) rfl rfl (by kernel_rfl) (by kernel_rfl) (by kernel_rfl) (fun _ _ _ h => h) (Or.inl ⟨by rfl, fun U hU => by go_simp⟩) hS ?_
      try simp only [List.setIfInBounds_toArray, List.set_cons_zero, List.set_cons_succ]
      refine wpAnyH_done (by kernel_rfl) ?_ _
      go_wp2_with fail
      go_ret
      exact ⟨rfl, B0.out.trans (hS.mono B0.out.size)⟩
  · rw [decide_eq_false h1] at Q1
    rw [decide_eq_false (show ¬ (x = u ∧ y = v) from fun h => h1 h.1), Bool.not_false, Bool.true_and]
    have hq1 := Q1.out
    clear h1
    go_enter Try.func23, Try.ntmps23
    go_upto_region 2 with (first | (refine wpList_load_ints rfl 28 (.tmp 4) rfl w.heap.size 0 rfl .u8 x _ HR.out.1 Try.underlying28 rfl (by rw [T1.out]; exact sizeKey) ?_) | (refine wpList_load_ints rfl 28 (.tmp 6) rfl w.heap.size 64 rfl .u8 u _ HR.out.2.2.1 Try.underlying28 rfl (by rw [T3.out]; exact sizeKey) ?_))
    clear hW0 hq1
    refine wp_region_held_drew (S := Below (W0).heap.size (W0)) (by kernel_rfl) ((Below.refl _ _).drew) (fun hS => ?_)
    refine take_at (i := 0) (v := .bool true) rfl rfl (by kernel_rfl) (by kernel_rfl) (by kernel_rfl) (fun _ _ _ h => h) (Or.inl ⟨by rfl, fun U hU => by go_simp⟩) hS ?_
    try simp only [List.setIfInBounds_toArray, List.set_cons_zero, List.set_cons_succ]
    refine take_at (i := 1) (v := .bool true) rfl rfl (by kernel_rfl) (by kernel_rfl) (by kernel_rfl) (fun _ _ _ h => h) (Or.inl ⟨by rfl, fun U hU => by go_simp⟩) hS ?_
    try simp only [List.setIfInBounds_toArray, List.set_cons_zero, List.set_cons_succ]
    refine take_at (i := 2) (v := .pointer (some ⟨w.heap.size, 0, none⟩)) rfl rfl (by kernel_rfl) (by kernel_rfl) (by kernel_rfl) (fun _ _ _ h => h) (Or.inl ⟨by rfl, fun U hU => by go_simp⟩) hS ?_
    try simp only [List.setIfInBounds_toArray, List.set_cons_zero, List.set_cons_succ]
    refine take_at (i := 3) (v := .agg (ints .u8 x)) rfl rfl (by kernel_rfl) (by kernel_rfl) (by kernel_rfl) (fun _ _ _ h => h) (yieldsIf_load_mid (by rfl) 28 _ rfl w.heap.size 0 rfl (x.map (Value.int .u8)) _ (fun U hU => rangeAt_below HR.out.1 hU) Try.underlying28 rfl (by rw [List.length_map, T1.out]; exact sizeKey)) hS ?_
    try simp only [List.setIfInBounds_toArray, List.set_cons_zero, List.set_cons_succ]
    refine take_at (i := 4) (v := .pointer (some ⟨w.heap.size, 32, none⟩)) rfl rfl (by kernel_rfl) (by kernel_rfl) (by kernel_rfl) (fun _ _ _ h => h) (Or.inl ⟨by rfl, fun U hU => by go_simp⟩) hS ?_
    try simp only [List.setIfInBounds_toArray, List.set_cons_zero, List.set_cons_succ]
    refine take_at (i := 5) (v := .agg (ints .u8 y)) rfl rfl (by kernel_rfl) (by kernel_rfl) (by kernel_rfl) (fun _ _ _ h => h) (yieldsIf_load_mid (by rfl) 28 _ rfl w.heap.size 32 rfl (y.map (Value.int .u8)) _ (fun U hU => rangeAt_below HR.out.2.1 hU) Try.underlying28 rfl (by rw [List.length_map, T2.out]; exact sizeKey)) hS ?_
    try simp only [List.setIfInBounds_toArray, List.set_cons_zero, List.set_cons_succ]
    refine take_at (i := 7) (v := .pointer (some ⟨w.heap.size, 64, none⟩)) rfl rfl (by kernel_rfl) (by kernel_rfl) (by kernel_rfl) (fun _ _ _ h => h) (Or.inl ⟨by rfl, fun U hU => by go_simp⟩) hS ?_
    try simp only [List.setIfInBounds_toArray, List.set_cons_zero, List.set_cons_succ]
    refine take_at (i := 8) (v := .agg (ints .u8 u)) rfl rfl (by kernel_rfl) (by kernel_rfl) (by kernel_rfl) (fun _ _ _ h => h) (yieldsIf_load_mid (by rfl) 28 _ rfl w.heap.size 64 rfl (u.map (Value.int .u8)) _ (fun U hU => rangeAt_below HR.out.2.2.1 hU) Try.underlying28 rfl (by rw [List.length_map, T3.out]; exact sizeKey)) hS ?_
    try simp only [List.setIfInBounds_toArray, List.set_cons_zero, List.set_cons_succ]
    refine take_at (i := 9) (v := .pointer (some ⟨w.heap.size, 96, none⟩)) rfl rfl (by kernel_rfl) (by kernel_rfl) (by kernel_rfl) (fun _ _ _ h => h) (Or.inl ⟨by rfl, fun U hU => by go_simp⟩) hS ?_
    try simp only [List.setIfInBounds_toArray, List.set_cons_zero, List.set_cons_succ]
    refine take_at (i := 10) (v := .agg (ints .u8 v)) rfl rfl (by kernel_rfl) (by kernel_rfl) (by kernel_rfl) (fun _ _ _ h => h) (yieldsIf_load_mid (by rfl) 28 _ rfl w.heap.size 96 rfl (v.map (Value.int .u8)) _ (fun U hU => rangeAt_below HR.out.2.2.2 hU) Try.underlying28 rfl (by rw [List.length_map, T4.out]; exact sizeKey)) hS ?_
    try simp only [List.setIfInBounds_toArray, List.set_cons_zero, List.set_cons_succ]
    refine wpAnyH_ready (rs := [6]) (by kernel_rfl) (by simp) ?_
    refine AllReadyH.cons rfl (fun KQ hK => ?_) AllReadyH.nil
    rw [if_pos (by rfl)]
    go_simp
    refine (N1.out _).mono ?_
    rintro e1 u1 ⟨rfl, hb⟩
    refine hK.out _ _ (below_call hS hS.size hb) (fun hS => ?_)
    clear hb hK
    refine wpAnyH_ready (rs := [11]) (by kernel_rfl) (by simp) ?_
    refine AllReadyH.cons rfl (fun KQ hK => ?_) AllReadyH.nil
    rw [if_pos (by rfl)]
    go_simp
    refine (N2.out _).mono ?_
    rintro e2 u2 ⟨rfl, hb⟩
    refine hK.out _ _ (below_call hS hS.size hb) (fun hS => ?_)
    clear hb hK
    refine take_at (i := 12) (v := .bool e) rfl rfl (by kernel_rfl) (by kernel_rfl) (by kernel_rfl) (fun _ _ _ h => h) (Or.inl ⟨by rfl, fun U hU => by have hq := HE.out U; go_simp⟩) hS ?_
    try simp only [List.setIfInBounds_toArray, List.set_cons_zero, List.set_cons_succ]
    refine take_at (i := 13) (v := .bool e) rfl rfl (by kernel_rfl) (by kernel_rfl) (by kernel_rfl) (fun _ _ _ h => h) (Or.inl ⟨by rfl, fun U hU => by go_simp⟩) hS ?_
    try simp only [List.setIfInBounds_toArray, List.set_cons_zero, List.set_cons_succ]
    refine take_at (i := 14) (v := .bool e) rfl rfl (by kernel_rfl) (by kernel_rfl) (by kernel_rfl) (fun _ _ _ h => h) (Or.inl ⟨by rfl, fun U hU => by go_simp⟩) hS ?_
    try simp only [List.setIfInBounds_toArray, List.set_cons_zero, List.set_cons_succ]
    refine wpAnyH_done (by kernel_rfl) ?_ _
    go_wp2_with fail
    go_ret
    exact ⟨rfl, B0.out.trans (hS.mono B0.out.size)⟩
set_option maxHeartbeats 1000000 in
theorem same_spec (a b : Option Addr) (n m ca cb : Nat) (fl gl : List Int) (hn : n ≤ 1048576) (hm : m ≤ 1048576) (w : World) (hr : RdK w a n fl) (hs : RdK w b m gl) :
    Calls Try.prog 28 #[.slice a n ca, .slice b m cb] w fun e w' => e = .returned (.bool (decide (fl = gl))) ∧ Below w.heap.size w w' := by
  have H := Lib.hid (lists_spec a b n m ca cb fl gl hn hm w hr hs)
  clear hr hs
  generalize decide (fl = gl) = d at H ⊢
  go_enter Try.func28, Try.ntmps28
  go_wp2_with fail
  refine H.out.mono ?_
  rintro e w1 ⟨rfl, hb⟩
  have B := Lib.hid hb
  clear hb
  go_wp2_with fail
  go_ret
  exact ⟨rfl, B.out⟩
end Go.Proofs.Ytcbcfjflaplkoaa
namespace Go.Proofs.Ytcbcfjflaplkoaa
open Go.ChangeShapes Go.WideShapes Go.ChangeAt Go.RowKit
set_option linter.unusedVariables false
theorem dec_yes {p q : List Int} (h : p = q) : decide (p = q) = true := decide_eq_true h
theorem dec_no2 {a b c d : List Int} (h : a ≠ c ∨ b ≠ d) : decide (a = c ∧ b = d) = false := decide_eq_false (fun e => by rcases h with h | h; exact h e.1; exact h e.2)
theorem valid_cl {V : List Int} (h : isCl V) (U : World) : Calls Try.prog 23 #[.agg (ints .u8 V)] U fun z w' => z = .returned (.bool true) ∧ Below U.heap.size U w' := by
  obtain ⟨x, y, u, v, rfl, i1, i2, i3, i4, i5, i6⟩ := h
  have H := valid_spec x y u v i1 i2 i3 i4 U
  have e1 := dec_no2 i5
  have e2 := dec_yes i6
  generalize decide (nodeK x y = nodeK u v) = d2 at H e2
  generalize decide (x = u ∧ y = v) = d1 at H e1
  subst e1 e2
  exact H
end Go.Proofs.Ytcbcfjflaplkoaa
namespace Go.Proofs.Ytcbcfjflaplkoaa
open Go.ChangeShapes Go.WideShapes Go.ChangeAt Go.RowKit
set_option linter.unusedVariables false
set_option linter.unusedSimpArgs false
set_option maxRecDepth 100000 in
set_option maxHeartbeats 16000000 in
theorem rw_in (a1 a2 : Option Addr) (n1 n2 c1 c2 : Nat) (l1 l2 : List Int) (hn1 : n1 ≤ 3000) (hn2 : n2 ≤ 3000) (fb1 : ∀ z ∈ l1, 0 ≤ z ∧ z ≤ 255) (fb2 : ∀ z ∈ l2, 0 ≤ z ∧ z ≤ 255) (w : World) (hr1 : Rd .u8 w a1 n1 l1) (hr2 : Rd .u8 w a2 n2 l2) :
    Calls Try.prog 4 #[.slice a1 n1 c1, .slice a2 n2 c2] w fun e w' => e = .returned (.bool true) ∧ Below w.heap.size w w' := by
  have Hz := Lib.hid z32_ints
  obtain ⟨i0, z0, hi, hz0, hz1, hz2, hzs, hzc⟩ := keyParts
  have Hi := Lib.hid hi
  have Hlg := Lib.hid (fun U => long_no a1 a2 n1 n2 c1 c2 ⟨hn1, hn2⟩ U)
  have Hk1 := Lib.hid (keys_src a1 n1 c1 l1 10 (by omega) fb1 (by omega) w hr1)
  have Hat := Lib.hid (fun (k : Nat) (hk : k ≤ 100) (N : Int) (h1 : 1 ≤ N) (h2 : N ≤ 1000000) U (hU : Below w.heap.size w U) => at_law a2 n2 c2 l2 (by omega) fb2 k hk N h1 h2 U (hr2.below hU))
  clear hr1 hr2 fb1 fb2 hi
  go_enter Try.func4, Try.ntmps4
  go_wp2_with fail
  refine (Hlg.out _).mono ?_
  rintro x w0 ⟨rfl, rfl⟩
  go_wp2_with fail
  refine Hk1.out.mono ?_
  rintro x w1 ⟨v1, m1, f1, rfl, o1, hm1, hl1, hf1, hb1⟩
  have B1 := Lib.hid hb1
  have O1 := Lib.hid o1
  have F1 := Lib.hid hf1
  clear o1 hb1 hf1
  go_wp2_with fail
  refine (Hat.out 0 (by omega) 256 (by omega) (by omega) _ B1.out).mono ?_
  rintro x w1' ⟨r, rfl, r0, r1, rfl⟩
  have r2 : r ≤ 255 := by omega
  have HKY : Hid (L32 (z32.set 0 r)) := Lib.hid ⟨by rw [List.length_set]; rfl, fun z hz => by
    rcases List.mem_or_eq_of_mem_set hz with hz | rfl
    · exact z32_byteB z hz
    · omega⟩
  have HKZ : Hid (ints .u8 (z32.set 0 r) = #[.int .u8 r, .int .u8 0, .int .u8 0, .int .u8 0, .int .u8 0, .int .u8 0, .int .u8 0, .int .u8 0, .int .u8 0, .int .u8 0, .int .u8 0, .int .u8 0, .int .u8 0, .int .u8 0, .int .u8 0, .int .u8 0, .int .u8 0, .int .u8 0, .int .u8 0, .int .u8 0, .int .u8 0, .int .u8 0, .int .u8 0, .int .u8 0, .int .u8 0, .int .u8 0, .int .u8 0, .int .u8 0, .int .u8 0, .int .u8 0, .int .u8 0, .int .u8 0]) := Lib.hid rfl
  generalize z32.set 0 r = key at HKY HKZ
  go_wp2_with (first | (refine wpList_buildSlice_one rfl 24 28 _ rfl Try.underlying24 Hi.out hz0 (ints .u8 key) (by rw [HKZ.out]; rfl) (by rw [ints_size, HKY.out.1, hz1]) (by rw [hz1]; decide) (by rw [hz1]; decide) ?_) | (at_builtin; refine wpList_append_own _ rfl _ _ 24 rfl w.heap.size 28 i0 z0 32 32 Try.underlying24 Hi.out hz0 hz1 hz2 hzs (by decide) _ m1 _ rfl (O1.out.alloc _) ⟨w1.heap.size, 0, none⟩ 1 1 (key.map (Value.int .u8)) rfl (by rw [List.length_map, HKY.out.1]) ?c1 ?c2 ?c3 ?c4 ?c5 ?_))
  case c1 =>
    intro p u hu
    rw [addr_add]
    have hg := heap_alloc_last w1 (.cells (ints .u8 key) 28)
    rw [Nat.zero_add, cell_of_row _ w1.heap.size p _ _ _ hg, ← hu]
    simp [ints]
  case c2 =>
    intro u hu
    obtain ⟨z, _, rfl⟩ := List.mem_map.1 hu
    rfl
  case c3 => unfold maxLen; omega
  case c4 => omega
  case c5 => have := B1.out.size; simp; omega
  intro v3 w3 hown3 hgrow3 hnil3
  have B3 := Lib.hid ((B1.out.alloc B1.out.size (.cells (ints .u8 key) 28)).grown hgrow3 (by have := B1.out.size; simp; omega) (fun g e => (O1.out.lt g e).1))
  rw [← List.map_append] at hown3
  have FB : Hid (∀ z ∈ f1 ++ key, 0 ≤ z ∧ z ≤ 255) := Lib.hid (fun z hz => by
    rcases List.mem_append.1 hz with hz | hz
    · exact F1.out z hz
    · exact HKY.out.2 z hz)
  have HL := Lib.hid (show (f1 ++ key).length = 32 * (m1 + 1) by rw [List.length_append, hl1, HKY.out.1]; omega)
  generalize f1 ++ key = fl at hown3 FB HL
  have hL : m1 + 1 ≤ 11 := by omega
  have hL1 : 1 ≤ m1 + 1 := by omega
  generalize m1 + 1 = L at hown3 HL hL hL1
  obtain ⟨lb, lc, rfl, hlc, hlm, _⟩ := owned_formG hown3 hL1
  obtain ⟨_, _, e, hR⟩ := RdK.owned HL.out hown3
  obtain ⟨e1, -, -⟩ := Value.slice.inj e
  rw [← e1] at hR
  have R3 := Lib.hid hR
  have O3 := Lib.hid hown3
  clear e1 e hR hown3 hgrow3 hnil3 O1 F1 B1 HKY HKZ hm1 hl1 Hk1 Hlg r0 r1 r2
  have k1 : (1 : Int) ≤ (L : Int) := by omega
  have k2 : (L : Int) ≤ 11 := by omega
  have hL2 : ¬ 256 < L := by omega
  have HlL := Lib.hid (fun (b : Nat) c (m : List Int) (hm : ∀ z ∈ m, 0 ≤ z ∧ z ≤ 255) U (hU : RdK U (some ⟨b, 0, none⟩) L m) => by
    have := listkey_impl (some ⟨b, 0, none⟩) L c m (by omega) hm U hU
    have e : lkeyV m L = tkey (keyAt m) 0 L := by
      unfold lkeyV
      rw [if_neg (by omega), if_neg (by omega)]
    unfold lkeyE at this
    rw [e, if_neg (by omega)] at this
    exact this)
  have HNl := Lib.hid (tkey32 (b := 0) HL.out FB.out hL1 (by omega))
  obtain ⟨now, hnow⟩ : ∃ now, tkey (keyAt fl) 0 L = now := ⟨_, rfl⟩
  have HNW := Lib.hid hnow
  rw [hnow] at HNl
  clear hnow
  go_wp2_with fail
  refine (HlL.out _ _ _ FB.out _ R3.out).mono ?_
  rw [HNW.out]
  rintro x w4 ⟨rfl, hb4⟩
  have L4 := laid_below w4 (ints .u8 z32) (ints .u8 now) 28
  have BW4 := hb4.trans (L4.mono hb4.size)
  have G4 := Lib.hid (laid_new w4 (ints .u8 z32) (ints .u8 now) 28)
  have B4 := Lib.hid (below_call B3.out B3.out.size BW4)
  have R4 := Lib.hid (R3.out.below BW4)
  have O4 := Lib.hid (owns_below O3.out BW4)
  clear L4 BW4 hb4
  go_wp2_with (refine wpList_store_row rfl 28 (.tmp 7) _ rfl w4.heap.size (ints .u8 now) rfl rfl 28 (ints .u8 z32) (by rw [Hz.out]; exact heap_alloc_last _ _) (by rw [ints_size, HNl.out.1]; exact sizeKey) (by rw [ints_size, ints_size, HNl.out.1]; rfl) (ints_one _ _) ?_)
  rw [← Hz.out]
  generalize hW4 : (w4.alloc (.cells (ints .u8 z32) 28)).setRow w4.heap.size (ints .u8 now) = W4 at G4 B4 R4 O4 ⊢
  generalize w4.heap.size = x4 at G4 ⊢
  clear hW4
  refine (Hat.out 1 (by omega) (L : Int) (by omega) (by omega) _ B4.out).mono ?_
  rintro x W4' ⟨r, rfl, r0, r1, rfl⟩
  obtain ⟨q, rfl⟩ := Int.eq_ofNat_of_zero_le r0
  have q0 : (0 : Int) ≤ (q : Int) := r0
  have q1 : (q : Int) < (L : Int) := r1
  have q2 : (q : Int) ≤ 11 := by omega
  clear r0 r1
  go_wp2_with fail
  refine (Hat.out 2 (by omega) ((L : Int) - (q : Int)) (by omega) (by omega) _ B4.out).mono ?_
  rintro x W4' ⟨r, rfl, r0, r1, rfl⟩
  obtain ⟨s, rfl⟩ := Int.eq_ofNat_of_zero_le r0
  have s0 : (0 : Int) ≤ (s : Int) := r0
  have s1 : (s : Int) ≤ 11 := by omega
  have hJ1 : q < q + 1 + s := by omega
  have hJ2 : q + 1 + s ≤ L := by omega
  have eJ : (q : Int) + 1 + (s : Int) = ((q + 1 + s : Nat) : Int) := by omega
  clear r0 r1
  generalize q + 1 + s = J at hJ1 hJ2 eJ
  have HP := Lib.hid (rgN_le L (q : Int) (J : Int) hL1)
  have HPl := Lib.hid (rg_len (kf := keyAt fl) L 0 (q : Int) (J : Int) hL1 (fun k hk => by rw [Nat.zero_add]; exact keyAt_len HL.out hk))
  have HPR := Lib.hid (rg_rangeG (kf := keyAt fl) (fun i => keyAt_range FB.out i) L 0 (q : Int) (J : Int) hL1)
  have HT := Lib.hid (by
    have := crv_true (fl := fl) (n := L) (i := q) (c := J - q) HL.out (by omega) (by omega) (by omega)
    rwa [show q + (J - q) = J by omega, HNW.out] at this)
  have HLG := Lib.hid (fun (root pl : List Int) => by
    have := crv_long (fl := fl) (root := root) (pl := pl) (n := L) (i := q) (c := J - q) (by omega) (by omega) (by omega)
    rwa [show q + (J - q) = J by omega] at this)
  have HWH := Lib.hid (by
    have := crv_whole (fl := fl) (n := L) HL.out hL1 (by omega)
    rwa [HNW.out] at this)
  have HSB : Hid (∀ z ∈ subK fl q (J - q), 0 ≤ z ∧ z ≤ 255) := Lib.hid (fun z hz => FB.out z (List.mem_of_mem_drop (List.mem_of_mem_take hz)))
  have HR1 := Lib.hid (fun U (hU : RdK U (some ⟨lb, 0, none⟩) L fl) => by
    have := rp_impl (some ⟨lb, 0, none⟩) L lc fl (q : Int) (J : Int) (by omega) hlc hlm FB.out U hU
    unfold rpE rpN rpV at this
    have hq : 0 ≤ (q : Int) ∧ (q : Int) < (J : Int) ∧ (J : Int) ≤ (L : Int) := ⟨by omega, by omega, by omega⟩
    rw [if_neg hL2, if_neg hL2, if_neg hL2, if_pos hq, if_pos hq, if_pos hq] at this
    exact this)
  have HR2 := Lib.hid (fun U (hU : RdK U (some ⟨lb, 0, none⟩) L fl) => by
    have := rp_impl (some ⟨lb, 0, none⟩) L lc fl 0 (L : Int) (by omega) hlc hlm FB.out U hU
    unfold rpE rpN rpV at this
    have hq : 0 ≤ (0 : Int) ∧ (0 : Int) < (L : Int) ∧ (L : Int) ≤ (L : Int) := ⟨by omega, by omega, by omega⟩
    rw [if_neg hL2, if_neg hL2, if_neg hL2, if_pos hq, if_pos hq, if_pos hq, HWH.out.1, HWH.out.2.1] at this
    exact this)
  have HR3 := Lib.hid (fun U (hU : RdK U (some ⟨lb, 0, none⟩) L fl) => by
    have := rp_impl (some ⟨lb, 0, none⟩) L lc fl (q : Int) ((q : Int) + 1) (by omega) hlc hlm FB.out U hU
    unfold rpE rpN rpV at this
    have hq : 0 ≤ (q : Int) ∧ (q : Int) < (q : Int) + 1 ∧ (q : Int) + 1 ≤ (L : Int) := ⟨by omega, by omega, by omega⟩
    rw [if_neg hL2, if_neg hL2, if_neg hL2, if_pos hq, if_pos hq, if_pos hq, rg_depth L q (by omega)] at this
    exact this)
  have HTD := Lib.hid (fun U => by
    have := td_impl (L : Int) (q : Int) U
    unfold tdV tdE at this
    have hq : isLf (L : Int) (q : Int) := ⟨by omega, by omega, by omega⟩
    rw [if_pos hq, if_pos hq, Int.toNat_natCast, Int.toNat_natCast] at this
    exact this)
  have HDL := Lib.hid (dN_le L q)
  generalize rg (keyAt fl) 0 L (q : Int) ((q : Int) + 1) = sg at HR3
  generalize dN L q = D at HR3 HTD HDL
  have HC1 := Lib.hid (fun A C U (hl : RdK U (some ⟨lb, q * 32, none⟩) (J - q) (subK fl q (J - q))) (hp : RdK U A (rgN L (q : Int) (J : Int)) (rg (keyAt fl) 0 L (q : Int) (J : Int))) => by
    have := cr_impl now (some ⟨lb, q * 32, none⟩) A (J - q) (lc - q) (rgN L (q : Int) (J : Int)) C (L : Int) (q : Int) (subK fl q (J - q)) (rg (keyAt fl) 0 L (q : Int) (J : Int)) HNl.out.1 (by omega) (by have := HP.out; omega) (by omega) (by omega) HSB.out HPR.out U hl hp
    rw [HT.out.1, HT.out.2] at this
    exact this)
  have HC2 := Lib.hid (fun A C U (hl : RdK U (some ⟨lb, 0, none⟩) L fl) => by
    have := cr_impl now (some ⟨lb, 0, none⟩) A L lc 0 C (L : Int) 0 fl [] HNl.out.1 (by omega) (by omega) hlc hlm FB.out (by simp) U hl ⟨rfl, Or.inl rfl⟩
    rw [HWH.out.2.2.1, HWH.out.2.2.2] at this
    exact this)
  have HC3 := Lib.hid (fun A C U (hl : RdK U (some ⟨lb, q * 32, none⟩) (J - q) (subK fl q (J - q))) (hp : RdK U A (rgN L (q : Int) (J : Int) + 1) (rg (keyAt fl) 0 L (q : Int) (J : Int) ++ now)) => by
    have := cr_impl now (some ⟨lb, q * 32, none⟩) A (J - q) (lc - q) (rgN L (q : Int) (J : Int) + 1) C (L : Int) (q : Int) (subK fl q (J - q)) (rg (keyAt fl) 0 L (q : Int) (J : Int) ++ now) HNl.out.1 (by omega) (by have := HP.out; omega) (by omega) (by omega) HSB.out (fun z hz => by
      rcases List.mem_append.1 hz with hz | hz
      · exact HPR.out z hz
      · exact HNl.out.2 z hz) U hl hp
    rw [(HLG.out now (rg (keyAt fl) 0 L (q : Int) (J : Int) ++ now)).1, (HLG.out now (rg (keyAt fl) 0 L (q : Int) (J : Int) ++ now)).2] at this
    exact this)
  have HSUB := Lib.hid (fun U (hU : RdK U (some ⟨lb, 0, none⟩) L fl) => by
    have := rdk_sub hU q (J - q) (by omega)
    rwa [Nat.zero_add] at this)
  generalize rg (keyAt fl) 0 L (q : Int) (J : Int) = pl at HPl HPR HR1 HC1 HC3
  generalize rgN L (q : Int) (J : Int) = P at HPl HP HR1 HC1 HC3
  generalize subK fl q (J - q) = sb at HC1 HC3 HSUB
  clear HT HLG HWH HSB
  have j1 : (q : Int) < (J : Int) := by omega
  have j2 : (J : Int) ≤ (L : Int) := by omega
  have j3 : (J : Int) ≤ (lc : Int) := by omega
  have j4 : J ≤ lc := by omega
  have j5 : (0 : Int) ≤ (J : Int) := by omega
  have j6 : ¬ lc < J := by omega
  have j7 : ¬ J < q := by omega
  have j8 : q ≤ J := by omega
  have j9 : ¬ lc = q := by omega
  have j10 : (q : Int) ≤ (J : Int) := by omega
  have j11 : q < L := by omega
  have j12 : ¬ (L : Int) ≤ (q : Int) := by omega
  have j13 : (J : Int) ≤ 11 := by omega
  go_wp2_with fail
  refine (HR1.out _ R4.out).mono ?_
  rintro x w5 ⟨v5, rfl, ho5, hb5⟩
  obtain ⟨pa, pc, rfl⟩ := owns_slc ho5
  have B5 := Lib.hid (below_call B4.out B4.out.size hb5)
  have G5 := Lib.hid (keep_block G4.out hb5)
  have R5 := Lib.hid (R4.out.below hb5)
  have O5 := Lib.hid (owns_below O4.out hb5)
  have P5 := Lib.hid (rdk_of_owned HPl.out ho5)
  have Q5 := Lib.hid ho5
  clear ho5 hb5 R4 O4 G4
  go_upto_region 9 with fail
  refine wp_region_held_drew (S := Below (w5).heap.size (w5)) (by kernel_rfl) ((Below.refl _ _).drew) (fun hS => ?_)
  refine take_at (i := 0) (v := .agg (ints .u8 now)) rfl rfl (by kernel_rfl) (by kernel_rfl) (by kernel_rfl) (fun _ _ _ h => h) (yields_box (by rfl) 28 _ rfl (x4) rfl _ 28 _ G5.out Try.underlying28 rfl (by rw [ints_size, HNl.out.1]; exact sizeKey)) hS ?_
  try simp only [List.setIfInBounds_toArray, List.set_cons_zero, List.set_cons_succ]
  refine take_at (i := 1) (v := .int .i64 (L : Int)) rfl rfl (by kernel_rfl) (by kernel_rfl) (by kernel_rfl) (fun _ _ _ h => h) (Or.inl ⟨by rfl, fun U hU => by go_simp⟩) hS ?_
  try simp only [List.setIfInBounds_toArray, List.set_cons_zero, List.set_cons_succ]
  refine take_at (i := 2) (v := .int .i64 (q : Int)) rfl rfl (by kernel_rfl) (by kernel_rfl) (by kernel_rfl) (fun _ _ _ h => h) (Or.inl ⟨by rfl, fun U hU => by go_simp⟩) hS ?_
  try simp only [List.setIfInBounds_toArray, List.set_cons_zero, List.set_cons_succ]
  refine take_at (i := 3) (v := .slice (some ⟨lb, 0, none⟩) L lc) rfl rfl (by kernel_rfl) (by kernel_rfl) (by kernel_rfl) (fun _ _ _ h => h) (Or.inl ⟨by rfl, fun U hU => by go_simp⟩) hS ?_
  try simp only [List.setIfInBounds_toArray, List.set_cons_zero, List.set_cons_succ]
  refine take_at (i := 4) (v := .int .i64 (q : Int)) rfl rfl (by kernel_rfl) (by kernel_rfl) (by kernel_rfl) (fun _ _ _ h => h) (Or.inl ⟨by rfl, fun U hU => by go_simp⟩) hS ?_
  try simp only [List.setIfInBounds_toArray, List.set_cons_zero, List.set_cons_succ]
  refine take_at (i := 5) (v := .int .i64 (J : Int)) rfl rfl (by kernel_rfl) (by kernel_rfl) (by kernel_rfl) (fun _ _ _ h => h) (Or.inl ⟨by rfl, fun U hU => by go_simp⟩) hS ?_
  try simp only [List.setIfInBounds_toArray, List.set_cons_zero, List.set_cons_succ]
  refine take_at (i := 6) (v := .slice (some ⟨lb, q * 32, none⟩) (J - q) (lc - q)) rfl rfl (by kernel_rfl) (by kernel_rfl) (by kernel_rfl) (fun _ _ _ h => h) (Or.inl ⟨by rfl, fun U hU => by go_simp⟩) hS ?_
  try simp only [List.setIfInBounds_toArray, List.set_cons_zero, List.set_cons_succ]
  refine take_at (i := 7) (v := .slice pa P pc) rfl rfl (by kernel_rfl) (by kernel_rfl) (by kernel_rfl) (fun _ _ _ h => h) (Or.inl ⟨by rfl, fun U hU => by go_simp⟩) hS ?_
  try simp only [List.setIfInBounds_toArray, List.set_cons_zero, List.set_cons_succ]
  refine wpAnyH_ready (rs := [8]) (by kernel_rfl) (by simp) ?_
  refine AllReadyH.cons rfl (fun KQ hK => ?_) AllReadyH.nil
  rw [if_pos (by rfl)]
  go_simp
  refine (HC1.out _ _ _ (HSUB.out _ (R5.out.below hS)) (P5.out.below hS)).mono ?_
  rintro x u1 ⟨rfl, hb⟩
  refine hK.out _ _ (below_call hS hS.size hb) (fun hS => ?_)
  clear hb hK
  refine take_at (i := 9) (v := .tuple #[.bool true, .int .i64 0]) rfl rfl (by kernel_rfl) (by kernel_rfl) (by kernel_rfl) (fun _ _ _ h => h) (Or.inl ⟨by rfl, fun U hU => by go_simp⟩) hS ?_
  try simp only [List.setIfInBounds_toArray, List.set_cons_zero, List.set_cons_succ]
  refine take_at (i := 10) (v := .bool true) rfl rfl (by kernel_rfl) (by kernel_rfl) (by kernel_rfl) (fun _ _ _ h => h) (Or.inl ⟨by rfl, fun U hU => by go_simp⟩) hS ?_
  try simp only [List.setIfInBounds_toArray, List.set_cons_zero, List.set_cons_succ]
  refine take_at (i := 11) (v := .int .i64 0) rfl rfl (by kernel_rfl) (by kernel_rfl) (by kernel_rfl) (fun _ _ _ h => h) (Or.inl ⟨by rfl, fun U hU => by go_simp⟩) hS ?_
  try simp only [List.setIfInBounds_toArray, List.set_cons_zero, List.set_cons_succ]
  refine take_at (i := 12) (v := .bool true) rfl rfl (by kernel_rfl) (by kernel_rfl) (by kernel_rfl) (fun _ _ _ h => h) (Or.inl ⟨by rfl, fun U hU => by go_simp⟩) hS ?_
  try simp only [List.setIfInBounds_toArray, List.set_cons_zero, List.set_cons_succ]
  refine take_at (i := 13) (v := .int .i64 0) rfl rfl (by kernel_rfl) (by kernel_rfl) (by kernel_rfl) (fun _ _ _ h => h) (Or.inl ⟨by rfl, fun U hU => by go_simp⟩) hS ?_
  try simp only [List.setIfInBounds_toArray, List.set_cons_zero, List.set_cons_succ]
  refine wpAnyH_done (by kernel_rfl) ?_ _
  have B6 := Lib.hid (below_call B5.out B5.out.size hS)
  have G6 := Lib.hid (keep_block G5.out hS)
  have R6 := Lib.hid (R5.out.below hS)
  have O6 := Lib.hid (owns_below O5.out hS)
  have Q6 := Lib.hid (owns_below Q5.out hS)
  clear hS
  go_wp2_with fail
  refine (HR2.out _ R6.out).mono ?_
  rintro x w7 ⟨v7, rfl, ho7, hb7⟩
  obtain ⟨na, nc, rfl⟩ := owns_slc ho7
  have B7 := Lib.hid (below_call B6.out B6.out.size hb7)
  have G7 := Lib.hid (keep_block G6.out hb7)
  have R7 := Lib.hid (R6.out.below hb7)
  have O7 := Lib.hid (owns_below O6.out hb7)
  have Q7 := Lib.hid (owns_below Q6.out hb7)
  clear ho7 hb7 B6 G6 R6 O6 Q6 R5 O5 Q5 P5 G5
  go_wp2_with (refine wpList_load_row rfl 28 (.tmp 7) rfl x4 rfl 28 (ints .u8 now) (0, 0) _ G7.out Try.underlying28 rfl (by rw [ints_size, HNl.out.1]; exact sizeKey) ?_)
  refine (HC2.out _ _ _ R7.out).mono ?_
  rintro x w10 ⟨rfl, hb⟩
  have B10 := Lib.hid (below_call B7.out B7.out.size hb)
  have G10 := Lib.hid (keep_block G7.out hb)
  have R10 := Lib.hid (R7.out.below hb)
  have O10 := Lib.hid (owns_below O7.out hb)
  have Q10 := Lib.hid (owns_below Q7.out hb)
  clear hb G7 R7 O7 Q7
  have HZo : Hid ((ints .u8 now).size = 32) := Lib.hid (by rw [ints_size]; exact HNl.out.1)
  have HTo : Hid ((ints .u8 now).toList = now.map (Value.int .u8)) := Lib.hid (by simp [ints])
  have HPo : Hid (∀ y ∈ pl.map (Value.int .u8), y.oneCell' = true) := Lib.hid (fun u hu => by
    obtain ⟨z, _, rfl⟩ := List.mem_map.1 hu
    rfl)
  have HOo : Hid (∀ y ∈ (ints .u8 now).toList, y.oneCell' = true) := Lib.hid (fun u hu => by
    rw [HTo.out] at hu
    obtain ⟨z, _, rfl⟩ := List.mem_map.1 hu
    rfl)
  go_upto_region 12 with fail
  go_cut [19, 20] (fun s19 s20 wx => s19 = .bool false ∧ s20 = .int .i64 0 ∧ Below w10.heap.size w10 wx)
  case first =>
    refine wp_region_held_drew (S := Below (w10).heap.size (w10)) (by kernel_rfl) ((Below.refl _ _).drew) (fun hS => ?_)
    generalize w10.drew = U0 at hS ⊢
    refine take_at (i := 0) (v := .agg (ints .u8 now)) rfl rfl (by kernel_rfl) (by kernel_rfl) (by kernel_rfl) (fun _ _ _ h => h) (yields_box (by rfl) 28 _ rfl (x4) rfl _ 28 _ G10.out Try.underlying28 rfl (by rw [ints_size, HNl.out.1]; exact sizeKey)) hS ?_
    try simp only [List.setIfInBounds_toArray, List.set_cons_zero, List.set_cons_succ]
    refine take_at (i := 1) (v := .int .i64 (L : Int)) rfl rfl (by kernel_rfl) (by kernel_rfl) (by kernel_rfl) (fun _ _ _ h => h) (Or.inl ⟨by rfl, fun U hU => by go_simp⟩) hS ?_
    try simp only [List.setIfInBounds_toArray, List.set_cons_zero, List.set_cons_succ]
    refine take_at (i := 2) (v := .int .i64 (q : Int)) rfl rfl (by kernel_rfl) (by kernel_rfl) (by kernel_rfl) (fun _ _ _ h => h) (Or.inl ⟨by rfl, fun U hU => by go_simp⟩) hS ?_
    try simp only [List.setIfInBounds_toArray, List.set_cons_zero, List.set_cons_succ]
    refine take_at (i := 3) (v := .slice (some ⟨lb, 0, none⟩) L lc) rfl rfl (by kernel_rfl) (by kernel_rfl) (by kernel_rfl) (fun _ _ _ h => h) (Or.inl ⟨by rfl, fun U hU => by go_simp⟩) hS ?_
    try simp only [List.setIfInBounds_toArray, List.set_cons_zero, List.set_cons_succ]
    refine take_at (i := 4) (v := .int .i64 (q : Int)) rfl rfl (by kernel_rfl) (by kernel_rfl) (by kernel_rfl) (fun _ _ _ h => h) (Or.inl ⟨by rfl, fun U hU => by go_simp⟩) hS ?_
    try simp only [List.setIfInBounds_toArray, List.set_cons_zero, List.set_cons_succ]
    refine take_at (i := 5) (v := .int .i64 (J : Int)) rfl rfl (by kernel_rfl) (by kernel_rfl) (by kernel_rfl) (fun _ _ _ h => h) (Or.inl ⟨by rfl, fun U hU => by go_simp⟩) hS ?_
    try simp only [List.setIfInBounds_toArray, List.set_cons_zero, List.set_cons_succ]
    refine take_at (i := 6) (v := .slice (some ⟨lb, q * 32, none⟩) (J - q) (lc - q)) rfl rfl (by kernel_rfl) (by kernel_rfl) (by kernel_rfl) (fun _ _ _ h => h) (Or.inl ⟨by rfl, fun U hU => by go_simp⟩) hS ?_
    try simp only [List.setIfInBounds_toArray, List.set_cons_zero, List.set_cons_succ]
    refine take_at (i := 8) (v := .slice pa P pc) rfl rfl (by kernel_rfl) (by kernel_rfl) (by kernel_rfl) (fun _ _ _ h => h) (Or.inl ⟨by rfl, fun U hU => by go_simp⟩) hS ?_
    try simp only [List.setIfInBounds_toArray, List.set_cons_zero, List.set_cons_succ]
    refine take_at (i := 10) (v := .agg (ints .u8 now)) rfl rfl (by kernel_rfl) (by kernel_rfl) (by kernel_rfl) (fun _ _ _ h => h) (yields_box (by rfl) 28 _ rfl (x4) rfl _ 28 _ G10.out Try.underlying28 rfl (by rw [ints_size, HNl.out.1]; exact sizeKey)) hS ?_
    try simp only [List.setIfInBounds_toArray, List.set_cons_zero, List.set_cons_succ]
    refine wpAnyH_ready (rs := [7, 11]) (by kernel_rfl) (by simp) ?_
    refine AllReadyH.cons rfl (fun KQ hK => ?_) (AllReadyH.cons rfl (fun KQ hK => ?_) AllReadyH.nil)
    · rw [if_pos (by rfl)]
      go_simp
      have hE := owns_base hS.size (owns_empty U0 28 32)
      refine hK.out _ _ (hS.alloc hS.size _) (fun hS => ?_)
      clear hK
      generalize U0.heap.size = be at hE ⊢
      generalize U0.alloc (.cells #[] 28) = U1 at hE hS ⊢
      refine wpAnyH_ready (rs := [9, 11]) (by kernel_rfl) (by simp) ?_
      refine AllReadyH.cons rfl (fun KQ hK => ?_) (AllReadyH.cons rfl (fun KQ hK => ?_) AllReadyH.nil)
      · rw [if_pos (by rfl)]
        refine wp_append_rows _ _ 24 rfl 28 i0 z0 32 32 Try.underlying24 Hi.out hz0 hz1 hz2 hzs (by decide) _ 0 _ rfl hE _ P _ rfl (owns_below Q10.out hS) HPo.out (by have := HP.out; unfold maxLen; omega) (by have := HP.out; omega) hS.size ?_
        intro v6 U2 hown hgrow
        simp only [Act.put]
        refine hK.out _ _ (hS.grown hgrow hS.size (fun g e => (hE.lt g e).1)) (fun hS => ?_)
        clear hK
        refine wpAnyH_ready (rs := [11]) (by kernel_rfl) (by simp) ?_
        refine AllReadyH.cons rfl (fun KQ hK => ?_) AllReadyH.nil
        rw [if_pos (by rfl)]
        refine wp_buildSlice_one 24 28 _ rfl Try.underlying24 Hi.out hz0 (ints .u8 now) rfl (by rw [HZo.out, hz1]) (by rw [hz1]; decide) (by rw [hz1]; decide) ?_
        simp only [Act.put]
        have hX := heap_alloc_last U2 (.cells (ints .u8 now) 28)
        have hown := owns_below hown ((Below.refl U2.heap.size U2).alloc (Nat.le_refl _) (.cells (ints .u8 now) 28))
        refine hK.out _ _ (hS.alloc hS.size _) (fun hS => ?_)
        clear hK
        generalize U2.heap.size = gx at hX ⊢
        generalize U2.alloc (.cells (ints .u8 now) 28) = U3 at hX hown hS ⊢
        refine wpAnyH_ready (rs := [12]) (by kernel_rfl) (by simp) ?_
        refine AllReadyH.cons rfl (fun KQ hK => ?_) AllReadyH.nil
        rw [if_pos (by rfl)]
        refine wp_append_rows _ _ 24 rfl 28 i0 z0 32 32 Try.underlying24 Hi.out hz0 hz1 hz2 hzs (by decide) _ (0 + P) _ rfl hown _ 1 _ rfl (one_of_heapG hX HZo.out) HOo.out (by have := HP.out; unfold maxLen; omega) (by have := HP.out; omega) hS.size ?_
        intro v9 U9 hown9 hgrow9
        simp only [Act.put]
        refine hK.out _ _ (hS.grown hgrow9 hS.size (fun g e => (hown.lt g e).1)) (fun hS => ?_)
        clear hK
        rw [HTo.out, List.nil_append, ← List.map_append, Nat.zero_add] at hown9
        obtain ⟨qb, qc, rfl, hqc, hqm, _⟩ := owned_formG hown9 (by omega)
        have hR := rdk_of_owned (L := pl ++ now) (by rw [List.length_append, HPl.out, HNl.out.1]; omega) hown9
        clear hown9 hgrow9
        refine wpAnyH_ready (rs := [13]) (by kernel_rfl) (by simp) ?_
        refine AllReadyH.cons rfl (fun KQ hK => ?_) AllReadyH.nil
        rw [if_pos (by rfl)]
        go_simp
        refine (HC3.out _ _ _ (HSUB.out _ (R10.out.below hS)) hR).mono ?_
        rintro x U10 ⟨rfl, hb⟩
        refine hK.out _ _ (below_call hS hS.size hb) (fun hS => ?_)
        clear hb hK
        refine take_at (i := 14) (v := .tuple #[.bool false, .int .i64 0]) rfl rfl (by kernel_rfl) (by kernel_rfl) (by kernel_rfl) (fun _ _ _ h => h) (Or.inl ⟨by rfl, fun U hU => by go_simp⟩) hS ?_
        try simp only [List.setIfInBounds_toArray, List.set_cons_zero, List.set_cons_succ]
        refine take_at (i := 15) (v := .bool false) rfl rfl (by kernel_rfl) (by kernel_rfl) (by kernel_rfl) (fun _ _ _ h => h) (Or.inl ⟨by rfl, fun U hU => by go_simp⟩) hS ?_
        try simp only [List.setIfInBounds_toArray, List.set_cons_zero, List.set_cons_succ]
        refine take_at (i := 16) (v := .int .i64 0) rfl rfl (by kernel_rfl) (by kernel_rfl) (by kernel_rfl) (fun _ _ _ h => h) (Or.inl ⟨by rfl, fun U hU => by go_simp⟩) hS ?_
        try simp only [List.setIfInBounds_toArray, List.set_cons_zero, List.set_cons_succ]
        refine take_at (i := 17) (v := .bool false) rfl rfl (by kernel_rfl) (by kernel_rfl) (by kernel_rfl) (fun _ _ _ h => h) (Or.inl ⟨by rfl, fun U hU => by go_simp⟩) hS ?_
        try simp only [List.setIfInBounds_toArray, List.set_cons_zero, List.set_cons_succ]
        refine take_at (i := 18) (v := .int .i64 0) rfl rfl (by kernel_rfl) (by kernel_rfl) (by kernel_rfl) (fun _ _ _ h => h) (Or.inl ⟨by rfl, fun U hU => by go_simp⟩) hS ?_
        try simp only [List.setIfInBounds_toArray, List.set_cons_zero, List.set_cons_succ]
        refine wpAnyH_done (by kernel_rfl) ?_ _
        go_wp2_with fail
        go_meet
        exact ⟨rfl, rfl, hS⟩
      · rw [if_pos (by rfl)]
        refine wp_buildSlice_one 24 28 _ rfl Try.underlying24 Hi.out hz0 (ints .u8 now) rfl (by rw [HZo.out, hz1]) (by rw [hz1]; decide) (by rw [hz1]; decide) ?_
        simp only [Act.put]
        have hX := heap_alloc_last U1 (.cells (ints .u8 now) 28)
        have hne : U1.heap.size ≠ be := by have := (hE.lt be rfl).2; omega
        have hE := owns_below hE ((Below.refl U1.heap.size U1).alloc (Nat.le_refl _) (.cells (ints .u8 now) 28))
        refine hK.out _ _ (hS.alloc hS.size _) (fun hS => ?_)
        clear hK
        generalize U1.heap.size = gx at hX hne ⊢
        generalize U1.alloc (.cells (ints .u8 now) 28) = U2 at hX hE hS ⊢
        refine wpAnyH_ready (rs := [9]) (by kernel_rfl) (by simp) ?_
        refine AllReadyH.cons rfl (fun KQ hK => ?_) AllReadyH.nil
        rw [if_pos (by rfl)]
        refine wp_append_rows _ _ 24 rfl 28 i0 z0 32 32 Try.underlying24 Hi.out hz0 hz1 hz2 hzs (by decide) _ 0 _ rfl hE _ P _ rfl (owns_below Q10.out hS) HPo.out (by have := HP.out; unfold maxLen; omega) (by have := HP.out; omega) hS.size ?_
        intro v6 U3 hown hgrow
        simp only [Act.put]
        have hX := (hgrow.block gx (Array.getElem?_eq_some_iff.1 hX).1 (fun e => hne (Option.some.inj e))).trans hX
        refine hK.out _ _ (hS.grown hgrow hS.size (fun g e => (hE.lt g e).1)) (fun hS => ?_)
        clear hK
        refine wpAnyH_ready (rs := [12]) (by kernel_rfl) (by simp) ?_
        refine AllReadyH.cons rfl (fun KQ hK => ?_) AllReadyH.nil
        rw [if_pos (by rfl)]
        refine wp_append_rows _ _ 24 rfl 28 i0 z0 32 32 Try.underlying24 Hi.out hz0 hz1 hz2 hzs (by decide) _ (0 + P) _ rfl hown _ 1 _ rfl (one_of_heapG hX HZo.out) HOo.out (by have := HP.out; unfold maxLen; omega) (by have := HP.out; omega) hS.size ?_
        intro v9 U9 hown9 hgrow9
        simp only [Act.put]
        refine hK.out _ _ (hS.grown hgrow9 hS.size (fun g e => (hown.lt g e).1)) (fun hS => ?_)
        clear hK
        rw [HTo.out, List.nil_append, ← List.map_append, Nat.zero_add] at hown9
        obtain ⟨qb, qc, rfl, hqc, hqm, _⟩ := owned_formG hown9 (by omega)
        have hR := rdk_of_owned (L := pl ++ now) (by rw [List.length_append, HPl.out, HNl.out.1]; omega) hown9
        clear hown9 hgrow9
        refine wpAnyH_ready (rs := [13]) (by kernel_rfl) (by simp) ?_
        refine AllReadyH.cons rfl (fun KQ hK => ?_) AllReadyH.nil
        rw [if_pos (by rfl)]
        go_simp
        refine (HC3.out _ _ _ (HSUB.out _ (R10.out.below hS)) hR).mono ?_
        rintro x U10 ⟨rfl, hb⟩
        refine hK.out _ _ (below_call hS hS.size hb) (fun hS => ?_)
        clear hb hK
        refine take_at (i := 14) (v := .tuple #[.bool false, .int .i64 0]) rfl rfl (by kernel_rfl) (by kernel_rfl) (by kernel_rfl) (fun _ _ _ h => h) (Or.inl ⟨by rfl, fun U hU => by go_simp⟩) hS ?_
        try simp only [List.setIfInBounds_toArray, List.set_cons_zero, List.set_cons_succ]
        refine take_at (i := 15) (v := .bool false) rfl rfl (by kernel_rfl) (by kernel_rfl) (by kernel_rfl) (fun _ _ _ h => h) (Or.inl ⟨by rfl, fun U hU => by go_simp⟩) hS ?_
        try simp only [List.setIfInBounds_toArray, List.set_cons_zero, List.set_cons_succ]
        refine take_at (i := 16) (v := .int .i64 0) rfl rfl (by kernel_rfl) (by kernel_rfl) (by kernel_rfl) (fun _ _ _ h => h) (Or.inl ⟨by rfl, fun U hU => by go_simp⟩) hS ?_
        try simp only [List.setIfInBounds_toArray, List.set_cons_zero, List.set_cons_succ]
        refine take_at (i := 17) (v := .bool false) rfl rfl (by kernel_rfl) (by kernel_rfl) (by kernel_rfl) (fun _ _ _ h => h) (Or.inl ⟨by rfl, fun U hU => by go_simp⟩) hS ?_
        try simp only [List.setIfInBounds_toArray, List.set_cons_zero, List.set_cons_succ]
        refine take_at (i := 18) (v := .int .i64 0) rfl rfl (by kernel_rfl) (by kernel_rfl) (by kernel_rfl) (fun _ _ _ h => h) (Or.inl ⟨by rfl, fun U hU => by go_simp⟩) hS ?_
        try simp only [List.setIfInBounds_toArray, List.set_cons_zero, List.set_cons_succ]
        refine wpAnyH_done (by kernel_rfl) ?_ _
        go_wp2_with fail
        go_meet
        exact ⟨rfl, rfl, hS⟩
    · rw [if_pos (by rfl)]
      refine wp_buildSlice_one 24 28 _ rfl Try.underlying24 Hi.out hz0 (ints .u8 now) rfl (by rw [HZo.out, hz1]) (by rw [hz1]; decide) (by rw [hz1]; decide) ?_
      simp only [Act.put]
      have hX := heap_alloc_last U0 (.cells (ints .u8 now) 28)
      refine hK.out _ _ (hS.alloc hS.size _) (fun hS => ?_)
      clear hK
      generalize U0.heap.size = gx at hX ⊢
      generalize U0.alloc (.cells (ints .u8 now) 28) = U1 at hX hS ⊢
      refine wpAnyH_ready (rs := [7]) (by kernel_rfl) (by simp) ?_
      refine AllReadyH.cons rfl (fun KQ hK => ?_) AllReadyH.nil
      rw [if_pos (by rfl)]
      go_simp
      have hE := owns_base hS.size (owns_empty U1 28 32)
      have hne : gx ≠ U1.heap.size := by have := (Array.getElem?_eq_some_iff.1 hX).1; omega
      have hX := keep_block hX ((Below.refl U1.heap.size U1).alloc (Nat.le_refl _) (.cells #[] 28))
      refine hK.out _ _ (hS.alloc hS.size _) (fun hS => ?_)
      clear hK
      generalize U1.heap.size = be at hE hne ⊢
      generalize U1.alloc (.cells #[] 28) = U2 at hE hS hX ⊢
      refine wpAnyH_ready (rs := [9]) (by kernel_rfl) (by simp) ?_
      refine AllReadyH.cons rfl (fun KQ hK => ?_) AllReadyH.nil
      rw [if_pos (by rfl)]
      refine wp_append_rows _ _ 24 rfl 28 i0 z0 32 32 Try.underlying24 Hi.out hz0 hz1 hz2 hzs (by decide) _ 0 _ rfl hE _ P _ rfl (owns_below Q10.out hS) HPo.out (by have := HP.out; unfold maxLen; omega) (by have := HP.out; omega) hS.size ?_
      intro v6 U3 hown hgrow
      simp only [Act.put]
      have hX := (hgrow.block gx (Array.getElem?_eq_some_iff.1 hX).1 (fun e => hne (Option.some.inj e))).trans hX
      refine hK.out _ _ (hS.grown hgrow hS.size (fun g e => (hE.lt g e).1)) (fun hS => ?_)
      clear hK
      refine wpAnyH_ready (rs := [12]) (by kernel_rfl) (by simp) ?_
      refine AllReadyH.cons rfl (fun KQ hK => ?_) AllReadyH.nil
      rw [if_pos (by rfl)]
      refine wp_append_rows _ _ 24 rfl 28 i0 z0 32 32 Try.underlying24 Hi.out hz0 hz1 hz2 hzs (by decide) _ (0 + P) _ rfl hown _ 1 _ rfl (one_of_heapG hX HZo.out) HOo.out (by have := HP.out; unfold maxLen; omega) (by have := HP.out; omega) hS.size ?_
      intro v9 U9 hown9 hgrow9
      simp only [Act.put]
      refine hK.out _ _ (hS.grown hgrow9 hS.size (fun g e => (hown.lt g e).1)) (fun hS => ?_)
      clear hK
      rw [HTo.out, List.nil_append, ← List.map_append, Nat.zero_add] at hown9
      obtain ⟨qb, qc, rfl, hqc, hqm, _⟩ := owned_formG hown9 (by omega)
      have hR := rdk_of_owned (L := pl ++ now) (by rw [List.length_append, HPl.out, HNl.out.1]; omega) hown9
      clear hown9 hgrow9
      refine wpAnyH_ready (rs := [13]) (by kernel_rfl) (by simp) ?_
      refine AllReadyH.cons rfl (fun KQ hK => ?_) AllReadyH.nil
      rw [if_pos (by rfl)]
      go_simp
      refine (HC3.out _ _ _ (HSUB.out _ (R10.out.below hS)) hR).mono ?_
      rintro x U10 ⟨rfl, hb⟩
      refine hK.out _ _ (below_call hS hS.size hb) (fun hS => ?_)
      clear hb hK
      refine take_at (i := 14) (v := .tuple #[.bool false, .int .i64 0]) rfl rfl (by kernel_rfl) (by kernel_rfl) (by kernel_rfl) (fun _ _ _ h => h) (Or.inl ⟨by rfl, fun U hU => by go_simp⟩) hS ?_
      try simp only [List.setIfInBounds_toArray, List.set_cons_zero, List.set_cons_succ]
      refine take_at (i := 15) (v := .bool false) rfl rfl (by kernel_rfl) (by kernel_rfl) (by kernel_rfl) (fun _ _ _ h => h) (Or.inl ⟨by rfl, fun U hU => by go_simp⟩) hS ?_
      try simp only [List.setIfInBounds_toArray, List.set_cons_zero, List.set_cons_succ]
      refine take_at (i := 16) (v := .int .i64 0) rfl rfl (by kernel_rfl) (by kernel_rfl) (by kernel_rfl) (fun _ _ _ h => h) (Or.inl ⟨by rfl, fun U hU => by go_simp⟩) hS ?_
      try simp only [List.setIfInBounds_toArray, List.set_cons_zero, List.set_cons_succ]
      refine take_at (i := 17) (v := .bool false) rfl rfl (by kernel_rfl) (by kernel_rfl) (by kernel_rfl) (fun _ _ _ h => h) (Or.inl ⟨by rfl, fun U hU => by go_simp⟩) hS ?_
      try simp only [List.setIfInBounds_toArray, List.set_cons_zero, List.set_cons_succ]
      refine take_at (i := 18) (v := .int .i64 0) rfl rfl (by kernel_rfl) (by kernel_rfl) (by kernel_rfl) (fun _ _ _ h => h) (Or.inl ⟨by rfl, fun U hU => by go_simp⟩) hS ?_
      try simp only [List.setIfInBounds_toArray, List.set_cons_zero, List.set_cons_succ]
      refine wpAnyH_done (by kernel_rfl) ?_ _
      go_wp2_with fail
      go_meet
      exact ⟨rfl, rfl, hS⟩
  case rest =>
    obtain ⟨rfl, rfl, hbc⟩ := hcut
    have B11 := Lib.hid (below_call B10.out B10.out.size hbc)
    have G11 := Lib.hid (keep_block G10.out hbc)
    have R11 := Lib.hid (R10.out.below hbc)
    have O11 := Lib.hid (owns_below O10.out hbc)
    clear hbc G10 R10 O10 Q10 HC1 HC2 HC3 HR1 HR2
    go_wp2_with fail
    refine (HR3.out _ R11.out).mono ?_
    rintro x w12 ⟨v12, rfl, ho12, hb⟩
    obtain ⟨sa, sc, rfl⟩ := owns_slc ho12
    have B12 := Lib.hid (below_call B11.out B11.out.size hb)
    have G12 := Lib.hid (keep_block G11.out hb)
    have R12 := Lib.hid (R11.out.below hb)
    have O12 := Lib.hid (owns_below O11.out hb)
    clear hb ho12 G11 R11 O11 HR3
    go_wp2_with fail
    refine (HTD.out _).mono ?_
    rintro x w13 ⟨rfl, hb⟩
    have B13 := Lib.hid (below_call B12.out B12.out.size hb)
    have G13 := Lib.hid (keep_block G12.out hb)
    have R13 := Lib.hid (R12.out.below hb)
    have O13 := Lib.hid (owns_below O12.out hb)
    clear hb G12 R12 O12 HTD
    have LA := (Below.refl w13.heap.size w13).alloc (Nat.le_refl _) (.cells #[] 28)
    have BA := Lib.hid (below_call B13.out B13.out.size LA)
    have GA := Lib.hid (keep_block G13.out LA)
    have RA := Lib.hid (R13.out.below LA)
    have OA := Lib.hid (owns_below O13.out LA)
    have EA := Lib.hid (owns_empty w13 28 32)
    have HLB : Hid (lb < w13.heap.size) := Lib.hid (by
      rcases R13.out.2 with h0 | ⟨b', o', e, hb', _⟩
      · omega
      · cases e; exact hb')
    have HX4 : Hid (x4 < w13.heap.size) := Lib.hid (Array.getElem?_eq_some_iff.1 G13.out).1
    have HFo : Hid (∀ y ∈ fl.map (Value.int .u8), y.oneCell' = true) := Lib.hid (fun u hu => by
      obtain ⟨z, _, rfl⟩ := List.mem_map.1 hu
      rfl)
    clear LA
    have dd1 : (D : Int) ≤ 1048576 := by have := HDL.out; omega
    have dd0 : (0 : Int) ≤ (D : Int) := by omega
    go_wp2_with (at_builtin; refine wpList_append_rowsT rfl _ _ 24 rfl 28 i0 z0 32 32 Try.underlying24 Hi.out hz0 hz1 hz2 hzs (by decide) _ 0 _ rfl EA.out _ L _ rfl OA.out ?c1 ?c2 ?c3 ?c4 ?_)
    case c1 => exact HFo.out
    case c2 => unfold maxLen; omega
    case c3 => omega
    case c4 => simp
    intro v14 w14 hown14 hgrow14
    have B14 := Lib.hid (B13.out.trans ((((Below.refl w13.heap.size w13).alloc (Nat.le_refl _) (.cells #[] 28)).grown hgrow14 (by simp) (fun g e => (EA.out.lt g e).1)).mono B13.out.size))
    have L14 := (((Below.refl w13.heap.size w13).alloc (Nat.le_refl _) (.cells #[] 28)).grown hgrow14 (by simp) (fun g e => (EA.out.lt g e).1))
    have G14 := Lib.hid (keep_block G13.out L14)
    have R14 := Lib.hid (R13.out.below L14)
    try simp only [List.nil_append, Nat.zero_add] at hown14
    obtain ⟨ob, oc, rfl, hoc, hom, hob⟩ := owned_formG hown14 hL1
    have M14 := Lib.hid (rdk_of_owned HL.out hown14)
    have HFR : Hid (∀ o, w14.frozen? ⟨ob, o, none⟩ = false) := Lib.hid (by
      rcases hown14.2 with h0 | ⟨b', cap', cur', e, _, hh, _⟩
      · omega
      · cases e; exact fun o => frozen_of_row w14 ob o _ _ hh)
    have B13B : Hid (w.heap.size ≤ w13.heap.size) := Lib.hid B13.out.size
    have HOB : Hid (w13.heap.size ≤ ob) := Lib.hid hob
    clear hown14 hgrow14 L14 hob B13 G13 R13 O13 BA GA RA OA EA HFo
    have e20 : (q : Int) < (oc : Int) := by omega
    go_upto_region 20 with fail
    go_cut [25] (fun s25 wx => s25 = .slice (some ⟨ob, 0, none⟩) L oc ∧ ∃ (k : Nat) (z : Int), 0 ≤ z ∧ z ≤ 255 ∧ RdK wx (some ⟨ob, 0, none⟩) L (fl.set k z) ∧ RdK wx (some ⟨lb, 0, none⟩) L fl ∧ wx.heap[x4]? = some (.cells (ints .u8 now) 28) ∧ Below w.heap.size w wx)
    case first =>
      have hm : RdK (w14.drew) (some ⟨ob, 0, none⟩) L fl := M14.out.below (Below.refl _ _).drew
      have hr : RdK (w14.drew) (some ⟨lb, 0, none⟩) L fl := R14.out.below (Below.refl _ _).drew
      have hg := keep_block G14.out (Below.refl w14.heap.size w14).drew
      have hbb := B14.out.drew
      have hfr : ∀ o, (w14.drew).frozen? ⟨ob, o, none⟩ = false := fun o => HFR.out o
      refine wp_region_held_drew (S := fun _ => True) (by kernel_rfl) trivial (fun hS => ?_)
      generalize w14.drew = U0 at hm hr hg hbb hfr ⊢
      refine take_at (i := 0) (v := .slice (some ⟨ob, 0, none⟩) L oc) rfl rfl (by kernel_rfl) (by kernel_rfl) (by kernel_rfl) (fun _ _ _ h => h) (Or.inl ⟨by rfl, fun U hU => by go_simp⟩) hS ?_
      try simp only [List.setIfInBounds_toArray, List.set_cons_zero, List.set_cons_succ]
      refine take_at (i := 1) (v := .int .i64 (q : Int)) rfl rfl (by kernel_rfl) (by kernel_rfl) (by kernel_rfl) (fun _ _ _ h => h) (Or.inl ⟨by rfl, fun U hU => by go_simp⟩) hS ?_
      try simp only [List.setIfInBounds_toArray, List.set_cons_zero, List.set_cons_succ]
      refine take_at (i := 2) (v := .slice a2 n2 c2) rfl rfl (by kernel_rfl) (by kernel_rfl) (by kernel_rfl) (fun _ _ _ h => h) (Or.inl ⟨by rfl, fun U hU => by go_simp⟩) hS ?_
      try simp only [List.setIfInBounds_toArray, List.set_cons_zero, List.set_cons_succ]
      refine take_at (i := 4) (v := .pointer (some ⟨ob, q * 32, none⟩)) rfl rfl (by kernel_rfl) (by kernel_rfl) (by kernel_rfl) (fun _ _ _ h => h) (Or.inl ⟨by rfl, fun U hU => by go_simp⟩) hS ?_
      try simp only [List.setIfInBounds_toArray, List.set_cons_zero, List.set_cons_succ]
      refine take_at (i := 7) (v := .slice a2 n2 c2) rfl rfl (by kernel_rfl) (by kernel_rfl) (by kernel_rfl) (fun _ _ _ h => h) (Or.inl ⟨by rfl, fun U hU => by go_simp⟩) hS ?_
      try simp only [List.setIfInBounds_toArray, List.set_cons_zero, List.set_cons_succ]
      refine take_at (i := 11) (v := .pointer (some ⟨ob, q * 32, none⟩)) rfl rfl (by kernel_rfl) (by kernel_rfl) (by kernel_rfl) (fun _ _ _ h => h) (Or.inl ⟨by rfl, fun U hU => by go_simp⟩) hS ?_
      try simp only [List.setIfInBounds_toArray, List.set_cons_zero, List.set_cons_succ]
      refine wpAnyH_ready (rs := [3]) (by kernel_rfl) (by simp) ?_
      refine AllReadyH.cons rfl (fun KQ hK => ?_) AllReadyH.nil
      rw [if_pos (by rfl)]
      go_simp
      refine (Hat.out 3 (by omega) 32 (by omega) (by omega) _ hbb).mono ?_
      rintro x U' ⟨ra, rfl, ra0, ra1, rfl⟩
      refine hK.out _ _ trivial (fun hS => ?_)
      clear hK
      obtain ⟨i, rfl⟩ := Int.eq_ofNat_of_zero_le ra0
      have hi32 : i < 32 := by omega
      have i0' : (0 : Int) ≤ (i : Int) := ra0
      have i1' : (i : Int) < 32 := ra1
      have i2' : ¬ (32 : Int) ≤ (i : Int) := by omega
      have hko : q * 32 + i < 32 * L := by omega
      obtain ⟨y, hy, hy0, hy1⟩ : ∃ y : Int, fl[q * 32 + i]?.getD 0 = y ∧ 0 ≤ y ∧ y ≤ 255 := ⟨_, rfl, by
        have hlt : q * 32 + i < fl.length := by have := HL.out; omega
        rw [List.getElem?_eq_getElem hlt]
        exact FB.out _ (List.getElem_mem hlt)⟩
      have cy : U0.cell? ⟨ob, q * 32 + i, none⟩ = some (.int .u8 y) := by
        rcases hm.2 with h0 | ⟨b', o', e, _, hc⟩
        · omega
        · cases e
          have := hc (q * 32 + i) hko
          rwa [Nat.zero_add, hy] at this
      have fy : U0.frozen? ⟨ob, q * 32 + i, none⟩ = false := hfr _
      refine take_at (i := 5) (v := .pointer (some ⟨ob, q * 32 + i, none⟩)) rfl rfl (by kernel_rfl) (by kernel_rfl) (by kernel_rfl) (fun _ _ _ h => h) (Or.inl ⟨by rfl, fun U hU => by go_simp⟩) hS ?_
      try simp only [List.setIfInBounds_toArray, List.set_cons_zero, List.set_cons_succ]
      refine wpAnyH_ready (rs := [6, 8]) (by kernel_rfl) (by simp) ?_
      refine AllReadyH.cons rfl (fun KQ hK => ?_) (AllReadyH.cons rfl (fun KQ hK => ?_) AllReadyH.nil)
      · rw [if_pos (by rfl)]
        go_simp
        refine hK.out _ _ trivial (fun hS => ?_)
        clear hK
        refine wpAnyH_ready (rs := [8]) (by kernel_rfl) (by simp) ?_
        refine AllReadyH.cons rfl (fun KQ hK => ?_) AllReadyH.nil
        rw [if_pos (by rfl)]
        go_simp
        refine (Hat.out 4 (by omega) 256 (by omega) (by omega) _ hbb).mono ?_
        rintro x U' ⟨rb, rfl, rb0, rb1, rfl⟩
        refine hK.out _ _ trivial (fun hS => ?_)
        clear hK
        have brb : rb ≤ 255 := by omega
        have hwr : IntKind.u8.wrap rb = rb := by rw [IntKind.wrap_u8]; omega
        refine take_at (i := 9) (v := .int .u8 rb) rfl rfl (by kernel_rfl) (by kernel_rfl) (by kernel_rfl) (fun _ _ _ h => h) (Or.inl ⟨by rfl, fun U hU => by go_simp⟩) hS ?_
        try simp only [List.setIfInBounds_toArray, List.set_cons_zero, List.set_cons_succ]
        have hx := xor_rangeT y rb hy0 hy1 rb0 (by omega)
        have hM := RdK_set (z := bits BinOp.xor IntKind.u8 y rb) hm hko
        rw [Nat.zero_add] at hM
        have hne : ob ≠ lb := by have := HOB.out; have := HLB.out; omega
        have hne4 : x4 ≠ ob := by have := HOB.out; have := HX4.out; omega
        have hR : RdK (U0.setCell ⟨ob, q * 32 + i, none⟩ (.int .u8 (bits BinOp.xor IntKind.u8 y rb))) (some ⟨lb, 0, none⟩) L fl := by
          refine ⟨hr.1, ?_⟩
          rcases hr.2 with h0 | ⟨b', o', e, hb', hc⟩
          · exact Or.inl h0
          · cases e
            exact Or.inr ⟨lb, 0, rfl, by simpa using hb', fun j hj => by rw [World.cell?_setCell_other _ _ _ _ (by intro e; injection e with e1; exact hne e1)]; exact hc j hj⟩
        have hG := (heap_setCell_other U0 ⟨ob, q * 32 + i, none⟩ x4 (.int .u8 (bits BinOp.xor IntKind.u8 y rb)) hne4).trans hg
        have hB := hbb.trans (Below.setCell (p := ⟨ob, q * 32 + i, none⟩) (Below.refl w.heap.size U0) (by show w.heap.size ≤ ob; have := HOB.out; have := B13B.out; omega) (.int .u8 (bits BinOp.xor IntKind.u8 y rb)))
        have b0 := hx.1
        have b1 := hx.2
        refine take_at (i := 10) (v := .int .u8 (bits BinOp.xor IntKind.u8 y rb)) rfl rfl (by kernel_rfl) (by kernel_rfl) (by kernel_rfl) (fun _ _ _ h => h) (Or.inl ⟨by rfl, fun U hU => by go_simp⟩) hS ?_
        try simp only [List.setIfInBounds_toArray, List.set_cons_zero, List.set_cons_succ]
        refine take_at (i := 12) (v := .pointer (some ⟨ob, q * 32 + i, none⟩)) rfl rfl (by kernel_rfl) (by kernel_rfl) (by kernel_rfl) (fun _ _ _ h => h) (Or.inl ⟨by rfl, fun U hU => by go_simp⟩) hS ?_
        try simp only [List.setIfInBounds_toArray, List.set_cons_zero, List.set_cons_succ]
        refine wpAnyH_ready (rs := [13]) (by kernel_rfl) (by simp) ?_
        refine AllReadyH.cons rfl (fun KQ hK => ?_) AllReadyH.nil
        rw [if_pos (by rfl)]
        go_simp
        refine hK.out _ _ trivial (fun hS => ?_)
        clear hK
        refine wpAnyH_done (by kernel_rfl) ?_ _
        go_wp2_with fail
        go_meet
        exact ⟨rfl, q * 32 + i, _, hx.1, hx.2, hM, hR, hG, hB⟩
      · rw [if_pos (by rfl)]
        go_simp
        refine (Hat.out 4 (by omega) 256 (by omega) (by omega) _ hbb).mono ?_
        rintro x U' ⟨rb, rfl, rb0, rb1, rfl⟩
        refine hK.out _ _ trivial (fun hS => ?_)
        clear hK
        have brb : rb ≤ 255 := by omega
        have hwr : IntKind.u8.wrap rb = rb := by rw [IntKind.wrap_u8]; omega
        refine take_at (i := 9) (v := .int .u8 rb) rfl rfl (by kernel_rfl) (by kernel_rfl) (by kernel_rfl) (fun _ _ _ h => h) (Or.inl ⟨by rfl, fun U hU => by go_simp⟩) hS ?_
        try simp only [List.setIfInBounds_toArray, List.set_cons_zero, List.set_cons_succ]
        refine wpAnyH_ready (rs := [6]) (by kernel_rfl) (by simp) ?_
        refine AllReadyH.cons rfl (fun KQ hK => ?_) AllReadyH.nil
        rw [if_pos (by rfl)]
        go_simp
        refine hK.out _ _ trivial (fun hS => ?_)
        clear hK
        have hx := xor_rangeT y rb hy0 hy1 rb0 (by omega)
        have hM := RdK_set (z := bits BinOp.xor IntKind.u8 y rb) hm hko
        rw [Nat.zero_add] at hM
        have hne : ob ≠ lb := by have := HOB.out; have := HLB.out; omega
        have hne4 : x4 ≠ ob := by have := HOB.out; have := HX4.out; omega
        have hR : RdK (U0.setCell ⟨ob, q * 32 + i, none⟩ (.int .u8 (bits BinOp.xor IntKind.u8 y rb))) (some ⟨lb, 0, none⟩) L fl := by
          refine ⟨hr.1, ?_⟩
          rcases hr.2 with h0 | ⟨b', o', e, hb', hc⟩
          · exact Or.inl h0
          · cases e
            exact Or.inr ⟨lb, 0, rfl, by simpa using hb', fun j hj => by rw [World.cell?_setCell_other _ _ _ _ (by intro e; injection e with e1; exact hne e1)]; exact hc j hj⟩
        have hG := (heap_setCell_other U0 ⟨ob, q * 32 + i, none⟩ x4 (.int .u8 (bits BinOp.xor IntKind.u8 y rb)) hne4).trans hg
        have hB := hbb.trans (Below.setCell (p := ⟨ob, q * 32 + i, none⟩) (Below.refl w.heap.size U0) (by show w.heap.size ≤ ob; have := HOB.out; have := B13B.out; omega) (.int .u8 (bits BinOp.xor IntKind.u8 y rb)))
        have b0 := hx.1
        have b1 := hx.2
        refine take_at (i := 10) (v := .int .u8 (bits BinOp.xor IntKind.u8 y rb)) rfl rfl (by kernel_rfl) (by kernel_rfl) (by kernel_rfl) (fun _ _ _ h => h) (Or.inl ⟨by rfl, fun U hU => by go_simp⟩) hS ?_
        try simp only [List.setIfInBounds_toArray, List.set_cons_zero, List.set_cons_succ]
        refine take_at (i := 12) (v := .pointer (some ⟨ob, q * 32 + i, none⟩)) rfl rfl (by kernel_rfl) (by kernel_rfl) (by kernel_rfl) (fun _ _ _ h => h) (Or.inl ⟨by rfl, fun U hU => by go_simp⟩) hS ?_
        try simp only [List.setIfInBounds_toArray, List.set_cons_zero, List.set_cons_succ]
        refine wpAnyH_ready (rs := [13]) (by kernel_rfl) (by simp) ?_
        refine AllReadyH.cons rfl (fun KQ hK => ?_) AllReadyH.nil
        rw [if_pos (by rfl)]
        go_simp
        refine hK.out _ _ trivial (fun hS => ?_)
        clear hK
        refine wpAnyH_done (by kernel_rfl) ?_ _
        go_wp2_with fail
        go_meet
        exact ⟨rfl, q * 32 + i, _, hx.1, hx.2, hM, hR, hG, hB⟩
    case rest =>
      obtain ⟨rfl, k, z, hz0', hz1', hM, hR, hG, hB⟩ := hcut
      have M15 := Lib.hid hM
      have R15 := Lib.hid hR
      have G15 := Lib.hid hG
      have B15 := Lib.hid hB
      have FG : Hid (∀ y ∈ fl.set k z, 0 ≤ y ∧ y ≤ 255) := Lib.hid (fun y hy => by
        rcases List.mem_or_eq_of_mem_set hy with h | rfl
        · exact FB.out y h
        · exact ⟨hz0', hz1'⟩)
      have HGL : Hid ((fl.set k z).length = 32 * L) := Lib.hid (by rw [List.length_set]; exact HL.out)
      clear hM hR hG hB
      generalize fl.set k z = gl at M15 FG HGL
      have HK2 := Lib.hid (tkey32 (b := 0) HGL.out FG.out hL1 (by omega))
      have HLK := Lib.hid (HlL.out ob oc gl FG.out)
      have HCL := Lib.hid (fun U (h1 : RdK U (some ⟨lb, 0, none⟩) L fl) (h2 : RdK U (some ⟨ob, 0, none⟩) L gl) => cl_impl (some ⟨lb, 0, none⟩) (some ⟨ob, 0, none⟩) L L lc oc fl gl (by omega) (by omega) hlc hoc hlm hom FB.out FG.out U h1 h2)
      have HSM := Lib.hid (fun U (h1 : RdK U (some ⟨lb, 0, none⟩) L fl) (h2 : RdK U (some ⟨ob, 0, none⟩) L gl) => same_spec (some ⟨lb, 0, none⟩) (some ⟨ob, 0, none⟩) L L lc oc fl gl (by omega) (by omega) U h1 h2)
      obtain ⟨cx, cy, cu, cv, hcc, hcx, hcy, hcu, hcv⟩ := clV_size (n := L) (m := L) HL.out HGL.out FB.out FG.out
      have HVL : Hid ((clV L L fl gl).length = 128) := Lib.hid (by rw [hcc]; exact four_len hcx hcy hcu hcv)
      clear hcc hcx hcy hcu hcv cx cy cu cv
      have h256 : ¬ (256 < L ∨ 256 < L) := by omega
      have HKW : Hid (tkey (keyAt gl) 0 L = now → tkey (keyAt fl) 0 L = tkey (keyAt gl) 0 L) := Lib.hid (fun h => by rw [HNW.out, h])
      have HE4 : Hid (tkey (keyAt gl) 0 L ≠ now → clE L L fl gl = 4) := Lib.hid (fun h => by
        unfold clE
        rw [if_neg h256, if_pos (Or.inr (Or.inr (by rw [HNW.out]; exact fun e => h e.symm)))])
      have HE6 : Hid (tkey (keyAt gl) 0 L = now → fl = gl → clE L L fl gl = 6) := Lib.hid (fun h h' => by
        unfold clE
        rw [if_neg h256, if_neg (by rintro (e | e | e); exact e rfl; omega; exact e (HKW.out h)), if_pos h'])
      have HE0 : Hid (tkey (keyAt gl) 0 L = now → ¬ fl = gl → clE L L fl gl = 0 ∧ isCl (clV L L fl gl)) := Lib.hid (fun h h' => by
        unfold clE clV
        have ho : ¬ (L ≠ L ∨ L = 0 ∨ tkey (keyAt fl) 0 L ≠ tkey (keyAt gl) 0 L) := by rintro (e | e | e); exact e rfl; omega; exact e (HKW.out h)
        rw [if_neg h256, if_neg ho, if_neg h', if_neg h256, if_neg ho, if_neg h']
        exact ⟨rfl, clK_is HL.out HGL.out FB.out FG.out L 0 (by omega) ⟨hL1, HKW.out h, by rw [subK_all HL.out, subK_all HGL.out]; exact h'⟩⟩)
      generalize clV L L fl gl = V at HCL HVL HE0
      generalize clE L L fl gl = E at HCL HE4 HE6 HE0
      have Hqe := Lib.hid (fun U => eqlIn2 (tkey (keyAt gl) 0 L) now HK2.out.1 HNl.out.1 U)
      clear HKW
      generalize tkey (keyAt gl) 0 L = key2 at HK2 HLK Hqe HE4 HE6 HE0
      go_wp2_with fail
      refine (HLK.out _ M15.out).mono ?_
      rintro x w16 ⟨rfl, hb⟩
      have L16 := laid_below w16 (ints .u8 z32) (ints .u8 key2) 28
      have BW := hb.trans (L16.mono hb.size)
      have G16 := Lib.hid (laid_new w16 (ints .u8 z32) (ints .u8 key2) 28)
      have N16 := Lib.hid (keep_block G15.out BW)
      have B16 := Lib.hid (below_call B15.out B15.out.size BW)
      have R16 := Lib.hid (R15.out.below BW)
      have M16 := Lib.hid (M15.out.below BW)
      clear L16 BW hb
      go_wp2_with (refine wpList_store_row rfl 28 (.tmp 26) _ rfl w16.heap.size (ints .u8 key2) rfl rfl 28 (ints .u8 z32) (by rw [Hz.out]; exact heap_alloc_last _ _) (by rw [ints_size, HK2.out.1]; exact sizeKey) (by rw [ints_size, ints_size, HK2.out.1]; rfl) (ints_one _ _) ?_)
      rw [← Hz.out]
      generalize (w16.alloc (.cells (ints .u8 z32) 28)).setRow w16.heap.size (ints .u8 key2) = W16 at G16 N16 B16 R16 M16 ⊢
      generalize w16.heap.size = x16 at G16 ⊢
      refine (HCL.out _ R16.out M16.out).mono ?_
      rintro x w17 ⟨rfl, hb⟩
      have Hzc := Lib.hid z128_ints
      have L17 := laid_below w17 (ints .u8 z128) (ints .u8 V) 38
      have BW := hb.trans (L17.mono hb.size)
      have C17 := Lib.hid (laid_new w17 (ints .u8 z128) (ints .u8 V) 38)
      have G17 := Lib.hid (keep_block G16.out BW)
      have N17 := Lib.hid (keep_block N16.out BW)
      have B17 := Lib.hid (below_call B16.out B16.out.size BW)
      have R17 := Lib.hid (R16.out.below BW)
      have M17 := Lib.hid (M16.out.below BW)
      clear L17 BW hb
      rw [Hzc.out] at C17 G17 N17 B17 R17 M17
      by_cases he : key2 = now
      · rw [decide_eq_true he] at Hqe
        have hq := Hqe.out
        by_cases hs : fl = gl
        · have hE := HE6.out he hs
          rw [decide_eq_true hs] at HSM
          subst hE
          clear hs he HE4 HE0 HE6
          go_wp2_with (first | (refine wpList_store_row rfl 38 (.tmp 28) _ rfl w17.heap.size (ints .u8 V) rfl rfl 38 (ints .u8 z128) (by rw [Hzc.out]; exact heap_alloc_last _ _) (by rw [ints_size, HVL.out]; exact sizeClash) (by rw [ints_size, ints_size, HVL.out]; rfl) (ints_one _ _) ?_) | (refine wpList_load_row rfl 28 (.tmp 26) rfl x16 rfl 28 (ints .u8 key2) (0, 0) _ G17.out Try.underlying28 rfl (by rw [ints_size, HK2.out.1]; exact sizeKey) ?_) | (refine wpList_load_row rfl 28 (.tmp 7) rfl x4 rfl 28 (ints .u8 now) (0, 0) _ N17.out Try.underlying28 rfl (by rw [ints_size, HNl.out.1]; exact sizeKey) ?_))
          refine (HSM.out _ R17.out M17.out).mono ?_
          rintro x w18 ⟨rfl, hb⟩
          have B18 := Lib.hid (below_call B17.out B17.out.size hb)
          clear hb hq
          go_wp2_with fail
          go_ret
          exact ⟨rfl, B18.out⟩
        · have hE := (HE0.out he hs).1
          have HVS := Lib.hid (fun U => valid_cl (HE0.out he hs).2 U)
          rw [decide_eq_false hs] at HSM
          subst hE
          clear hs he HE4 HE0 HE6
          go_wp2_with (first | (refine wpList_store_row rfl 38 (.tmp 28) _ rfl w17.heap.size (ints .u8 V) rfl rfl 38 (ints .u8 z128) (by rw [Hzc.out]; exact heap_alloc_last _ _) (by rw [ints_size, HVL.out]; exact sizeClash) (by rw [ints_size, ints_size, HVL.out]; rfl) (ints_one _ _) ?_) | (refine wpList_load_row rfl 28 (.tmp 26) rfl x16 rfl 28 (ints .u8 key2) (0, 0) _ G17.out Try.underlying28 rfl (by rw [ints_size, HK2.out.1]; exact sizeKey) ?_) | (refine wpList_load_row rfl 28 (.tmp 7) rfl x4 rfl 28 (ints .u8 now) (0, 0) _ N17.out Try.underlying28 rfl (by rw [ints_size, HNl.out.1]; exact sizeKey) ?_))
          refine (HSM.out _ R17.out M17.out).mono ?_
          rintro x w18 ⟨rfl, hb⟩
          have B18 := Lib.hid (below_call B17.out B17.out.size hb)
          have C18 := Lib.hid (keep_block C17.out hb)
          clear hb hq
          go_wp2_with (refine wpList_load_row_g (by rfl) 38 (.tmp 28) rfl w17.heap.size rfl 38 (ints .u8 V) (0, 0) _ C18.out Try.underlying38 rfl (by rw [ints_size, HVL.out]; exact sizeClash) ?_)
          refine (HVS.out _).mono ?_
          rintro x w19 ⟨rfl, hb⟩
          have B19 := Lib.hid (below_call B18.out B18.out.size hb)
          clear hb
          go_wp2_with fail
          go_ret
          exact ⟨rfl, B19.out⟩
      · rw [decide_eq_false he] at Hqe
        have hq := Hqe.out
        have hE := HE4.out he
        subst hE
        clear he HE4 HE0 HE6
        go_wp2_with (first | (refine wpList_store_row rfl 38 (.tmp 28) _ rfl w17.heap.size (ints .u8 V) rfl rfl 38 (ints .u8 z128) (by rw [Hzc.out]; exact heap_alloc_last _ _) (by rw [ints_size, HVL.out]; exact sizeClash) (by rw [ints_size, ints_size, HVL.out]; rfl) (ints_one _ _) ?_) | (refine wpList_load_row rfl 28 (.tmp 26) rfl x16 rfl 28 (ints .u8 key2) (0, 0) _ G17.out Try.underlying28 rfl (by rw [ints_size, HK2.out.1]; exact sizeKey) ?_) | (refine wpList_load_row rfl 28 (.tmp 7) rfl x4 rfl 28 (ints .u8 now) (0, 0) _ N17.out Try.underlying28 rfl (by rw [ints_size, HNl.out.1]; exact sizeKey) ?_))
        go_ret
        exact ⟨rfl, B17.out⟩
set_option maxRecDepth 100000 in
set_option maxHeartbeats 2000000 in
theorem FnRangeProofs_walk (a1 : Option Addr) (n1 c1 : Nat) (z1 : List Int) (a2 : Option Addr) (n2 c2 : Nat) (z2 : List Int) (w : World) (f1 : IsRow .u8 w a1 n1 c1 z1) (f2 : IsRow .u8 w a2 n2 c2 z2) :
    Calls Try.prog 4 #[.slice a1 n1 c1, .slice a2 n2 c2] w fun e w' => e = .returned (.bool true) ∧ Below w.heap.size w w' := by
  by_cases h : n1 ≤ 3000 ∧ n2 ≤ 3000
  · exact rw_in a1 a2 n1 n2 c1 c2 (z1.take n1) (z2.take n2) h.1 h.2 (fun z hz => bounds_u8 (rd_wf f1 z hz)) (fun z hz => bounds_u8 (rd_wf f2 z hz)) w (rd_of_row f1) (rd_of_row f2)
  · have Hlg := Lib.hid (fun U => long_yes a1 a2 n1 n2 c1 c2 h U)
    clear h
    go_enter Try.func4, Try.ntmps4
    go_wp2_with fail
    refine (Hlg.out _).mono ?_
    rintro x w0 ⟨rfl, rfl⟩
    go_wp2_with fail
    go_ret
    exact ⟨rfl, Below.refl _ _⟩
end Go.Proofs.Ytcbcfjflaplkoaa
namespace Go.Proofs.Ytcbcfjflaplkoaa.fnRangeProofs
open Go.ChangeShapes Go.WideShapes Go.ChangeAt Go.RowKit
set_option linter.unusedVariables false
set_option maxRecDepth 100000 in
theorem lifted (os : Os) (started : os.Started) (H : Type) (enc : TypeId × Value → H) :
    ReturnsInHanded {} Try.checked os 4 .any (Rows.fnRangeProofsSpec.pre6 enc Try.prog Try.f4 Rows.fnRangeProofsRow.domain false) (Rows.fnRangeProofsSpec.post enc Try.prog Try.f4 false true false false) := by
  refine returnsInHanded_of_change (C := Try.checked) own started (by kernel_rfl) Try.func4
    (ChangeSpec.witness6 (enc := enc) (C := Try.checked) false ⟨#[], #[.slice none 0 0, .slice none 0 0], []⟩ 8 (by kernel_rfl) (by kernel_rfl) (by kernel_rfl) (by kernel_rfl)) ?_
  intro W base args ds gs before hval0 hW hcnd _
  have hval : ∀ (j : Nat) t v, Try.f4.params[j]? = some t → args[j]? = some v → Value.okWide Try.prog W .any base t v := hval0
  have hW' := hW
  obtain ⟨p, q, hA0, hV, rfl, hfz, hnd⟩ := hW
  have hA : DataW.TrodAll enc Try.prog W 0 (fun _ => true) true Try.f4.params.toList args.toList ds p := hA0
  rw [Try.params4] at hA hval
  obtain ⟨v0, vs0, d0, ds0, p0, q0, hargs, rfl, rfl, h0, r0⟩ := trodAll_cons hA
  obtain ⟨v1, vs1, d1, ds1, p1, q1, rfl, rfl, rfl, h1, r1⟩ := trodAll_cons r0
  obtain ⟨rfl, rfl, rfl⟩ := trodAll_nil r1
  obtain rfl : args = #[v0, v1] := by cases args; simp_all
  obtain ⟨rfl, rfl⟩ := trodVars_none hV
  have k0 := h0
  have lt0 : ∀ x ∈ p0, x.block < W.heap.size := by obtain ⟨m, hm⟩ := k0; exact DataW.trod_lt m _ _ _ hm
  have k1 := h1
  have lt1 : ∀ x ∈ p1, x.block < W.heap.size := by obtain ⟨m, hm⟩ := k1; exact DataW.trod_lt m _ _ _ hm
  obtain ⟨a0, len0, cap0, rfl⟩ := okWide_slice Try.underlying22 (hval 0 22 v0 rfl rfl)
  obtain ⟨z0, f0⟩ := open_row Try.underlying22 Try.underlying5 (by kernel_rfl) k0
  obtain ⟨a1, len1, cap1, rfl⟩ := okWide_slice Try.underlying22 (hval 1 22 v1 rfl rfl)
  obtain ⟨z1, f1⟩ := open_row Try.underlying22 Try.underlying5 (by kernel_rfl) k1
  clear hA0 hval0
  refine (FnRangeProofs_walk a0 len0 cap0 z0 a1 len1 cap1 z1 W f0 f1).mono fun e W' ⟨he, bel⟩ => ?_
  subst he
  exact ⟨_, rfl, _, _, _, [], _, [], hW', trodAll_mk1 (shut_bool Try.underlying4 _), (trodAll_cons_mk (Below.trod laidOut (by kernel_rfl) (of_decide_eq_true (by kernel_rfl)) k0 bel lt0) (trodAll_cons_mk (Below.trod laidOut (by kernel_rfl) (of_decide_eq_true (by kernel_rfl)) k1 bel lt1) trodAll_mk0)), rfl, bel.frame _, fun h => by cases h⟩
theorem over : Rows.fnRangeProofsRow.holds Try.pinned (OpenSpec.ofChange Rows.fnRangeProofsSpec) :=
  OpenClaim.holds_of_wide 4 Try.f4 rfl rfl rfl rfl rfl rfl rfl ⟨rfl, rfl, rfl, rfl, rfl⟩ rfl rfl rfl rfl rfl (by kernel_rfl) Try.func4 (by kernel_rfl)
    (of_decide_eq_true (by kernel_rfl)) (by unfold Func.isWrapper; first | (rw [if_pos (by decide +kernel)]; kernel_rfl) | (rw [if_neg (by decide +kernel)]; exact ⟨rfl, rfl⟩))
    (fun os started H enc _ => lifted os started H enc)
/-- THE STATEMENT -/
theorem proved : Rows.FnRangeProofsSaid := over
#print axioms proved
end Go.Proofs.Ytcbcfjflaplkoaa.fnRangeProofs
