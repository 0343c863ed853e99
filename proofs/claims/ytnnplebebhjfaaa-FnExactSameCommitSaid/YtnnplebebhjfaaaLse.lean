/- Lists of keys held against each other. Cut out of XClM. -/
import Derived.Test.YtnnplebebhjfaaaCmo
import Derived.Test.YtnnplebebhjfaaaEq
import Derived.Test.YtnnplebebhjfaaaEnd
namespace Go.Proofs.Ytnnplebebhjfaaa
open Go.ChangeShapes Go.WideShapes Go.ChangeAt Go.RowKit
set_option linter.unusedVariables false
set_option linter.unusedSimpArgs false
theorem sizeU8c : (Try.prog.info? 5).map (·.size) = some 1 := by kernel_rfl
theorem eqlKc (a b : List Int) (ha : a.length = 32) (hb : b.length = 32) (W : World) : Sem.run Try.prog (Op.equalIn 10000 28 (.agg (ints .u8 a)) (.agg (ints .u8 b))) W = .ok (decide (a = b)) W :=
  run_equalIn_ints Try.underlying28 Try.underlying5 sizeU8c a b ha hb 9998 W
theorem take_nextK {fl gl : List Int} {k n : Nat} (hf : fl.length = 32 * n) (hg : gl.length = 32 * n) (h : fl.take (32 * k) = gl.take (32 * k)) (he : keyAt fl k = keyAt gl k) : fl.take (32 * (k + 1)) = gl.take (32 * (k + 1)) := by
  rw [show 32 * (k + 1) = 32 * k + 32 by omega, List.take_add, List.take_add, h]
  unfold keyAt at he
  rw [he]
theorem take_otherK {fl gl : List Int} {k : Nat} (he : ¬ keyAt fl k = keyAt gl k) : fl ≠ gl := fun h => he (by rw [h])
set_option maxRecDepth 100000 in
set_option maxHeartbeats 4000000 in
theorem equal_impl (a b : Option Addr) (n m ca cb : Nat) (fl gl : List Int) (hn : n ≤ 1048576) (hm : m ≤ 1048576) (w : World) (hr : RdK w a n fl) (hs : RdK w b m gl) :
    Calls Try.prog 41 #[.slice a n ca, .slice b m cb] w fun e w' => e = .returned (.bool (decide (fl = gl))) ∧ Below w.heap.size w w' := by
  by_cases hnm : n = m
  · subst hnm
    have c0 : (0 : Int) ≤ (n : Int) := by omega
    have c1 : (n : Int) ≤ 1048576 := by omega
    have HR := Lib.hid hr
    have HS := Lib.hid hs
    have HFL := Lib.hid hr.1
    have HGL := Lib.hid hs.1
    have B0 := Lib.hid (Below.refl w.heap.size w)
    clear hr hs
    go_enter Try.func41, Try.ntmps41
    go_wp2_with fail
    go_loopw [13] (fun i wr => ∃ k : Nat, k ≤ n ∧ i = .int .i64 k ∧ fl.take (32 * k) = gl.take (32 * k) ∧ Below w.heap.size w wr) (fun i _ => n - (intOf i).toNat)
    case atStart => exact ⟨0, by omega, rfl, rfl, B0.out⟩
    case round =>
      obtain ⟨k, hk, rfl, ht, hb⟩ := hrel
      have HB := Lib.hid hb
      have HT := Lib.hid ht
      clear hb ht
      by_cases hlt : k < n
      · have b0 : (0 : Int) ≤ (k : Int) := by omega
        have b1 : (k : Int) < (n : Int) := by omega
        obtain ⟨ba, oa, rfl⟩ := HR.out.formC (by omega)
        obtain ⟨bb, ob, rfl⟩ := HS.out.formC (by omega)
        have K1 := Lib.hid ((HR.out.below HB.out).keyC k hlt)
        have K2 := Lib.hid ((HS.out.below HB.out).keyC k hlt)
        have L1 := Lib.hid (keyAt_len HFL.out hlt)
        have L2 := Lib.hid (keyAt_len HGL.out hlt)
        have Hq := Lib.hid (fun W => eqlKc (keyAt fl k) (keyAt gl k) L1.out L2.out W)
        by_cases he : keyAt fl k = keyAt gl k
        · have HN := Lib.hid (take_nextK HFL.out HGL.out HT.out he)
          rw [decide_eq_true he] at Hq
          clear he
          generalize keyAt fl k = x at K1 L1 Hq
          generalize keyAt gl k = y at K2 L2 Hq
          go_wp2_with fail
          refine wp_region_held_drew (S := Below (wr).heap.size (wr)) (by kernel_rfl) ((Below.refl _ _).drew) (fun hS => ?_)
          refine take_at (i := 0) (v := .slice (some ⟨ba, oa, none⟩) n ca) rfl rfl (by kernel_rfl) (by kernel_rfl) (by kernel_rfl) (fun _ _ _ h => h) (Or.inl ⟨by rfl, fun U hU => by go_simp⟩) hS ?_
          try simp only [List.setIfInBounds_toArray, List.set_cons_zero, List.set_cons_succ]
          refine take_at (i := 1) (v := .int .i64 (k : Int)) rfl rfl (by kernel_rfl) (by kernel_rfl) (by kernel_rfl) (fun _ _ _ h => h) (Or.inl ⟨by rfl, fun U hU => by go_simp⟩) hS ?_
          try simp only [List.setIfInBounds_toArray, List.set_cons_zero, List.set_cons_succ]
          refine take_at (i := 2) (v := .pointer (some ⟨ba, oa + k * 32, none⟩)) rfl rfl (by kernel_rfl) (by kernel_rfl) (by kernel_rfl) (fun _ _ _ h => h) (Or.inl ⟨by rfl, fun U hU => by go_simp⟩) hS ?_
          try simp only [List.setIfInBounds_toArray, List.set_cons_zero, List.set_cons_succ]
          refine take_at (i := 3) (v := .agg (ints .u8 x)) rfl rfl (by kernel_rfl) (by kernel_rfl) (by kernel_rfl) (fun _ _ _ h => h) (yieldsIf_load_mid (by rfl) 28 _ rfl ba (oa + k * 32) rfl (x.map (Value.int .u8)) _ (fun U hU => rangeAt_below K1.out hU) Try.underlying28 rfl (by rw [List.length_map, L1.out]; exact sizeKey)) hS ?_
          try simp only [List.setIfInBounds_toArray, List.set_cons_zero, List.set_cons_succ]
          refine take_at (i := 4) (v := .slice (some ⟨bb, ob, none⟩) n cb) rfl rfl (by kernel_rfl) (by kernel_rfl) (by kernel_rfl) (fun _ _ _ h => h) (Or.inl ⟨by rfl, fun U hU => by go_simp⟩) hS ?_
          try simp only [List.setIfInBounds_toArray, List.set_cons_zero, List.set_cons_succ]
          refine take_at (i := 5) (v := .int .i64 (k : Int)) rfl rfl (by kernel_rfl) (by kernel_rfl) (by kernel_rfl) (fun _ _ _ h => h) (Or.inl ⟨by rfl, fun U hU => by go_simp⟩) hS ?_
          try simp only [List.setIfInBounds_toArray, List.set_cons_zero, List.set_cons_succ]
          refine take_at (i := 6) (v := .pointer (some ⟨bb, ob + k * 32, none⟩)) rfl rfl (by kernel_rfl) (by kernel_rfl) (by kernel_rfl) (fun _ _ _ h => h) (Or.inl ⟨by rfl, fun U hU => by go_simp⟩) hS ?_
          try simp only [List.setIfInBounds_toArray, List.set_cons_zero, List.set_cons_succ]
          refine take_at (i := 7) (v := .agg (ints .u8 y)) rfl rfl (by kernel_rfl) (by kernel_rfl) (by kernel_rfl) (fun _ _ _ h => h) (yieldsIf_load_mid (by rfl) 28 _ rfl bb (ob + k * 32) rfl (y.map (Value.int .u8)) _ (fun U hU => rangeAt_below K2.out hU) Try.underlying28 rfl (by rw [List.length_map, L2.out]; exact sizeKey)) hS ?_
          try simp only [List.setIfInBounds_toArray, List.set_cons_zero, List.set_cons_succ]
          refine take_at (i := 8) (v := .bool false) rfl rfl (by kernel_rfl) (by kernel_rfl) (by kernel_rfl) (fun _ _ _ h => h) (Or.inl ⟨by rfl, fun U hU => by have hq := Hq.out U; go_simp⟩) hS ?_
          try simp only [List.setIfInBounds_toArray, List.set_cons_zero, List.set_cons_succ]
          refine wpAnyH_done (by kernel_rfl) ?_ _
          go_wp2_with fail
          go_roundw
          case rel => exact ⟨k + 1, by omega, by go_num, HN.out, HB.out.trans (hS.mono HB.out.size)⟩
          case measure => simp [intOf]; omega
        · have HD := Lib.hid (decide_eq_false (take_otherK he))
          rw [decide_eq_false he] at Hq
          clear he
          generalize keyAt fl k = x at K1 L1 Hq
          generalize keyAt gl k = y at K2 L2 Hq
          go_wp2_with fail
          refine wp_region_held_drew (S := Below (wr).heap.size (wr)) (by kernel_rfl) ((Below.refl _ _).drew) (fun hS => ?_)
          refine take_at (i := 0) (v := .slice (some ⟨ba, oa, none⟩) n ca) rfl rfl (by kernel_rfl) (by kernel_rfl) (by kernel_rfl) (fun _ _ _ h => h) (Or.inl ⟨by rfl, fun U hU => by go_simp⟩) hS ?_
          try simp only [List.setIfInBounds_toArray, List.set_cons_zero, List.set_cons_succ]
          refine take_at (i := 1) (v := .int .i64 (k : Int)) rfl rfl (by kernel_rfl) (by kernel_rfl) (by kernel_rfl) (fun _ _ _ h => h) (Or.inl ⟨by rfl, fun U hU => by go_simp⟩) hS ?_
          try simp only [List.setIfInBounds_toArray, List.set_cons_zero, List.set_cons_succ]
          refine take_at (i := 2) (v := .pointer (some ⟨ba, oa + k * 32, none⟩)) rfl rfl (by kernel_rfl) (by kernel_rfl) (by kernel_rfl) (fun _ _ _ h => h) (Or.inl ⟨by rfl, fun U hU => by go_simp⟩) hS ?_
          try simp only [List.setIfInBounds_toArray, List.set_cons_zero, List.set_cons_succ]
          refine take_at (i := 3) (v := .agg (ints .u8 x)) rfl rfl (by kernel_rfl) (by kernel_rfl) (by kernel_rfl) (fun _ _ _ h => h) (yieldsIf_load_mid (by rfl) 28 _ rfl ba (oa + k * 32) rfl (x.map (Value.int .u8)) _ (fun U hU => rangeAt_below K1.out hU) Try.underlying28 rfl (by rw [List.length_map, L1.out]; exact sizeKey)) hS ?_
          try simp only [List.setIfInBounds_toArray, List.set_cons_zero, List.set_cons_succ]
          refine take_at (i := 4) (v := .slice (some ⟨bb, ob, none⟩) n cb) rfl rfl (by kernel_rfl) (by kernel_rfl) (by kernel_rfl) (fun _ _ _ h => h) (Or.inl ⟨by rfl, fun U hU => by go_simp⟩) hS ?_
          try simp only [List.setIfInBounds_toArray, List.set_cons_zero, List.set_cons_succ]
          refine take_at (i := 5) (v := .int .i64 (k : Int)) rfl rfl (by kernel_rfl) (by kernel_rfl) (by kernel_rfl) (fun _ _ _ h => h) (Or.inl ⟨by rfl, fun U hU => by go_simp⟩) hS ?_
          try simp only [List.setIfInBounds_toArray, List.set_cons_zero, List.set_cons_succ]
          refine take_at (i := 6) (v := .pointer (some ⟨bb, ob + k * 32, none⟩)) rfl rfl (by kernel_rfl) (by kernel_rfl) (by kernel_rfl) (fun _ _ _ h => h) (Or.inl ⟨by rfl, fun U hU => by go_simp⟩) hS ?_
          try simp only [List.setIfInBounds_toArray, List.set_cons_zero, List.set_cons_succ]
          refine take_at (i := 7) (v := .agg (ints .u8 y)) rfl rfl (by kernel_rfl) (by kernel_rfl) (by kernel_rfl) (fun _ _ _ h => h) (yieldsIf_load_mid (by rfl) 28 _ rfl bb (ob + k * 32) rfl (y.map (Value.int .u8)) _ (fun U hU => rangeAt_below K2.out hU) Try.underlying28 rfl (by rw [List.length_map, L2.out]; exact sizeKey)) hS ?_
          try simp only [List.setIfInBounds_toArray, List.set_cons_zero, List.set_cons_succ]
          refine take_at (i := 8) (v := .bool true) rfl rfl (by kernel_rfl) (by kernel_rfl) (by kernel_rfl) (fun _ _ _ h => h) (Or.inl ⟨by rfl, fun U hU => by have hq := Hq.out U; go_simp⟩) hS ?_
          try simp only [List.setIfInBounds_toArray, List.set_cons_zero, List.set_cons_succ]
          refine wpAnyH_done (by kernel_rfl) ?_ _
          go_wp2_with fail
          go_ret
          exact ⟨by rw [HD.out]; rfl, HB.out.trans (hS.mono HB.out.size)⟩
      · obtain rfl : k = n := by omega
        have HD : Hid (decide (fl = gl) = true) := Lib.hid (by have h := HT.out; rw [List.take_of_length_le (by have := HFL.out; omega), List.take_of_length_le (by have := HGL.out; omega)] at h; exact decide_eq_true h)
        go_wp2_with fail
        go_ret
        exact ⟨by rw [HD.out]; rfl, HB.out⟩
  · have h1 : ¬ (n : Int) = (m : Int) := by omega
    have HD : Hid (decide (fl = gl) = false) := Lib.hid (decide_eq_false (fun e => by have h2 := hr.1; have h3 := hs.1; rw [e] at h2; omega))
    go_enter Try.func41, Try.ntmps41
    go_wp2
    go_ret
    exact ⟨by rw [HD.out]; rfl, Below.refl _ _⟩
set_option maxRecDepth 100000 in
set_option maxHeartbeats 4000000 in
theorem lists_spec (a b : Option Addr) (n m ca cb : Nat) (fl gl : List Int) (hn : n ≤ 1048576) (hm : m ≤ 1048576) (w : World) (hr : RdK w a n fl) (hs : RdK w b m gl) :
    Calls Try.prog 62 #[.slice a n ca, .slice b m cb] w fun e w' => e = .returned (.bool (decide (fl = gl))) ∧ Below w.heap.size w w' := by
  by_cases hnm : n = m
  · subst hnm
    have c0 : (0 : Int) ≤ (n : Int) := by omega
    have c1 : (n : Int) ≤ 1048576 := by omega
    have HR := Lib.hid hr
    have HS := Lib.hid hs
    have HFL := Lib.hid hr.1
    have HGL := Lib.hid hs.1
    have B0 := Lib.hid (Below.refl w.heap.size w)
    clear hr hs
    go_enter Try.func62, Try.ntmps62
    go_wp2_with fail
    go_loopw [5] (fun i wr => ∃ k : Nat, k ≤ n ∧ i = .int .i64 k ∧ fl.take (32 * k) = gl.take (32 * k) ∧ Below w.heap.size w wr) (fun i _ => n - (intOf i).toNat)
    case atStart => exact ⟨0, by omega, rfl, rfl, B0.out⟩
    case round =>
      obtain ⟨k, hk, rfl, ht, hb⟩ := hrel
      have HB := Lib.hid hb
      have HT := Lib.hid ht
      clear hb ht
      by_cases hlt : k < n
      · have b0 : (0 : Int) ≤ (k : Int) := by omega
        have b1 : (k : Int) < (n : Int) := by omega
        obtain ⟨ba, oa, rfl⟩ := HR.out.formC (by omega)
        obtain ⟨bb, ob, rfl⟩ := HS.out.formC (by omega)
        have K1 := Lib.hid ((HR.out.below HB.out).keyC k hlt)
        have K2 := Lib.hid ((HS.out.below HB.out).keyC k hlt)
        have L1 := Lib.hid (keyAt_len HFL.out hlt)
        have L2 := Lib.hid (keyAt_len HGL.out hlt)
        have Hq := Lib.hid (fun W => eqlKc (keyAt fl k) (keyAt gl k) L1.out L2.out W)
        by_cases he : keyAt fl k = keyAt gl k
        · have HN := Lib.hid (take_nextK HFL.out HGL.out HT.out he)
          rw [decide_eq_true he] at Hq
          clear he
          generalize keyAt fl k = x at K1 L1 Hq
          generalize keyAt gl k = y at K2 L2 Hq
          go_wp2_with fail
          refine wp_region_held_drew (S := Below (wr).heap.size (wr)) (by kernel_rfl) ((Below.refl _ _).drew) (fun hS => ?_)
          refine take_at (i := 0) (v := .slice (some ⟨ba, oa, none⟩) n ca) rfl rfl (by kernel_rfl) (by kernel_rfl) (by kernel_rfl) (fun _ _ _ h => h) (Or.inl ⟨by rfl, fun U hU => by go_simp⟩) hS ?_
          try simp only [List.setIfInBounds_toArray, List.set_cons_zero, List.set_cons_succ]
          refine take_at (i := 1) (v := .int .i64 (k : Int)) rfl rfl (by kernel_rfl) (by kernel_rfl) (by kernel_rfl) (fun _ _ _ h => h) (Or.inl ⟨by rfl, fun U hU => by go_simp⟩) hS ?_
          try simp only [List.setIfInBounds_toArray, List.set_cons_zero, List.set_cons_succ]
          refine take_at (i := 2) (v := .pointer (some ⟨ba, oa + k * 32, none⟩)) rfl rfl (by kernel_rfl) (by kernel_rfl) (by kernel_rfl) (fun _ _ _ h => h) (Or.inl ⟨by rfl, fun U hU => by go_simp⟩) hS ?_
          try simp only [List.setIfInBounds_toArray, List.set_cons_zero, List.set_cons_succ]
          refine take_at (i := 3) (v := .agg (ints .u8 x)) rfl rfl (by kernel_rfl) (by kernel_rfl) (by kernel_rfl) (fun _ _ _ h => h) (yieldsIf_load_mid (by rfl) 28 _ rfl ba (oa + k * 32) rfl (x.map (Value.int .u8)) _ (fun U hU => rangeAt_below K1.out hU) Try.underlying28 rfl (by rw [List.length_map, L1.out]; exact sizeKey)) hS ?_
          try simp only [List.setIfInBounds_toArray, List.set_cons_zero, List.set_cons_succ]
          refine take_at (i := 4) (v := .slice (some ⟨bb, ob, none⟩) n cb) rfl rfl (by kernel_rfl) (by kernel_rfl) (by kernel_rfl) (fun _ _ _ h => h) (Or.inl ⟨by rfl, fun U hU => by go_simp⟩) hS ?_
          try simp only [List.setIfInBounds_toArray, List.set_cons_zero, List.set_cons_succ]
          refine take_at (i := 5) (v := .int .i64 (k : Int)) rfl rfl (by kernel_rfl) (by kernel_rfl) (by kernel_rfl) (fun _ _ _ h => h) (Or.inl ⟨by rfl, fun U hU => by go_simp⟩) hS ?_
          try simp only [List.setIfInBounds_toArray, List.set_cons_zero, List.set_cons_succ]
          refine take_at (i := 6) (v := .pointer (some ⟨bb, ob + k * 32, none⟩)) rfl rfl (by kernel_rfl) (by kernel_rfl) (by kernel_rfl) (fun _ _ _ h => h) (Or.inl ⟨by rfl, fun U hU => by go_simp⟩) hS ?_
          try simp only [List.setIfInBounds_toArray, List.set_cons_zero, List.set_cons_succ]
          refine take_at (i := 7) (v := .agg (ints .u8 y)) rfl rfl (by kernel_rfl) (by kernel_rfl) (by kernel_rfl) (fun _ _ _ h => h) (yieldsIf_load_mid (by rfl) 28 _ rfl bb (ob + k * 32) rfl (y.map (Value.int .u8)) _ (fun U hU => rangeAt_below K2.out hU) Try.underlying28 rfl (by rw [List.length_map, L2.out]; exact sizeKey)) hS ?_
          try simp only [List.setIfInBounds_toArray, List.set_cons_zero, List.set_cons_succ]
          refine take_at (i := 8) (v := .bool false) rfl rfl (by kernel_rfl) (by kernel_rfl) (by kernel_rfl) (fun _ _ _ h => h) (Or.inl ⟨by rfl, fun U hU => by have hq := Hq.out U; go_simp⟩) hS ?_
          try simp only [List.setIfInBounds_toArray, List.set_cons_zero, List.set_cons_succ]
          refine wpAnyH_done (by kernel_rfl) ?_ _
          go_wp2_with fail
          go_roundw
          case rel => exact ⟨k + 1, by omega, by go_num, HN.out, HB.out.trans (hS.mono HB.out.size)⟩
          case measure => simp [intOf]; omega
        · have HD := Lib.hid (decide_eq_false (take_otherK he))
          rw [decide_eq_false he] at Hq
          clear he
          generalize keyAt fl k = x at K1 L1 Hq
          generalize keyAt gl k = y at K2 L2 Hq
          go_wp2_with fail
          refine wp_region_held_drew (S := Below (wr).heap.size (wr)) (by kernel_rfl) ((Below.refl _ _).drew) (fun hS => ?_)
          refine take_at (i := 0) (v := .slice (some ⟨ba, oa, none⟩) n ca) rfl rfl (by kernel_rfl) (by kernel_rfl) (by kernel_rfl) (fun _ _ _ h => h) (Or.inl ⟨by rfl, fun U hU => by go_simp⟩) hS ?_
          try simp only [List.setIfInBounds_toArray, List.set_cons_zero, List.set_cons_succ]
          refine take_at (i := 1) (v := .int .i64 (k : Int)) rfl rfl (by kernel_rfl) (by kernel_rfl) (by kernel_rfl) (fun _ _ _ h => h) (Or.inl ⟨by rfl, fun U hU => by go_simp⟩) hS ?_
          try simp only [List.setIfInBounds_toArray, List.set_cons_zero, List.set_cons_succ]
          refine take_at (i := 2) (v := .pointer (some ⟨ba, oa + k * 32, none⟩)) rfl rfl (by kernel_rfl) (by kernel_rfl) (by kernel_rfl) (fun _ _ _ h => h) (Or.inl ⟨by rfl, fun U hU => by go_simp⟩) hS ?_
          try simp only [List.setIfInBounds_toArray, List.set_cons_zero, List.set_cons_succ]
          refine take_at (i := 3) (v := .agg (ints .u8 x)) rfl rfl (by kernel_rfl) (by kernel_rfl) (by kernel_rfl) (fun _ _ _ h => h) (yieldsIf_load_mid (by rfl) 28 _ rfl ba (oa + k * 32) rfl (x.map (Value.int .u8)) _ (fun U hU => rangeAt_below K1.out hU) Try.underlying28 rfl (by rw [List.length_map, L1.out]; exact sizeKey)) hS ?_
          try simp only [List.setIfInBounds_toArray, List.set_cons_zero, List.set_cons_succ]
          refine take_at (i := 4) (v := .slice (some ⟨bb, ob, none⟩) n cb) rfl rfl (by kernel_rfl) (by kernel_rfl) (by kernel_rfl) (fun _ _ _ h => h) (Or.inl ⟨by rfl, fun U hU => by go_simp⟩) hS ?_
          try simp only [List.setIfInBounds_toArray, List.set_cons_zero, List.set_cons_succ]
          refine take_at (i := 5) (v := .int .i64 (k : Int)) rfl rfl (by kernel_rfl) (by kernel_rfl) (by kernel_rfl) (fun _ _ _ h => h) (Or.inl ⟨by rfl, fun U hU => by go_simp⟩) hS ?_
          try simp only [List.setIfInBounds_toArray, List.set_cons_zero, List.set_cons_succ]
          refine take_at (i := 6) (v := .pointer (some ⟨bb, ob + k * 32, none⟩)) rfl rfl (by kernel_rfl) (by kernel_rfl) (by kernel_rfl) (fun _ _ _ h => h) (Or.inl ⟨by rfl, fun U hU => by go_simp⟩) hS ?_
          try simp only [List.setIfInBounds_toArray, List.set_cons_zero, List.set_cons_succ]
          refine take_at (i := 7) (v := .agg (ints .u8 y)) rfl rfl (by kernel_rfl) (by kernel_rfl) (by kernel_rfl) (fun _ _ _ h => h) (yieldsIf_load_mid (by rfl) 28 _ rfl bb (ob + k * 32) rfl (y.map (Value.int .u8)) _ (fun U hU => rangeAt_below K2.out hU) Try.underlying28 rfl (by rw [List.length_map, L2.out]; exact sizeKey)) hS ?_
          try simp only [List.setIfInBounds_toArray, List.set_cons_zero, List.set_cons_succ]
          refine take_at (i := 8) (v := .bool true) rfl rfl (by kernel_rfl) (by kernel_rfl) (by kernel_rfl) (fun _ _ _ h => h) (Or.inl ⟨by rfl, fun U hU => by have hq := Hq.out U; go_simp⟩) hS ?_
          try simp only [List.setIfInBounds_toArray, List.set_cons_zero, List.set_cons_succ]
          refine wpAnyH_done (by kernel_rfl) ?_ _
          go_wp2_with fail
          go_ret
          exact ⟨by rw [HD.out]; rfl, HB.out.trans (hS.mono HB.out.size)⟩
      · obtain rfl : k = n := by omega
        have HD : Hid (decide (fl = gl) = true) := Lib.hid (by have h := HT.out; rw [List.take_of_length_le (by have := HFL.out; omega), List.take_of_length_le (by have := HGL.out; omega)] at h; exact decide_eq_true h)
        go_wp2_with fail
        go_ret
        exact ⟨by rw [HD.out]; rfl, HB.out⟩
  · have h1 : ¬ (n : Int) = (m : Int) := by omega
    have HD : Hid (decide (fl = gl) = false) := Lib.hid (decide_eq_false (fun e => by have h2 := hr.1; have h3 := hs.1; rw [e] at h2; omega))
    go_enter Try.func62, Try.ntmps62
    go_wp2
    go_ret
    exact ⟨by rw [HD.out]; rfl, Below.refl _ _⟩
end Go.Proofs.Ytnnplebebhjfaaa
