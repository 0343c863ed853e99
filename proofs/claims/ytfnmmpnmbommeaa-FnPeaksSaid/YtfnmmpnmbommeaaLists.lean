/- Lists of keys that are compared; what is too long. Written by wip/gen/pkl.py. -/
import Derived.Test.YtfnmmpnmbommeaaStack
import Derived.Test.YtfnmmpnmbommeaaEq
namespace Go.Proofs.Ytfnmmpnmbommeaa
open Go.ChangeShapes Go.WideShapes Go.ChangeAt Go.RowKit
set_option linter.unusedVariables false
set_option linter.unusedSimpArgs false
theorem sizeU8L : (Try.prog.info? 5).map (·.size) = some 1 := by kernel_rfl
theorem neqKeyL (a b : List Int) (ha : a.length = 32) (hb : b.length = 32) (W : World) : (binOp .neq 29 (.agg (ints .u8 a)) (.agg (ints .u8 b))).run Try.prog W = .ok (.bool (!decide (a = b))) W := by
  rw [run_neq_struct, run_equalIn_ints Try.underlying29 Try.underlying5 sizeU8L a b ha hb 9998 W]
  rfl
set_option maxRecDepth 100000 in
set_option maxHeartbeats 2000000 in
theorem lists_same (a b : Option Addr) (n ca cb : Nat) (fl : List Int) (hn : n ≤ 1048576) (w : World) (hr : RdK w a n fl) (hs : RdK w b n fl) :
    Calls Try.prog 61 #[.slice a n ca, .slice b n cb] w fun e w' => e = .returned (.bool true) ∧ Below w.heap.size w w' := by
  have HR := Lib.hid hr
  have HS := Lib.hid hs
  clear hr hs
  go_enter Try.func61, Try.ntmps61
  go_wp2_with fail
  go_loopw [5] (fun i wr => ∃ k : Nat, k ≤ n ∧ i = .int .i64 k ∧ Below w.heap.size w wr) (fun i _ => n - (intOf i).toNat)
  case atStart => exact ⟨0, by omega, rfl, Below.refl _ _⟩
  case round =>
    obtain ⟨k, hk, rfl, hb⟩ := hrel
    have HB := Lib.hid hb
    clear hb
    by_cases hlt : k < n
    · obtain ⟨b1, o1, rfl⟩ := HR.out.form (show 0 < n by omega)
      obtain ⟨b2, o2, rfl⟩ := HS.out.form (show 0 < n by omega)
      have i0 : (0 : Int) ≤ (k : Int) := by omega
      have i1 : (k : Int) < (n : Int) := by omega
      have Hr1 := Lib.hid ((HR.out.below HB.out).key k hlt)
      have Hr2 := Lib.hid ((HS.out.below HB.out).key k hlt)
      have Hkl := Lib.hid (keyAt_len HR.out.1 hlt)
      have Heq : ∀ U, (binOp .neq 29 (.agg (ints .u8 (keyAt fl k))) (.agg (ints .u8 (keyAt fl k)))).run Try.prog U = .ok (.bool false) U := fun U => (neqKeyL (keyAt fl k) (keyAt fl k) Hkl.out Hkl.out U).trans (by simp)
      generalize keyAt fl k = key at Hr1 Hr2 Hkl Heq
      go_upto_region 6 with fail
      refine wp_region_held_drew (S := Below (wr).heap.size (wr)) (by kernel_rfl) ((Below.refl _ _).drew) (fun hS => ?_)
      refine take_at (i := 0) (v := .slice (some ⟨b1, o1, none⟩) n ca) rfl rfl (by kernel_rfl) (by kernel_rfl) (by kernel_rfl) (fun _ _ _ h => h) (Or.inl ⟨by rfl, fun U hU => by go_simp⟩) hS ?_
      try simp only [List.setIfInBounds_toArray, List.set_cons_zero, List.set_cons_succ]
      refine take_at (i := 1) (v := .int .i64 (k : Int)) rfl rfl (by kernel_rfl) (by kernel_rfl) (by kernel_rfl) (fun _ _ _ h => h) (Or.inl ⟨by rfl, fun U hU => by go_simp⟩) hS ?_
      try simp only [List.setIfInBounds_toArray, List.set_cons_zero, List.set_cons_succ]
      refine take_at (i := 2) (v := .pointer (some ⟨b1, o1 + k * 32, none⟩)) rfl rfl (by kernel_rfl) (by kernel_rfl) (by kernel_rfl) (fun _ _ _ h => h) (Or.inl ⟨by rfl, fun U hU => by go_simp⟩) hS ?_
      try simp only [List.setIfInBounds_toArray, List.set_cons_zero, List.set_cons_succ]
      refine take_at (i := 3) (v := .agg (ints .u8 key)) rfl rfl (by kernel_rfl) (by kernel_rfl) (by kernel_rfl) (fun _ _ _ h => h) (yieldsIf_load_mid (by rfl) 29 _ rfl b1 (o1 + k * 32) rfl (key.map (Value.int .u8)) _ (fun U hU => rangeAt_below Hr1.out hU) Try.underlying29 rfl (by rw [List.length_map, Hkl.out]; exact sizeKey)) hS ?_
      try simp only [List.setIfInBounds_toArray, List.set_cons_zero, List.set_cons_succ]
      refine take_at (i := 4) (v := .slice (some ⟨b2, o2, none⟩) n cb) rfl rfl (by kernel_rfl) (by kernel_rfl) (by kernel_rfl) (fun _ _ _ h => h) (Or.inl ⟨by rfl, fun U hU => by go_simp⟩) hS ?_
      try simp only [List.setIfInBounds_toArray, List.set_cons_zero, List.set_cons_succ]
      refine take_at (i := 5) (v := .int .i64 (k : Int)) rfl rfl (by kernel_rfl) (by kernel_rfl) (by kernel_rfl) (fun _ _ _ h => h) (Or.inl ⟨by rfl, fun U hU => by go_simp⟩) hS ?_
      try simp only [List.setIfInBounds_toArray, List.set_cons_zero, List.set_cons_succ]
      refine take_at (i := 6) (v := .pointer (some ⟨b2, o2 + k * 32, none⟩)) rfl rfl (by kernel_rfl) (by kernel_rfl) (by kernel_rfl) (fun _ _ _ h => h) (Or.inl ⟨by rfl, fun U hU => by go_simp⟩) hS ?_
      try simp only [List.setIfInBounds_toArray, List.set_cons_zero, List.set_cons_succ]
      refine take_at (i := 7) (v := .agg (ints .u8 key)) rfl rfl (by kernel_rfl) (by kernel_rfl) (by kernel_rfl) (fun _ _ _ h => h) (yieldsIf_load_mid (by rfl) 29 _ rfl b2 (o2 + k * 32) rfl (key.map (Value.int .u8)) _ (fun U hU => rangeAt_below Hr2.out hU) Try.underlying29 rfl (by rw [List.length_map, Hkl.out]; exact sizeKey)) hS ?_
      try simp only [List.setIfInBounds_toArray, List.set_cons_zero, List.set_cons_succ]
      refine take_at (i := 8) (v := .bool false) rfl rfl (by kernel_rfl) (by kernel_rfl) (by kernel_rfl) (fun _ _ _ h => h) (Or.inl ⟨by rfl, fun U hU => by go_simp⟩) hS ?_
      try simp only [List.setIfInBounds_toArray, List.set_cons_zero, List.set_cons_succ]
      refine wpAnyH_done (by kernel_rfl) ?_ _
      have HS2 := Lib.hid (HB.out.trans (hS.mono HB.out.size))
      clear hS
      go_wp2_with fail
      go_roundw
      case rel => exact ⟨k + 1, by omega, by go_num, HS2.out⟩
      case measure => simp [intOf]; omega
    · obtain rfl : k = n := by omega
      go_wp2_with fail
      go_ret
      exact ⟨rfl, HB.out⟩
theorem same_keys (a b : Option Addr) (n ca cb : Nat) (fl : List Int) (hn : n ≤ 1048576) (w : World) (hr : RdK w a n fl) (hs : RdK w b n fl) :
    Calls Try.prog 22 #[.slice a n ca, .slice b n cb] w fun e w' => e = .returned (.bool true) ∧ Below w.heap.size w w' := by
  have H := Lib.hid (lists_same a b n ca cb fl hn w hr hs)
  clear hr hs
  go_enter Try.func22, Try.ntmps22
  go_wp2_with fail
  refine H.out.mono ?_
  rintro x w1 ⟨rfl, hb⟩
  go_wp2
  go_ret
  exact ⟨rfl, hb⟩
theorem long_no (a b : Option Addr) (n m ca cb : Nat) (h : n ≤ 3000 ∧ m ≤ 3000) (w : World) :
    Calls Try.prog 17 #[.slice a n ca, .slice b m cb] w fun e w' => e = .returned (.bool false) ∧ w = w' := by
  have k1 : ¬ (3000 : Int) < (n : Int) := by omega
  have k2 : ¬ (3000 : Int) < (m : Int) := by omega
  go_enter Try.func17, Try.ntmps17
  go_wp2
  go_ret
  exact ⟨rfl, rfl⟩
theorem long_yes (a b : Option Addr) (n m ca cb : Nat) (h : ¬ (n ≤ 3000 ∧ m ≤ 3000)) (w : World) :
    Calls Try.prog 17 #[.slice a n ca, .slice b m cb] w fun e w' => e = .returned (.bool true) ∧ w = w' := by
  by_cases h1 : n ≤ 3000
  · have k1 : ¬ (3000 : Int) < (n : Int) := by omega
    have k2 : (3000 : Int) < (m : Int) := by omega
    go_enter Try.func17, Try.ntmps17
    go_wp2
    go_ret
    exact ⟨rfl, rfl⟩
  · have k1 : (3000 : Int) < (n : Int) := by omega
    go_enter Try.func17, Try.ntmps17
    go_wp2
    go_ret
    exact ⟨rfl, rfl⟩
end Go.Proofs.Ytfnmmpnmbommeaa
