/- Lists of entries, marked. Written by wip/gen/ent.py. -/
import Derived.Test.YtmkddiconpacnaaEnt
namespace Go.Proofs.Ytmkddiconpacnaa
open Go.ChangeShapes Go.WideShapes Go.ChangeAt Go.RowKit
set_option linter.unusedVariables false
set_option linter.unusedSimpArgs false
/-- The text that marks a place. -/
def mtG (k : Nat) (out : ByteArray) : ByteArray := if h : k = 0 then out else mtG (k / 10) (strOfNums [48 + (k : Int) % 10] ++ out)
termination_by k
def mtx (k : Nat) : ByteArray := ⟨#[109]⟩ ++ mtG k ⟨#[]⟩
set_option maxRecDepth 100000 in
set_option maxHeartbeats 2000000 in
theorem mark_text (k : Nat) (h1 : 1 ≤ k) (h2 : k ≤ 1099511627776) (w : World) :
    Calls Try.prog 76 #[.int .i64 (k : Int)] w fun e w' => e = .returned (.string (mtx k)) ∧ Below w.heap.size w w' := by
  have k0 : ¬ (k : Int) ≤ 0 := by omega
  unfold mtx
  obtain ⟨T, hT⟩ : ∃ T, mtG k ⟨#[]⟩ = T := ⟨_, rfl⟩
  rw [hT]
  have HT := Lib.hid hT
  clear hT
  go_enter Try.func76, Try.ntmps76
  go_wp2_with fail
  go_loopw [0, 3] (fun q o wr => ∃ (j : Nat) (out : ByteArray), q = .int .i64 j ∧ o = .string out ∧ out.size + j ≤ 1099511627776 ∧ mtG j out = T ∧ Below w.heap.size w wr) (fun q _ _ => (intOf q).toNat)
  case atStart => exact ⟨k, _, rfl, rfl, by show 0 + k ≤ _; omega, HT.out, Below.refl _ _⟩
  case round =>
    obtain ⟨j, out, rfl, rfl, hj, hm, hb⟩ := hrel
    have HB := Lib.hid hb
    have HM := Lib.hid hm
    clear hb hm
    by_cases hlt : 0 < j
    · have b0 : (0 : Int) < (j : Int) := by omega
      have b1 : (0 : Int) ≤ (j : Int) := by omega
      have e : mtG j out = mtG (j / 10) (strOfNums [48 + (j : Int) % 10] ++ out) := by rw [mtG, dif_neg (by omega)]
      have HE := Lib.hid (e.symm.trans HM.out)
      clear e
      have hsz : (strOfNums [48 + (j : Int) % 10]).size = 1 := rfl
      have hz : ¬ 9223372036854775807 < (strOfNums [48 + (j : Int) % 10]).size + out.size := by omega
      have HSZ := Lib.hid (show (strOfNums [48 + (j : Int) % 10] ++ out).size + j / 10 ≤ 1099511627776 by rw [ByteArray.size_append]; omega)
      clear hsz
      have hcv := run_convert_bytes_arg (P := Try.prog) (w := wr.alloc (.cells #[.int .u8 (48 + (j : Int) % 10)] 5)) 40 5 Try.underlying40 Try.underlying5 wr.heap.size 0 1 1 [48 + (j : Int) % 10] rfl (fun i hi => by
        obtain rfl : i = 0 := by omega
        exact cell_of_row _ _ _ _ _ _ (heap_alloc_last _ _)) 9 Try.underlying9
      go_wp2_with fail
      go_roundw
      case rel => exact ⟨j / 10, _, by go_num, rfl, HSZ.out, HE.out, HB.out.alloc HB.out.size _⟩
      case measure => simp [intOf]; omega
    · obtain rfl : j = 0 := by omega
      have hz : ¬ 9223372036854775807 < 1 + out.size := by omega
      have hz' : ¬ 9223372036854775807 < (ByteArray.mk #[109]).size + out.size := by show ¬ _ < 1 + out.size; omega
      go_wp2
      go_ret
      have e : mtG 0 out = out := by rw [mtG, dif_pos rfl]
      exact ⟨by rw [← HM.out, e]; rfl, HB.out⟩
def mksL (m : Nat) : List ByteArray := (List.range m).map fun i => mtx (1 + i)
theorem mksL_len (m : Nat) : (mksL m).length = m := by simp [mksL]
theorem mksL_at {m j : Nat} (h : j < m) : tx (mksL m) j = mtx (1 + j) := by simp [tx, mksL, h]
/-- Block g may have changed, no other one. -/
def HitS (g : Nat) (w w' : World) : Prop := Below g w w' ∧ ∀ i, i < w.heap.size → i ≠ g → w'.heap[i]? = w.heap[i]?
theorem HitS.refl (g : Nat) (w : World) : HitS g w w := ⟨Below.refl _ _, fun _ _ _ => rfl⟩
theorem HitS.call {g : Nat} {w w1 w2 : World} (h : HitS g w w1) (hg : g ≤ w1.heap.size) (hb : Below w1.heap.size w1 w2) : HitS g w w2 :=
  ⟨h.1.trans (hb.mono hg), fun i hi hne => (hb.block i (Nat.lt_of_lt_of_le hi h.1.size)).trans (h.2 i hi hne)⟩
theorem HitS.set {g k : Nat} {w w1 : World} {v : Value} (h : HitS g w w1) : HitS g w (w1.setCell ⟨g, k, none⟩ v) :=
  ⟨h.1.setCell (Nat.le_refl _) _, fun i hi hne => (Below.heap_setCell w1 ⟨g, k, none⟩ v i hne).trans (h.2 i hi hne)⟩
theorem HitS.keep {g i : Nat} {w w1 : World} {o : Obj} (h : HitS g w w1) (hne : i ≠ g) (ho : w.heap[i]? = some o) : w1.heap[i]? = some o :=
  (h.2 i (Array.getElem?_eq_some_iff.1 ho).1 hne).trans ho
theorem owns_hitS {g base e n size : Nat} {w w' : World} {v : Value} {xs : List Value} (h : HitS g w w') (hb : g < base) (o : w.ownsRow base e size v n xs) : w'.ownsRow base e size v n xs := by
  refine ⟨o.1, ?_⟩
  rcases o.2 with h0 | ⟨c, cap, cur, hv, hc, hh, r⟩
  · exact Or.inl h0
  · exact Or.inr ⟨c, cap, cur, hv, hc, h.keep (by omega) hh, r⟩
set_option maxHeartbeats 2000000 in
theorem markES (g n cap : Nat) (cur : Array Value) (hn : n ≤ 1048576) (hs : 2 * n ≤ cur.size) (w : World) (hg : w.heap[g]? = some (.cells cur 31)) :
    Calls Try.prog 22 #[.slice (some ⟨g, 0, none⟩) n cap, .int .i64 1] w fun e w' => e = .returned (.int .i64 (1 + (2 * n : Nat))) ∧ RdE w' (some ⟨g, 0, none⟩) n (mksL (2 * n)) ∧ HitS g w w' := by
  have Hg := Lib.hid hg
  have HGS := Lib.hid (Array.getElem?_eq_some_iff.1 hg).1
  clear hg
  go_enter Try.func22, Try.ntmps22
  go_wp2_with fail
  go_loopw [1, 5] (fun m i wr => ∃ k : Nat, k ≤ n ∧ i = .int .i64 k ∧ m = .int .i64 ((1 + 2 * k : Nat) : Int) ∧ (∃ ck : Array Value, wr.heap[g]? = some (.cells ck 31) ∧ ck.size = cur.size ∧ ∀ j, j < 2 * k → ck[j]? = some (.string (mtx (1 + j)))) ∧ HitS g w wr) (fun _ i _ => n - (intOf i).toNat)
  case atStart => exact ⟨0, by omega, rfl, rfl, ⟨cur, Hg.out, rfl, fun j hj => by omega⟩, HitS.refl _ _⟩
  case round =>
    obtain ⟨k, hk, rfl, rfl, ⟨ck, hh, hsz, hck⟩, hb⟩ := hrel
    have HB := Lib.hid hb
    have HK := Lib.hid hck
    have HH := Lib.hid hh
    have HSZ := Lib.hid hsz
    clear hb hck hh hsz
    by_cases hlt : k < n
    · have b0 : (0 : Int) ≤ (k : Int) := by omega
      have b1 : (k : Int) < (n : Int) := by omega
      have M0 := Lib.hid (fun U => mark_text (1 + 2 * k) (by omega) (by omega) U)
      have M1 := Lib.hid (fun U => mark_text (1 + (2 * k + 1)) (by omega) (by omega) U)
      have K0 := Lib.hid (fun j (hj : j < 2 * k) => HK.out j hj)
      have e1 : ((1 + (2 * k + 1) : Nat) : Int) = ((1 + 2 * k : Nat) : Int) + 1 := by omega
      have E2 := Lib.hid (show ((1 + 2 * (k + 1) : Nat) : Int) = ((1 + 2 * k : Nat) : Int) + 1 + 1 by omega)
      rw [e1] at M1
      clear e1
      have q0 : (0 : Int) ≤ ((1 + 2 * k : Nat) : Int) := by omega
      have q1 : ((1 + 2 * k : Nat) : Int) ≤ 4194304 := by omega
      obtain ⟨T0, hT0⟩ : ∃ T, mtx (1 + 2 * k) = T := ⟨_, rfl⟩
      obtain ⟨T1, hT1⟩ : ∃ T, mtx (1 + (2 * k + 1)) = T := ⟨_, rfl⟩
      rw [hT0] at M0
      rw [hT1] at M1
      have HT0 := Lib.hid hT0
      have HT1 := Lib.hid hT1
      clear hT0 hT1
      generalize ((1 + 2 * k : Nat) : Int) = m at M0 M1 E2 q0 q1 ⊢
      go_wp2_with fail
      refine (M0.out _).mono ?_
      rintro e w1 ⟨rfl, hb1⟩
      have HB1 := Lib.hid (HB.out.call (by have := HB.out.1.size; have := HGS.out; omega) hb1)
      have HH1 := Lib.hid (keep_block HH.out hb1)
      have d0 := cell_of_row w1 g (k * 2) _ _ _ HH1.out
      rw [Array.getElem?_eq_getElem (by have := HSZ.out; omega)] at d0
      have f0 := frozen_of_row w1 g (k * 2) _ _ HH1.out
      generalize ck[k * 2]'(by have := HSZ.out; omega) = o0 at d0
      clear hb1
      go_wp2_with fail
      have HB2 := Lib.hid (HB1.out.set (k := k * 2) (v := .string T0))
      have HH2 := Lib.hid (heap_setCell_same _ _ (k * 2) _ _ (.string T0) HH1.out)
      generalize w1.setCell ⟨g, k * 2, none⟩ (.string T0) = w2 at HB2 HH2 ⊢
      clear d0 f0
      refine (M1.out _).mono ?_
      rintro e w3 ⟨rfl, hb1⟩
      have HB3 := Lib.hid (HB2.out.call (by have := HB2.out.1.size; have := HGS.out; omega) hb1)
      have HH3 := Lib.hid (keep_block HH2.out hb1)
      have d0 := cell_of_row w3 g (k * 2 + 1) _ _ _ HH3.out
      rw [Array.getElem?_eq_getElem (by have := HSZ.out; rw [Array.size_setIfInBounds]; omega)] at d0
      have f0 := frozen_of_row w3 g (k * 2 + 1) _ _ HH3.out
      generalize (ck.setIfInBounds (k * 2) (.string T0))[k * 2 + 1]'(by have := HSZ.out; rw [Array.size_setIfInBounds]; omega) = o1 at d0
      clear hb1
      go_wp2_with fail
      go_roundw
      case rel =>
        refine ⟨k + 1, by omega, by go_num, by rw [E2.out], ⟨(ck.setIfInBounds (k * 2) (.string T0)).setIfInBounds (k * 2 + 1) (.string T1), heap_setCell_same _ _ _ _ _ _ HH3.out, by simp [HSZ.out], fun j hj => ?_⟩, HB3.out.set⟩
        by_cases h1 : j = k * 2 + 1
        · subst h1
          rw [Array.getElem?_setIfInBounds_self_of_lt (by have := HSZ.out; rw [Array.size_setIfInBounds]; omega), ← HT1.out, show k * 2 = 2 * k by omega]
        · rw [Array.getElem?_setIfInBounds_ne (by omega)]
          by_cases h2 : j = k * 2
          · subst h2
            rw [Array.getElem?_setIfInBounds_self_of_lt (by have := HSZ.out; omega), ← HT0.out, show k * 2 = 2 * k by omega]
          · rw [Array.getElem?_setIfInBounds_ne (by omega)]
            exact K0.out j (by omega)
      case measure => simp [intOf]; omega
    · obtain rfl : k = n := by omega
      have E2 := Lib.hid (show ((1 + 2 * k : Nat) : Int) = 1 + ((2 * k : Nat) : Int) by omega)
      generalize ((1 + 2 * k : Nat) : Int) = m at E2 ⊢
      go_wp2_with fail
      go_ret
      exact ⟨by show Ending.returned (Value.int .i64 m) = _; rw [E2.out], ⟨by rw [mksL_len], Or.inr ⟨g, 0, rfl, (Array.getElem?_eq_some_iff.1 HH.out).1, fun j hj => by rw [Nat.zero_add, cell_of_row _ g j _ _ _ HH.out, HK.out j hj, mksL_at hj]⟩⟩, HB.out⟩
set_option maxHeartbeats 2000000 in
theorem heldES (a : Option Addr) (n cap : Nat) (hn : n ≤ 1048576) (w : World) (hr : RdE w a n (mksL (2 * n))) :
    Calls Try.prog 23 #[.slice a n cap, .int .i64 1] w fun e w' => e = .returned (.int .i64 (1 + (2 * n : Nat))) ∧ Below w.heap.size w w' := by
  have HR := Lib.hid hr
  clear hr
  go_enter Try.func23, Try.ntmps23
  go_wp2_with fail
  go_loopw [1, 5] (fun m i wr => ∃ k : Nat, k ≤ n ∧ i = .int .i64 k ∧ m = .int .i64 ((1 + 2 * k : Nat) : Int) ∧ Below w.heap.size w wr) (fun _ i _ => n - (intOf i).toNat)
  case atStart => exact ⟨0, by omega, rfl, rfl, Below.refl _ _⟩
  case round =>
    obtain ⟨k, hk, rfl, rfl, hb⟩ := hrel
    have HB := Lib.hid hb
    clear hb
    by_cases hlt : k < n
    · have b0 : (0 : Int) ≤ (k : Int) := by omega
      have b1 : (k : Int) < (n : Int) := by omega
      have M0 := Lib.hid (fun U => mark_text (1 + 2 * k) (by omega) (by omega) U)
      have M1 := Lib.hid (fun U => mark_text (1 + (2 * k + 1)) (by omega) (by omega) U)
      have e1 : ((1 + (2 * k + 1) : Nat) : Int) = ((1 + 2 * k : Nat) : Int) + 1 := by omega
      have E2 := Lib.hid (show ((1 + 2 * (k + 1) : Nat) : Int) = ((1 + 2 * k : Nat) : Int) + 1 + 1 by omega)
      rw [e1] at M1
      clear e1
      have q0 : (0 : Int) ≤ ((1 + 2 * k : Nat) : Int) := by omega
      have q1 : ((1 + 2 * k : Nat) : Int) ≤ 4194304 := by omega
      obtain ⟨b', off, rfl⟩ := HR.out.form (by omega)
      have C := Lib.hid (fun U (hU : Below w.heap.size w U) => (HR.out.below hU).at hlt)
      rw [mksL_at (show 2 * k < 2 * n by omega), mksL_at (show 2 * k + 1 < 2 * n by omega)] at C
      generalize mtx (1 + 2 * k) = T0 at M0 C
      generalize mtx (1 + (2 * k + 1)) = T1 at M1 C
      generalize ((1 + 2 * k : Nat) : Int) = m at M0 M1 E2 q0 q1 ⊢
      go_wp2_with fail
      refine wp_region_held_drew (S := Below (wr).heap.size (wr)) (by kernel_rfl) ((Below.refl _ _).drew) (fun hS => ?_)
      refine takeS (i := 0) (v := .slice (some ⟨b', off, none⟩) n cap) rfl rfl (by kernel_rfl) (by kernel_rfl) (by kernel_rfl) (fun _ _ _ h => h) (Or.inl ⟨by rfl, fun U hU => by go_simp⟩) hS ?_
      try simp only [List.setIfInBounds_toArray, List.set_cons_zero, List.set_cons_succ]
      refine takeS (i := 1) (v := .int .i64 (k : Int)) rfl rfl (by kernel_rfl) (by kernel_rfl) (by kernel_rfl) (fun _ _ _ h => h) (Or.inl ⟨by rfl, fun U hU => by go_simp⟩) hS ?_
      try simp only [List.setIfInBounds_toArray, List.set_cons_zero, List.set_cons_succ]
      refine takeS (i := 2) (v := .pointer (some ⟨b', off + k * 2, none⟩)) rfl rfl (by kernel_rfl) (by kernel_rfl) (by kernel_rfl) (fun _ _ _ h => h) (Or.inl ⟨by rfl, fun U hU => by go_simp⟩) hS ?_
      try simp only [List.setIfInBounds_toArray, List.set_cons_zero, List.set_cons_succ]
      refine takeS (i := 3) (v := .pointer (some ⟨b', off + k * 2, none⟩)) rfl rfl (by kernel_rfl) (by kernel_rfl) (by kernel_rfl) (fun _ _ _ h => h) (Or.inl ⟨by rfl, fun U hU => by go_simp⟩) hS ?_
      try simp only [List.setIfInBounds_toArray, List.set_cons_zero, List.set_cons_succ]
      refine takeS (i := 4) (v := .string T0) rfl rfl (by kernel_rfl) (by kernel_rfl) (by kernel_rfl) (fun _ _ _ h => h) (Or.inl ⟨by rfl, fun U hU => by obtain ⟨c0, c1⟩ := C.out U (HB.out.trans (hU.mono HB.out.size)); go_simp⟩) hS ?_
      try simp only [List.setIfInBounds_toArray, List.set_cons_zero, List.set_cons_succ]
      refine takeS (i := 5) (v := .int .i64 m) rfl rfl (by kernel_rfl) (by kernel_rfl) (by kernel_rfl) (fun _ _ _ h => h) (Or.inl ⟨by rfl, fun U hU => by go_simp⟩) hS ?_
      try simp only [List.setIfInBounds_toArray, List.set_cons_zero, List.set_cons_succ]
      refine wpAnyH_ready (rs := [6]) (by kernel_rfl) (by simp) ?_
      refine AllReadyH.cons rfl (fun KQ hK => ?_) AllReadyH.nil
      rw [if_pos (by rfl)]
      go_simp
      refine (M0.out _).mono ?_
      rintro e w9 ⟨rfl, hb⟩
      refine hK.out _ _ (below_call hS hS.size hb) (fun hS => ?_)
      clear hb hK
      refine takeS (i := 7) (v := .bool false) rfl rfl (by kernel_rfl) (by kernel_rfl) (by kernel_rfl) (fun _ _ _ h => h) (Or.inl ⟨by rfl, fun U hU => by go_simp⟩) hS ?_
      try simp only [List.setIfInBounds_toArray, List.set_cons_zero, List.set_cons_succ]
      refine wpAnyH_done (by kernel_rfl) ?_ _
      have HB1 := Lib.hid (HB.out.trans (hS.mono HB.out.size))
      clear hS
      go_upto_region 7 with fail
      refine wp_region_held_drew (S := Below (w9).heap.size (w9)) (by kernel_rfl) ((Below.refl _ _).drew) (fun hS => ?_)
      refine takeS (i := 0) (v := .slice (some ⟨b', off, none⟩) n cap) rfl rfl (by kernel_rfl) (by kernel_rfl) (by kernel_rfl) (fun _ _ _ h => h) (Or.inl ⟨by rfl, fun U hU => by go_simp⟩) hS ?_
      try simp only [List.setIfInBounds_toArray, List.set_cons_zero, List.set_cons_succ]
      refine takeS (i := 1) (v := .int .i64 (k : Int)) rfl rfl (by kernel_rfl) (by kernel_rfl) (by kernel_rfl) (fun _ _ _ h => h) (Or.inl ⟨by rfl, fun U hU => by go_simp⟩) hS ?_
      try simp only [List.setIfInBounds_toArray, List.set_cons_zero, List.set_cons_succ]
      refine takeS (i := 2) (v := .pointer (some ⟨b', off + k * 2, none⟩)) rfl rfl (by kernel_rfl) (by kernel_rfl) (by kernel_rfl) (fun _ _ _ h => h) (Or.inl ⟨by rfl, fun U hU => by go_simp⟩) hS ?_
      try simp only [List.setIfInBounds_toArray, List.set_cons_zero, List.set_cons_succ]
      refine takeS (i := 3) (v := .pointer (some ⟨b', off + k * 2 + 1, none⟩)) rfl rfl (by kernel_rfl) (by kernel_rfl) (by kernel_rfl) (fun _ _ _ h => h) (Or.inl ⟨by rfl, fun U hU => by go_simp⟩) hS ?_
      try simp only [List.setIfInBounds_toArray, List.set_cons_zero, List.set_cons_succ]
      refine takeS (i := 4) (v := .string T1) rfl rfl (by kernel_rfl) (by kernel_rfl) (by kernel_rfl) (fun _ _ _ h => h) (Or.inl ⟨by rfl, fun U hU => by obtain ⟨c0, c1⟩ := C.out U (HB1.out.trans (hU.mono HB1.out.size)); go_simp⟩) hS ?_
      try simp only [List.setIfInBounds_toArray, List.set_cons_zero, List.set_cons_succ]
      refine takeS (i := 5) (v := .int .i64 (m + 1)) rfl rfl (by kernel_rfl) (by kernel_rfl) (by kernel_rfl) (fun _ _ _ h => h) (Or.inl ⟨by rfl, fun U hU => by go_simp⟩) hS ?_
      try simp only [List.setIfInBounds_toArray, List.set_cons_zero, List.set_cons_succ]
      refine wpAnyH_ready (rs := [6]) (by kernel_rfl) (by simp) ?_
      refine AllReadyH.cons rfl (fun KQ hK => ?_) AllReadyH.nil
      rw [if_pos (by rfl)]
      go_simp
      refine (M1.out _).mono ?_
      rintro e w10 ⟨rfl, hb⟩
      refine hK.out _ _ (below_call hS hS.size hb) (fun hS => ?_)
      clear hb hK
      refine takeS (i := 7) (v := .bool false) rfl rfl (by kernel_rfl) (by kernel_rfl) (by kernel_rfl) (fun _ _ _ h => h) (Or.inl ⟨by rfl, fun U hU => by go_simp⟩) hS ?_
      try simp only [List.setIfInBounds_toArray, List.set_cons_zero, List.set_cons_succ]
      refine wpAnyH_done (by kernel_rfl) ?_ _
      have HB2 := Lib.hid (HB1.out.trans (hS.mono HB1.out.size))
      clear hS
      go_wp2_with fail
      go_roundw
      case rel => exact ⟨k + 1, by omega, by go_num, by rw [E2.out], HB2.out⟩
      case measure => simp [intOf]; omega
    · obtain rfl : k = n := by omega
      have E2 := Lib.hid (show ((1 + 2 * k : Nat) : Int) = 1 + ((2 * k : Nat) : Int) by omega)
      generalize ((1 + 2 * k : Nat) : Int) = m at E2 ⊢
      go_wp2_with fail
      go_ret
      exact ⟨by show Ending.returned (Value.int .i64 m) = _; rw [E2.out], HB.out⟩
end Go.Proofs.Ytmkddiconpacnaa
