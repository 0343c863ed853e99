/- Whether a cutter is valid: the specification. -/
import Derived.Test.YtdamgodfgoackaaFeed
import Derived.Test.YtdamgodfgoackaaFits
import Derived.Test.YtdamgodfgoackaaCutter
namespace Go.Proofs.Ytdamgodfgoackaa
open Go.ChangeShapes Go.WideShapes Go.ChangeAt Go.RowKit
set_option linter.unusedVariables false
theorem vR_most {lo mo bi : Int} (h : vR lo mo bi = true) : 1 ≤ mo := by unfold vR at h; simp at h; omega
theorem empty_run {lo mo bi : Int} {L : List Int} (hm : 1 ≤ mo) : ∀ k, (cutS lo mo bi L k).2.2 = [] → (cutS lo mo bi L k).1 = 0 ∧ (cutS lo mo bi L k).2.1 = accR rollW L 0 k ∧ (k : Int) < mo
  | 0, _ => ⟨rfl, rfl, by omega⟩
  | k + 1, h => by
    cases he : endsP lo mo bi ((k : Int) + 1 - ((cutS lo mo bi L k).1 : Int)) (stepR rollW (cutS lo mo bi L k).2.1 (L[k]?.getD 0)) with
    | true =>
      rw [cut_yes lo mo bi L k he] at h
      simp at h
    | false =>
      rw [cut_no lo mo bi L k he] at h ⊢
      obtain ⟨h1, h2, h3⟩ := empty_run (L := L) hm k h
      refine ⟨h1, ?_, ?_⟩
      · show stepR rollW (cutS lo mo bi L k).2.1 (L[k]?.getD 0) = stepR rollW (accR rollW L 0 k) (L[0 + k]?.getD 0)
        rw [h2, Nat.zero_add]
      · rw [h1] at he
        unfold endsP at he
        simp at he
        omega
theorem fit_long {lo mo bi q : Int} {L : List Int} (hv : vR lo mo bi = true) (h : mo ≤ (L.length : Int)) : fitP lo mo bi q L = false := by
  unfold fitP
  cases ho : (cutS lo mo bi L L.length).2.2 with
  | nil => have := (empty_run (vR_most hv) L.length ho).2.2; omega
  | cons x r => simp
theorem fit_some {lo mo bi q : Int} {L : List Int} (h : ¬ (cutS lo mo bi L L.length).2.2.length = 0) : fitP lo mo bi q L = false := by
  unfold fitP
  cases ho : (cutS lo mo bi L L.length).2.2 with
  | nil => rw [ho] at h; exact absurd rfl h
  | cons x r => simp
theorem fit_none {lo mo bi q : Int} {L : List Int} (hv : vR lo mo bi = true) (h : (cutS lo mo bi L L.length).2.2.length = 0) : fitP lo mo bi q L = ((cutS lo mo bi L L.length).2.1 == q) := by
  have ho := List.eq_nil_of_length_eq_zero h
  unfold fitP
  rw [hv, ho, (empty_run (vR_most hv) L.length ho).2.1]
  by_cases e : q = accR rollW L 0 L.length
  · simp [e]
  · rw [decide_eq_false e]
    simp
    exact fun e' => e e'.symm
set_option maxRecDepth 100000 in
set_option maxHeartbeats 16000000 in
theorem cutter_ok (p : Nat) (a : Option Addr) (N cap : Nat) (lo mo bi q : Int) (L : List Int) (fl : ∀ z ∈ L, 0 ≤ z ∧ z ≤ 255) (hN : N ≤ 1048576) (w : World)
    (c0 : w.cell? ⟨p, 0, none⟩ = some (.int .i64 lo)) (c1 : w.cell? ⟨p, 1, none⟩ = some (.int .i64 mo)) (c2 : w.cell? ⟨p, 2, none⟩ = some (.int .i64 bi)) (c3 : w.cell? ⟨p, 3, none⟩ = some (.int .u32 q)) (c4 : w.cell? ⟨p, 4, none⟩ = some (.slice a N cap)) (hr : Rd .u8 w a N L) :
    Calls Try.prog 87 #[.pointer (some ⟨p, 0, none⟩)] w fun e w' => e = .returned (.bool (fitP lo mo bi q L)) ∧ Below w.heap.size w w' := by
  have hp := World.block_lt_of_cell? w _ c0
  have HR := Lib.hid hr
  have C0 := Lib.hid c0
  have C1 := Lib.hid c1
  have C2 := Lib.hid c2
  have C3 := Lib.hid c3
  have C4 := Lib.hid c4
  have Hok := Lib.hid (fun W h0 h1 h2 => okR_spec p lo mo bi W h0 h1 h2)
  clear c0 c1 c2 c3 c4
  cases hv : vR lo mo bi
  · have HP : Hid (fitP lo mo bi q L = false) := Lib.hid (by unfold fitP; rw [hv]; rfl)
    rw [hv] at Hok
    clear hv fl hr
    generalize fitP lo mo bi q L = V at HP
    go_enter Try.func87, Try.ntmps87
    go_wp2_with fail
    refine wp_region_held_drew (S := Below w.heap.size w) (by kernel_rfl) ((Below.refl _ _).drew) (fun hS => ?_)
    refine take_on (i := 0) (v := .pointer (some ⟨p, 0, none⟩)) rfl rfl (by kernel_rfl) (by kernel_rfl) (by kernel_rfl) (fun _ _ _ h => h) (Or.inl ⟨by rfl, fun W hW => by go_simp⟩) hS ?_
    refine take_on (i := 1) (v := .pointer (some ⟨p, 0, none⟩)) rfl rfl (by kernel_rfl) (by kernel_rfl) (by kernel_rfl) (fun _ _ _ h => h) (Or.inl ⟨by rfl, fun W hW => by go_simp⟩) hS ?_
    refine take_on (i := 2) (v := .pointer (some ⟨p, 0, none⟩)) rfl rfl (by kernel_rfl) (by kernel_rfl) (by kernel_rfl) (fun _ _ _ h => h) (Or.inl ⟨by rfl, fun W hW => by go_simp⟩) hS ?_
    simp only [List.setIfInBounds_toArray, List.set_cons_zero, List.set_cons_succ]
    refine wpAnyH_ready (rs := [3]) (by kernel_rfl) (by simp) ?_
    refine AllReadyH.cons rfl (fun K hK => ?_) AllReadyH.nil
    rw [if_pos (by rfl)]
    go_simp
    refine (Hok.out _ (by rw [hS.cell (p := ⟨p, 0, none⟩) hp]; exact C0.out) (by rw [hS.cell (p := ⟨p, 1, none⟩) hp]; exact C1.out) (by rw [hS.cell (p := ⟨p, 2, none⟩) hp]; exact C2.out)).mono ?_
    rintro e u1 ⟨rfl, nd, hnd⟩
    have hb1 := below_drewN hS nd
    rw [← hnd] at hb1
    clear hnd
    refine hK.out _ _ hb1 (fun hS => ?_)
    clear hK hb1
    refine take_on (i := 4) (v := .bool true) rfl rfl (by kernel_rfl) (by kernel_rfl) (by kernel_rfl) (fun _ _ _ h => h) (Or.inl ⟨by rfl, fun W hW => by go_simp⟩) hS ?_
    refine take_on (i := 5) (v := .bool true) rfl rfl (by kernel_rfl) (by kernel_rfl) (by kernel_rfl) (fun _ _ _ h => h) (Or.inl ⟨by rfl, fun W hW => by go_simp⟩) hS ?_
    simp only [List.setIfInBounds_toArray, List.set_cons_zero, List.set_cons_succ]
    refine take_on (i := 6) (v := undef) rfl rfl (by kernel_rfl) (by kernel_rfl) (by kernel_rfl) (fun _ _ _ h => h) (Or.inr ⟨by rfl, rfl⟩) hS ?_
    refine take_on (i := 7) (v := undef) rfl rfl (by kernel_rfl) (by kernel_rfl) (by kernel_rfl) (fun _ _ _ h => h) (Or.inr ⟨by rfl, rfl⟩) hS ?_
    refine take_on (i := 8) (v := undef) rfl rfl (by kernel_rfl) (by kernel_rfl) (by kernel_rfl) (fun _ _ _ h => h) (Or.inr ⟨by rfl, rfl⟩) hS ?_
    simp only [List.setIfInBounds_toArray, List.set_cons_zero, List.set_cons_succ]
    refine take_on (i := 9) (v := undef) rfl rfl (by kernel_rfl) (by kernel_rfl) (by kernel_rfl) (fun _ _ _ h => h) (Or.inr ⟨by rfl, rfl⟩) hS ?_
    refine take_on (i := 10) (v := undef) rfl rfl (by kernel_rfl) (by kernel_rfl) (by kernel_rfl) (fun _ _ _ h => h) (Or.inr ⟨by rfl, rfl⟩) hS ?_
    refine take_on (i := 11) (v := undef) rfl rfl (by kernel_rfl) (by kernel_rfl) (by kernel_rfl) (fun _ _ _ h => h) (Or.inr ⟨by rfl, rfl⟩) hS ?_
    simp only [List.setIfInBounds_toArray, List.set_cons_zero, List.set_cons_succ]
    refine take_on (i := 12) (v := undef) rfl rfl (by kernel_rfl) (by kernel_rfl) (by kernel_rfl) (fun _ _ _ h => h) (Or.inr ⟨by rfl, rfl⟩) hS ?_
    refine take_on (i := 13) (v := undef) rfl rfl (by kernel_rfl) (by kernel_rfl) (by kernel_rfl) (fun _ _ _ h => h) (Or.inr ⟨by rfl, rfl⟩) hS ?_
    refine take_on (i := 14) (v := undef) rfl rfl (by kernel_rfl) (by kernel_rfl) (by kernel_rfl) (fun _ _ _ h => h) (Or.inr ⟨by rfl, rfl⟩) hS ?_
    simp only [List.setIfInBounds_toArray, List.set_cons_zero, List.set_cons_succ]
    refine take_on (i := 15) (v := undef) rfl rfl (by kernel_rfl) (by kernel_rfl) (by kernel_rfl) (fun _ _ _ h => h) (Or.inr ⟨by rfl, rfl⟩) hS ?_
    refine take_on (i := 16) (v := undef) rfl rfl (by kernel_rfl) (by kernel_rfl) (by kernel_rfl) (fun _ _ _ h => h) (Or.inr ⟨by rfl, rfl⟩) hS ?_
    simp only [List.setIfInBounds_toArray, List.set_cons_zero, List.set_cons_succ]
    refine take_on (i := 17) (v := .bool true) rfl rfl (by kernel_rfl) (by kernel_rfl) (by kernel_rfl) (fun _ _ _ h => h) (Or.inl ⟨by rfl, fun W hW => by go_simp⟩) hS ?_
    refine wpAnyH_done (by kernel_rfl) ?_ _
    simp only [List.setIfInBounds_toArray, List.set_cons_zero, List.set_cons_succ]
    have B9 := Lib.hid hS
    clear hS
    go_wp2_with fail
    go_ret
    exact ⟨by rw [HP.out]; rfl, B9.out⟩
  · obtain ⟨b0, b1⟩ := vR_bits hv
    by_cases hlong : mo ≤ (N : Int)
    · have HP : Hid (fitP lo mo bi q L = false) := Lib.hid (fit_long hv (by rw [hr.1]; exact hlong))
      rw [hv] at Hok
      clear hv fl hr
      generalize fitP lo mo bi q L = V at HP
      go_enter Try.func87, Try.ntmps87
      go_wp2_with fail
      refine wp_region_held_drew (S := Below w.heap.size w) (by kernel_rfl) ((Below.refl _ _).drew) (fun hS => ?_)
      refine take_on (i := 0) (v := .pointer (some ⟨p, 0, none⟩)) rfl rfl (by kernel_rfl) (by kernel_rfl) (by kernel_rfl) (fun _ _ _ h => h) (Or.inl ⟨by rfl, fun W hW => by go_simp⟩) hS ?_
      refine take_on (i := 1) (v := .pointer (some ⟨p, 0, none⟩)) rfl rfl (by kernel_rfl) (by kernel_rfl) (by kernel_rfl) (fun _ _ _ h => h) (Or.inl ⟨by rfl, fun W hW => by go_simp⟩) hS ?_
      refine take_on (i := 2) (v := .pointer (some ⟨p, 0, none⟩)) rfl rfl (by kernel_rfl) (by kernel_rfl) (by kernel_rfl) (fun _ _ _ h => h) (Or.inl ⟨by rfl, fun W hW => by go_simp⟩) hS ?_
      simp only [List.setIfInBounds_toArray, List.set_cons_zero, List.set_cons_succ]
      refine wpAnyH_ready (rs := [3]) (by kernel_rfl) (by simp) ?_
      refine AllReadyH.cons rfl (fun K hK => ?_) AllReadyH.nil
      rw [if_pos (by rfl)]
      go_simp
      refine (Hok.out _ (by rw [hS.cell (p := ⟨p, 0, none⟩) hp]; exact C0.out) (by rw [hS.cell (p := ⟨p, 1, none⟩) hp]; exact C1.out) (by rw [hS.cell (p := ⟨p, 2, none⟩) hp]; exact C2.out)).mono ?_
      rintro e u1 ⟨rfl, nd, hnd⟩
      have hb1 := below_drewN hS nd
      rw [← hnd] at hb1
      clear hnd
      refine hK.out _ _ hb1 (fun hS => ?_)
      clear hK hb1
      refine take_on (i := 4) (v := .bool false) rfl rfl (by kernel_rfl) (by kernel_rfl) (by kernel_rfl) (fun _ _ _ h => h) (Or.inl ⟨by rfl, fun W hW => by go_simp⟩) hS ?_
      refine take_on (i := 5) (v := .bool false) rfl rfl (by kernel_rfl) (by kernel_rfl) (by kernel_rfl) (fun _ _ _ h => h) (Or.inl ⟨by rfl, fun W hW => by go_simp⟩) hS ?_
      simp only [List.setIfInBounds_toArray, List.set_cons_zero, List.set_cons_succ]
      refine take_on (i := 6) (v := .pointer (some ⟨p, 0, none⟩)) rfl rfl (by kernel_rfl) (by kernel_rfl) (by kernel_rfl) (fun _ _ _ h => h) (Or.inl ⟨by rfl, fun W hW => by go_simp⟩) hS ?_
      refine take_on (i := 7) (v := .pointer (some ⟨p, 0, none⟩)) rfl rfl (by kernel_rfl) (by kernel_rfl) (by kernel_rfl) (fun _ _ _ h => h) (Or.inl ⟨by rfl, fun W hW => by go_simp⟩) hS ?_
      refine take_on (i := 8) (v := .pointer (some ⟨p, 4, none⟩)) rfl rfl (by kernel_rfl) (by kernel_rfl) (by kernel_rfl) (fun _ _ _ h => h) (Or.inl ⟨by rfl, fun W hW => by go_simp⟩) hS ?_
      simp only [List.setIfInBounds_toArray, List.set_cons_zero, List.set_cons_succ]
      refine take_on (i := 9) (v := .slice a N cap) rfl rfl (by kernel_rfl) (by kernel_rfl) (by kernel_rfl) (fun _ _ _ h => h) (Or.inl ⟨by rfl, fun W hW => by
        have hc : W.cell? ⟨p, 4, none⟩ = some (.slice a N cap) := by rw [hW.cell (p := ⟨p, 4, none⟩) hp]; exact C4.out
        go_simp⟩) hS ?_
      refine take_on (i := 10) (v := .int .i64 N) rfl rfl (by kernel_rfl) (by kernel_rfl) (by kernel_rfl) (fun _ _ _ h => h) (Or.inl ⟨by rfl, fun W hW => by go_simp⟩) hS ?_
      refine take_on (i := 11) (v := .pointer (some ⟨p, 0, none⟩)) rfl rfl (by kernel_rfl) (by kernel_rfl) (by kernel_rfl) (fun _ _ _ h => h) (Or.inl ⟨by rfl, fun W hW => by go_simp⟩) hS ?_
      refine take_on (i := 12) (v := .pointer (some ⟨p, 0, none⟩)) rfl rfl (by kernel_rfl) (by kernel_rfl) (by kernel_rfl) (fun _ _ _ h => h) (Or.inl ⟨by rfl, fun W hW => by go_simp⟩) hS ?_
      simp only [List.setIfInBounds_toArray, List.set_cons_zero, List.set_cons_succ]
      refine take_on (i := 13) (v := .pointer (some ⟨p, 0, none⟩)) rfl rfl (by kernel_rfl) (by kernel_rfl) (by kernel_rfl) (fun _ _ _ h => h) (Or.inl ⟨by rfl, fun W hW => by go_simp⟩) hS ?_
      refine take_on (i := 14) (v := .pointer (some ⟨p, 1, none⟩)) rfl rfl (by kernel_rfl) (by kernel_rfl) (by kernel_rfl) (fun _ _ _ h => h) (Or.inl ⟨by rfl, fun W hW => by go_simp⟩) hS ?_
      simp only [List.setIfInBounds_toArray, List.set_cons_zero, List.set_cons_succ]
      refine take_on (i := 15) (v := .int .i64 mo) rfl rfl (by kernel_rfl) (by kernel_rfl) (by kernel_rfl) (fun _ _ _ h => h) (Or.inl ⟨by rfl, fun W hW => by
        have hc : W.cell? ⟨p, 1, none⟩ = some (.int .i64 mo) := by rw [hW.cell (p := ⟨p, 1, none⟩) hp]; exact C1.out
        go_simp⟩) hS ?_
      simp only [List.setIfInBounds_toArray, List.set_cons_zero, List.set_cons_succ]
      refine take_on (i := 16) (v := .bool true) rfl rfl (by kernel_rfl) (by kernel_rfl) (by kernel_rfl) (fun _ _ _ h => h) (Or.inl ⟨by rfl, fun W hW => by go_simp⟩) hS ?_
      refine take_on (i := 17) (v := .bool true) rfl rfl (by kernel_rfl) (by kernel_rfl) (by kernel_rfl) (fun _ _ _ h => h) (Or.inl ⟨by rfl, fun W hW => by go_simp⟩) hS ?_
      refine wpAnyH_done (by kernel_rfl) ?_ _
      simp only [List.setIfInBounds_toArray, List.set_cons_zero, List.set_cons_succ]
      have B9 := Lib.hid hS
      clear hS
      go_wp2_with fail
      go_ret
      exact ⟨by rw [HP.out]; rfl, B9.out⟩
    · have Hfd := Lib.hid (fun x W h0 h1 h2 h3 => feed_spec p x a N cap lo mo bi L b0 b1 fl hN W h0 h1 h2 h3)
      have HPs := Lib.hid (fun h => fit_some (lo := lo) (mo := mo) (bi := bi) (q := q) (L := L) h)
      have HPn := Lib.hid (fun h => fit_none (q := q) (L := L) hv h)
      rw [hr.1] at HPs HPn
      rw [hv] at Hok
      clear hv fl hr
      have hlt : (N : Int) < mo := by omega
      have hlong' : ¬ mo ≤ (N : Int) := hlong
      generalize fitP lo mo bi q L = V at HPs HPn
      generalize (cutS lo mo bi L N).2.2.length = n0 at Hfd HPs HPn
      generalize (cutS lo mo bi L N).2.1 = R at Hfd HPn
      go_enter Try.func87, Try.ntmps87
      go_wp2_with fail
      refine wp_region_held_drew (S := Below w.heap.size w) (by kernel_rfl) ((Below.refl _ _).drew) (fun hS => ?_)
      refine take_on (i := 0) (v := .pointer (some ⟨p, 0, none⟩)) rfl rfl (by kernel_rfl) (by kernel_rfl) (by kernel_rfl) (fun _ _ _ h => h) (Or.inl ⟨by rfl, fun W hW => by go_simp⟩) hS ?_
      refine take_on (i := 1) (v := .pointer (some ⟨p, 0, none⟩)) rfl rfl (by kernel_rfl) (by kernel_rfl) (by kernel_rfl) (fun _ _ _ h => h) (Or.inl ⟨by rfl, fun W hW => by go_simp⟩) hS ?_
      refine take_on (i := 2) (v := .pointer (some ⟨p, 0, none⟩)) rfl rfl (by kernel_rfl) (by kernel_rfl) (by kernel_rfl) (fun _ _ _ h => h) (Or.inl ⟨by rfl, fun W hW => by go_simp⟩) hS ?_
      simp only [List.setIfInBounds_toArray, List.set_cons_zero, List.set_cons_succ]
      refine wpAnyH_ready (rs := [3]) (by kernel_rfl) (by simp) ?_
      refine AllReadyH.cons rfl (fun K hK => ?_) AllReadyH.nil
      rw [if_pos (by rfl)]
      go_simp
      refine (Hok.out _ (by rw [hS.cell (p := ⟨p, 0, none⟩) hp]; exact C0.out) (by rw [hS.cell (p := ⟨p, 1, none⟩) hp]; exact C1.out) (by rw [hS.cell (p := ⟨p, 2, none⟩) hp]; exact C2.out)).mono ?_
      rintro e u1 ⟨rfl, nd, hnd⟩
      have hb1 := below_drewN hS nd
      rw [← hnd] at hb1
      clear hnd
      refine hK.out _ _ hb1 (fun hS => ?_)
      clear hK hb1
      refine take_on (i := 4) (v := .bool false) rfl rfl (by kernel_rfl) (by kernel_rfl) (by kernel_rfl) (fun _ _ _ h => h) (Or.inl ⟨by rfl, fun W hW => by go_simp⟩) hS ?_
      refine take_on (i := 5) (v := .bool false) rfl rfl (by kernel_rfl) (by kernel_rfl) (by kernel_rfl) (fun _ _ _ h => h) (Or.inl ⟨by rfl, fun W hW => by go_simp⟩) hS ?_
      simp only [List.setIfInBounds_toArray, List.set_cons_zero, List.set_cons_succ]
      refine take_on (i := 6) (v := .pointer (some ⟨p, 0, none⟩)) rfl rfl (by kernel_rfl) (by kernel_rfl) (by kernel_rfl) (fun _ _ _ h => h) (Or.inl ⟨by rfl, fun W hW => by go_simp⟩) hS ?_
      refine take_on (i := 7) (v := .pointer (some ⟨p, 0, none⟩)) rfl rfl (by kernel_rfl) (by kernel_rfl) (by kernel_rfl) (fun _ _ _ h => h) (Or.inl ⟨by rfl, fun W hW => by go_simp⟩) hS ?_
      refine take_on (i := 8) (v := .pointer (some ⟨p, 4, none⟩)) rfl rfl (by kernel_rfl) (by kernel_rfl) (by kernel_rfl) (fun _ _ _ h => h) (Or.inl ⟨by rfl, fun W hW => by go_simp⟩) hS ?_
      simp only [List.setIfInBounds_toArray, List.set_cons_zero, List.set_cons_succ]
      refine take_on (i := 9) (v := .slice a N cap) rfl rfl (by kernel_rfl) (by kernel_rfl) (by kernel_rfl) (fun _ _ _ h => h) (Or.inl ⟨by rfl, fun W hW => by
        have hc : W.cell? ⟨p, 4, none⟩ = some (.slice a N cap) := by rw [hW.cell (p := ⟨p, 4, none⟩) hp]; exact C4.out
        go_simp⟩) hS ?_
      refine take_on (i := 10) (v := .int .i64 N) rfl rfl (by kernel_rfl) (by kernel_rfl) (by kernel_rfl) (fun _ _ _ h => h) (Or.inl ⟨by rfl, fun W hW => by go_simp⟩) hS ?_
      refine take_on (i := 11) (v := .pointer (some ⟨p, 0, none⟩)) rfl rfl (by kernel_rfl) (by kernel_rfl) (by kernel_rfl) (fun _ _ _ h => h) (Or.inl ⟨by rfl, fun W hW => by go_simp⟩) hS ?_
      refine take_on (i := 12) (v := .pointer (some ⟨p, 0, none⟩)) rfl rfl (by kernel_rfl) (by kernel_rfl) (by kernel_rfl) (fun _ _ _ h => h) (Or.inl ⟨by rfl, fun W hW => by go_simp⟩) hS ?_
      simp only [List.setIfInBounds_toArray, List.set_cons_zero, List.set_cons_succ]
      refine take_on (i := 13) (v := .pointer (some ⟨p, 0, none⟩)) rfl rfl (by kernel_rfl) (by kernel_rfl) (by kernel_rfl) (fun _ _ _ h => h) (Or.inl ⟨by rfl, fun W hW => by go_simp⟩) hS ?_
      refine take_on (i := 14) (v := .pointer (some ⟨p, 1, none⟩)) rfl rfl (by kernel_rfl) (by kernel_rfl) (by kernel_rfl) (fun _ _ _ h => h) (Or.inl ⟨by rfl, fun W hW => by go_simp⟩) hS ?_
      simp only [List.setIfInBounds_toArray, List.set_cons_zero, List.set_cons_succ]
      refine take_on (i := 15) (v := .int .i64 mo) rfl rfl (by kernel_rfl) (by kernel_rfl) (by kernel_rfl) (fun _ _ _ h => h) (Or.inl ⟨by rfl, fun W hW => by
        have hc : W.cell? ⟨p, 1, none⟩ = some (.int .i64 mo) := by rw [hW.cell (p := ⟨p, 1, none⟩) hp]; exact C1.out
        go_simp⟩) hS ?_
      simp only [List.setIfInBounds_toArray, List.set_cons_zero, List.set_cons_succ]
      refine take_on (i := 16) (v := .bool false) rfl rfl (by kernel_rfl) (by kernel_rfl) (by kernel_rfl) (fun _ _ _ h => h) (Or.inl ⟨by rfl, fun W hW => by go_simp⟩) hS ?_
      refine take_on (i := 17) (v := .bool false) rfl rfl (by kernel_rfl) (by kernel_rfl) (by kernel_rfl) (fun _ _ _ h => h) (Or.inl ⟨by rfl, fun W hW => by go_simp⟩) hS ?_
      refine wpAnyH_done (by kernel_rfl) ?_ _
      simp only [List.setIfInBounds_toArray, List.set_cons_zero, List.set_cons_succ]
      have B3 := Lib.hid hS
      clear hS
      go_wp2_with fail
      refine wp_region_held_drew (S := Below w.heap.size w) (by kernel_rfl) (B3.out.drew) (fun hS => ?_)
      refine take_on (i := 0) (v := .pointer (some ⟨p, 0, none⟩)) rfl rfl (by kernel_rfl) (by kernel_rfl) (by kernel_rfl) (fun _ _ _ h => h) (Or.inl ⟨by rfl, fun W hW => by go_simp⟩) hS ?_
      refine take_on (i := 1) (v := .pointer (some ⟨p, 0, none⟩)) rfl rfl (by kernel_rfl) (by kernel_rfl) (by kernel_rfl) (fun _ _ _ h => h) (Or.inl ⟨by rfl, fun W hW => by go_simp⟩) hS ?_
      refine take_on (i := 2) (v := .pointer (some ⟨p, 0, none⟩)) rfl rfl (by kernel_rfl) (by kernel_rfl) (by kernel_rfl) (fun _ _ _ h => h) (Or.inl ⟨by rfl, fun W hW => by go_simp⟩) hS ?_
      refine take_on (i := 4) (v := .pointer (some ⟨p, 0, none⟩)) rfl rfl (by kernel_rfl) (by kernel_rfl) (by kernel_rfl) (fun _ _ _ h => h) (Or.inl ⟨by rfl, fun W hW => by go_simp⟩) hS ?_
      refine take_on (i := 5) (v := .pointer (some ⟨p, 0, none⟩)) rfl rfl (by kernel_rfl) (by kernel_rfl) (by kernel_rfl) (fun _ _ _ h => h) (Or.inl ⟨by rfl, fun W hW => by go_simp⟩) hS ?_
      refine take_on (i := 6) (v := .pointer (some ⟨p, 4, none⟩)) rfl rfl (by kernel_rfl) (by kernel_rfl) (by kernel_rfl) (fun _ _ _ h => h) (Or.inl ⟨by rfl, fun W hW => by go_simp⟩) hS ?_
      simp only [List.setIfInBounds_toArray, List.set_cons_zero, List.set_cons_succ]
      refine take_on (i := 7) (v := .slice a N cap) rfl rfl (by kernel_rfl) (by kernel_rfl) (by kernel_rfl) (fun _ _ _ h => h) (Or.inl ⟨by rfl, fun W hW => by
        have hc : W.cell? ⟨p, 4, none⟩ = some (.slice a N cap) := by rw [hW.cell (p := ⟨p, 4, none⟩) hp]; exact C4.out
        go_simp⟩) hS ?_
      simp only [List.setIfInBounds_toArray, List.set_cons_zero, List.set_cons_succ]
      refine wpAnyH_ready (rs := [3]) (by kernel_rfl) (by simp) ?_
      refine AllReadyH.cons rfl (fun K hK => ?_) AllReadyH.nil
      rw [if_pos (by rfl)]
      go_simp
      refine hK.out _ _ (hS.alloc hS.size (.cells #[] 5)) (fun hS => ?_)
      clear hK
      refine wpAnyH_ready (rs := [8]) (by kernel_rfl) (by simp) ?_
      refine AllReadyH.cons rfl (fun K hK => ?_) AllReadyH.nil
      rw [if_pos (by rfl)]
      go_simp
      refine (Hfd.out _ _ (by rw [hS.cell (p := ⟨p, 0, none⟩) hp]; exact C0.out) (by rw [hS.cell (p := ⟨p, 1, none⟩) hp]; exact C1.out) (by rw [hS.cell (p := ⟨p, 2, none⟩) hp]; exact C2.out) (HR.out.below hS)).mono ?_
      rintro e u2 ⟨a1, k1, v2, rfl, hb⟩
      refine hK.out _ _ (below_call hS hS.size hb) (fun hS => ?_)
      clear hb hK
      refine take_on (i := 9) (v := .tuple #[.slice a1 n0 k1, .int .u32 R, v2]) rfl rfl (by kernel_rfl) (by kernel_rfl) (by kernel_rfl) (fun _ _ _ h => h) (Or.inl ⟨by rfl, fun W hW => by go_simp⟩) hS ?_
      simp only [List.setIfInBounds_toArray, List.set_cons_zero, List.set_cons_succ]
      refine take_on (i := 10) (v := .slice a1 n0 k1) rfl rfl (by kernel_rfl) (by kernel_rfl) (by kernel_rfl) (fun _ _ _ h => h) (Or.inl ⟨by rfl, fun W hW => by go_simp⟩) hS ?_
      refine take_on (i := 11) (v := .int .u32 R) rfl rfl (by kernel_rfl) (by kernel_rfl) (by kernel_rfl) (fun _ _ _ h => h) (Or.inl ⟨by rfl, fun W hW => by go_simp⟩) hS ?_
      refine take_on (i := 12) (v := v2) rfl rfl (by kernel_rfl) (by kernel_rfl) (by kernel_rfl) (fun _ _ _ h => h) (Or.inl ⟨by rfl, fun W hW => by go_simp⟩) hS ?_
      simp only [List.setIfInBounds_toArray, List.set_cons_zero, List.set_cons_succ]
      refine take_on (i := 13) (v := .slice a1 n0 k1) rfl rfl (by kernel_rfl) (by kernel_rfl) (by kernel_rfl) (fun _ _ _ h => h) (Or.inl ⟨by rfl, fun W hW => by go_simp⟩) hS ?_
      refine take_on (i := 14) (v := .int .u32 R) rfl rfl (by kernel_rfl) (by kernel_rfl) (by kernel_rfl) (fun _ _ _ h => h) (Or.inl ⟨by rfl, fun W hW => by go_simp⟩) hS ?_
      refine take_on (i := 15) (v := v2) rfl rfl (by kernel_rfl) (by kernel_rfl) (by kernel_rfl) (fun _ _ _ h => h) (Or.inl ⟨by rfl, fun W hW => by go_simp⟩) hS ?_
      refine wpAnyH_done (by kernel_rfl) ?_ _
      simp only [List.setIfInBounds_toArray, List.set_cons_zero, List.set_cons_succ]
      have B4 := Lib.hid hS
      have c3 : u2.cell? ⟨p, 3, none⟩ = some (.int .u32 q) := by rw [hS.cell (p := ⟨p, 3, none⟩) hp]; exact C3.out
      clear hS
      by_cases h0 : n0 = 0
      · have HP := Lib.hid (HPn.out h0)
        subst h0
        clear HPs HPn
        go_wp2_with fail
        go_ret
        exact ⟨by rw [HP.out]; rfl, B4.out⟩
      · have HP := Lib.hid (HPs.out h0)
        have hne : ((n0 : Int) == 0) = false := by simp; omega
        clear HPs HPn
        go_wp2_with fail
        go_ret
        exact ⟨by rw [HP.out]; rfl, B4.out⟩
set_option maxRecDepth 100000 in
set_option maxHeartbeats 1000000 in
theorem validcut_spec (a : Option Addr) (N cap : Nat) (lo mo bi q : Int) (L : List Int) (fl : ∀ z ∈ L, 0 ≤ z ∧ z ≤ 255) (hN : N ≤ 1048576) (w : World) (hr : Rd .u8 w a N L) :
    Calls Try.prog 41 #[.agg #[.int .i64 lo, .int .i64 mo, .int .i64 bi, .int .u32 q, .slice a N cap]] w fun e w' => e = .returned (.bool (fitP lo mo bi q L)) ∧ Below w.heap.size w w' := by
  have Hr := Lib.hid hr
  have Hc := Lib.hid (fun W h0 h1 h2 h3 h4 h5 => cutter_ok w.heap.size a N cap lo mo bi q L fl hN W h0 h1 h2 h3 h4 h5)
  have G1 := heap_alloc_last w (.cells #[.int .i64 lo, .int .i64 mo, .int .i64 bi, .int .u32 q, .slice a N cap] 64)
  have c0 := Lib.hid (cell_of_row _ _ 0 _ _ _ G1)
  have c1 := Lib.hid (cell_of_row _ _ 1 _ _ _ G1)
  have c2 := Lib.hid (cell_of_row _ _ 2 _ _ _ G1)
  have c3 := Lib.hid (cell_of_row _ _ 3 _ _ _ G1)
  have c4 := Lib.hid (cell_of_row _ _ 4 _ _ _ G1)
  have HB := Lib.hid ((Below.refl w.heap.size w).alloc (Nat.le_refl _) (.cells #[.int .i64 lo, .int .i64 mo, .int .i64 bi, .int .u32 q, .slice a N cap] 64))
  clear hr fl G1
  generalize fitP lo mo bi q L = V at Hc
  go_enter Try.func41, Try.ntmps41
  go_wp2_with fail
  refine (Hc.out _ c0.out c1.out c2.out c3.out c4.out (Hr.out.below HB.out)).mono ?_
  rintro e w1 ⟨rfl, hb⟩
  have B1 := Lib.hid (below_call HB.out HB.out.size hb)
  clear hb
  go_wp2_with fail
  go_ret
  exact ⟨rfl, B1.out⟩
end Go.Proofs.Ytdamgodfgoackaa
