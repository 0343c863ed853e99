/- ProofOf: both programs. Written by wip/gen/proofk.py. -/
import Derived.Test.YtjcfpfegabnnlaaProofJ
namespace Go.Proofs.Ytjcfpfegabnnlaa
open Go.ChangeShapes Go.WideShapes Go.ChangeAt Go.RowKit
set_option linter.unusedVariables false
set_option linter.unusedSimpArgs false
def pfE (n : Nat) (i : Int) : Int := if 256 < n then 3 else if 0 ≤ i ∧ i < (n : Int) then 0 else 2
def pfN (n : Nat) (i : Int) : Nat := if 256 < n then 0 else if 0 ≤ i ∧ i < (n : Int) then dN n i.toNat else 0
def pfV (fl : List Int) (n : Nat) (i : Int) : List Int := if 256 < n then [] else if 0 ≤ i ∧ i < (n : Int) then prf (keyAt fl) 0 n i.toNat else []
theorem pfN_le (n : Nat) (i : Int) : pfN n i ≤ 256 := by
  unfold pfN
  split
  · omega
  · split
    · have := dN_le n i.toNat; omega
    · omega
theorem pfV_len {fl : List Int} {n : Nat} {i : Int} (h : fl.length = 32 * n) : (pfV fl n i).length = 32 * pfN n i := by
  unfold pfV pfN
  split
  · rfl
  · split
    · rename_i h2
      exact prf_len n 0 i.toNat (by omega) (fun j hj => by rw [Nat.zero_add]; exact keyAt_len h hj)
    · rfl
set_option maxRecDepth 100000 in
set_option maxHeartbeats 2000000 in
theorem pf_spec (a : Option Addr) (n cap : Nat) (fl : List Int) (i : Int) (hn : n ≤ 1048576) (hc : n ≤ cap) (hm : cap ≤ maxLen) (fb : ∀ z ∈ fl, 0 ≤ z ∧ z ≤ 255) (w : World) (hr : RdK w a n fl) :
    Calls Try.prog 38 #[.slice a n cap, .int .i64 i] w fun e w' => ∃ v, e = .returned (.tuple #[v, .int .i64 (pfE n i)]) ∧ w'.ownsRow w.heap.size 23 32 v (pfN n i) ((pfV fl n i).map (Value.int .u8)) ∧ Below w.heap.size w w' := by
  unfold pfE pfN pfV
  by_cases h : 256 < n
  · rw [if_pos h, if_pos h, if_pos h]
    have h1 : (256 : Int) < (n : Int) := by omega
    have O1 := Lib.hid (owns_empty w 23 32)
    have B1 := Lib.hid ((Below.refl w.heap.size w).alloc (Nat.le_refl _) (.cells #[] 23))
    go_enter Try.func38, Try.ntmps38
    go_wp2_with fail
    go_ret2
    exact ⟨_, rfl, O1.out, B1.out⟩
  · rw [if_neg h, if_neg h, if_neg h]
    have h1 : (n : Int) ≤ (256 : Int) := by omega
    have h0 : (0 : Int) ≤ (n : Int) := by omega
    by_cases h2 : 0 ≤ i ∧ i < (n : Int)
    · rw [if_pos h2, if_pos h2, if_pos h2]
      obtain ⟨j, rfl⟩ := Int.eq_ofNat_of_zero_le h2.1
      obtain ⟨b, o, rfl⟩ := hr.form (by omega)
      rw [Int.toNat_natCast]
      have Hb := Lib.hid (fun W => in_true (j : Int) 0 ((n : Int) - 1) h2.1 (by omega) W)
      have Hp := Lib.hid (proof_spec n b o cap j fl w (by omega) (by omega) hc hm fb hr)
      generalize dN n j = N at Hp ⊢
      generalize prf (keyAt fl) 0 n j = V at Hp ⊢
      clear h2 hr fb
      go_enter Try.func38, Try.ntmps38
      go_wp2_with fail
      refine (Hb.out _).mono ?_
      rintro e w1 ⟨rfl, rfl⟩
      go_wp2_with fail
      refine Hp.out.mono ?_
      rintro e w1 ⟨v, rfl, ho, hb⟩
      have O1 := Lib.hid ho
      have B1 := Lib.hid hb
      clear ho hb
      go_wp2_with fail
      go_ret2
      exact ⟨_, rfl, O1.out, B1.out⟩
    · rw [if_neg h2, if_neg h2, if_neg h2]
      have Hb := Lib.hid (fun W => in_false i 0 ((n : Int) - 1) (by omega) W)
      have O1 := Lib.hid (owns_empty w 23 32)
      have B1 := Lib.hid ((Below.refl w.heap.size w).alloc (Nat.le_refl _) (.cells #[] 23))
      clear h2 hr fb
      go_enter Try.func38, Try.ntmps38
      go_wp2_with fail
      refine (Hb.out _).mono ?_
      rintro e w1 ⟨rfl, rfl⟩
      go_wp2_with fail
      go_ret2
      exact ⟨_, rfl, O1.out, B1.out⟩
set_option maxRecDepth 100000 in
set_option maxHeartbeats 2000000 in
theorem pf_impl (a : Option Addr) (n cap : Nat) (fl : List Int) (i : Int) (hn : n ≤ 1048576) (hc : n ≤ cap) (hm : cap ≤ maxLen) (fb : ∀ z ∈ fl, 0 ≤ z ∧ z ≤ 255) (w : World) (hr : RdK w a n fl) :
    Calls Try.prog 39 #[.slice a n cap, .int .i64 i] w fun e w' => ∃ v, e = .returned (.tuple #[v, .int .i64 (pfE n i)]) ∧ w'.ownsRow w.heap.size 23 32 v (pfN n i) ((pfV fl n i).map (Value.int .u8)) ∧ Below w.heap.size w w' := by
  unfold pfE pfN pfV
  by_cases h : 256 < n
  · rw [if_pos h, if_pos h, if_pos h]
    have h1 : (256 : Int) < (n : Int) := by omega
    go_enter Try.func39, Try.ntmps39
    go_wp2_with fail
    go_ret2
    exact ⟨_, rfl, World.ownsRow_nil _ _ _ _, Below.refl _ _⟩
  · rw [if_neg h, if_neg h, if_neg h]
    have h1 : (n : Int) ≤ (256 : Int) := by omega
    have h0 : (0 : Int) ≤ (n : Int) := by omega
    by_cases h2 : 0 ≤ i ∧ i < (n : Int)
    · rw [if_pos h2, if_pos h2, if_pos h2]
      obtain ⟨j, rfl⟩ := Int.eq_ofNat_of_zero_le h2.1
      obtain ⟨b, o, rfl⟩ := hr.form (by omega)
      rw [Int.toNat_natCast]
      have Hb := Lib.hid (fun W => place_yes (n : Int) (j : Int) h2.1 h2.2 W)
      have hp := proof_impl b o n cap j fl (by omega) (by omega) hc hm fb w hr
      have e1 := tns_dN n 0 j (Nat.zero_le _)
      have e2 := prf_tns fl n 0 j (Nat.zero_le _)
      rw [Nat.sub_zero] at e1 e2
      rw [e1, ← e2] at hp
      have Hp := Lib.hid hp
      clear hp e1 e2
      generalize dN n j = N at Hp ⊢
      generalize prf (keyAt fl) 0 n j = V at Hp ⊢
      clear h2 hr fb
      go_enter Try.func39, Try.ntmps39
      go_wp2_with fail
      refine (Hb.out _).mono ?_
      rintro e w1 ⟨rfl, rfl⟩
      go_wp2_with fail
      refine Hp.out.mono ?_
      rintro e w1 ⟨v, rfl, ho, hb⟩
      have O1 := Lib.hid ho
      have B1 := Lib.hid hb
      clear ho hb
      go_wp2_with fail
      go_ret2
      exact ⟨_, rfl, O1.out, B1.out⟩
    · rw [if_neg h2, if_neg h2, if_neg h2]
      have Hb := Lib.hid (fun W => place_no (n : Int) i h2 W)
      clear h2 hr fb
      go_enter Try.func39, Try.ntmps39
      go_wp2_with fail
      refine (Hb.out _).mono ?_
      rintro e w1 ⟨rfl, rfl⟩
      go_wp2_with fail
      go_ret2
      exact ⟨_, rfl, World.ownsRow_nil _ _ _ _, Below.refl _ _⟩
end Go.Proofs.Ytjcfpfegabnnlaa
