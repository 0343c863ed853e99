/- Keys in order, each once, by the program. Written by hand. -/
import Derived.Test.YtnnplebebhjfaabOnc
namespace Go.Proofs.Ytnnplebebhjfaab
open Go.ChangeShapes Go.WideShapes Go.ChangeAt Go.RowKit
set_option linter.unusedVariables false
set_option linter.unusedSimpArgs false
open Go.Sort Go.Shelf
/-- The keys of a list in order, each once. -/
noncomputable def ordK (fl : List Int) (n : Nat) : List KeyS := sortK (onceK (ksL fl n))
theorem ordK_len (fl : List Int) (n : Nat) : (ordK fl n).length = (onceK (ksL fl n)).length := (sortK_perm _).length_eq
theorem ordK_le (fl : List Int) (n : Nat) : (ordK fl n).length ≤ n := by
  rw [ordK_len]
  exact onceK_len n _ (ksL_len fl n)
set_option maxRecDepth 100000 in
set_option maxHeartbeats 2000000 in
theorem order_impl (b : Option Addr) (n cap : Nat) (fl : List Int) (hn : n ≤ 1048576) (hf : ∀ y ∈ fl, 0 ≤ y ∧ y ≤ 255) (w : World) (hk : RdK w b n fl) :
    Calls Try.prog 49 #[.slice b n cap] w fun e w' => ∃ v, e = .returned v ∧ w'.ownsRow w.heap.size 44 32 v (ordK fl n).length ((flatK (ordK fl n)).map (Value.int .u8)) ∧ Below w.heap.size w w' := by
  rw [ordK_len]
  have Ho := Lib.hid (once_impl b n cap fl hn hf w hk)
  have hol := onceK_len n _ (ksL_len fl n)
  unfold ordK
  generalize onceK (ksL fl n) = ss at Ho hol ⊢
  clear hk hf
  go_enter Try.func49, Try.ntmps49
  go_upto_region 2 with (go_at_call 53; refine Ho.out.mono ?_; rintro e w1 ⟨v, rfl, hrow, hb⟩)
  obtain ⟨_, hrow | ⟨g, cap, cur, rfl, hbase, hcb, h1, h2, h3, h4⟩⟩ := hrow
  · obtain ⟨rfl, h0⟩ := hrow
    have he : ss = [] := List.eq_nil_of_length_eq_zero h0
    subst he
    have hsn := Lib.hid (sort_none none 0 (.func (.func 77) #[] #[]))
    go_wp2_with (go_at_call 58; refine (hsn.out _).mono ?_; rintro e w2 ⟨rfl, rfl⟩)
    go_ret
    have e0 : sortK [] = [] := List.mergeSort_nil
    refine ⟨_, rfl, ?_, hb⟩
    rw [e0]
    exact ⟨rfl, .inl ⟨rfl, rfl⟩⟩
  · have hH : HoldsK encL 32 w1 g 0 ss.toArray := holds_keys rfl hcb h4
    have hg : g < w1.heap.size := (Array.getElem?_eq_some_iff.1 hcb).1
    have hsf := Lib.hid (sort_keys g cap ss w1 hH hg (by omega))
    have HC := Lib.hid hcb
    have HB := Lib.hid hb
    clear hcb hH hb h4 Ho
    go_wp2_with (go_at_call 58; refine hsf.out.mono ?_; rintro e w2 ⟨rfl, n, os, rfl⟩)
    go_ret
    exact ⟨_, rfl, owns_sortedK ((sortK_perm ss).length_eq) hbase HC.out h1 h2 h3, HB.out.trans (below_sorted _ hbase hg)⟩
set_option maxRecDepth 100000 in
set_option maxHeartbeats 2000000 in
theorem sortkeys_impl (b : Option Addr) (n cap : Nat) (fl : List Int) (hn : n ≤ 1048576) (hf : ∀ y ∈ fl, 0 ≤ y ∧ y ≤ 255) (w : World) (hk : RdK w b n fl) :
    Calls Try.prog 21 #[.slice b n cap] w fun e w' => ∃ v, e = .returned (.tuple #[v, .int .i64 (if n ≤ 256 then 0 else 3)]) ∧ w'.ownsRow w.heap.size 44 32 v (if n ≤ 256 then (ordK fl n).length else 0) ((flatK (if n ≤ 256 then ordK fl n else [])).map (Value.int .u8)) ∧ Below w.heap.size w w' := by
  have Ho := Lib.hid (order_impl b n cap fl hn hf w hk)
  clear hk hf
  have z1 : (0 : Int) ≤ (n : Int) := by omega
  have z2 : (n : Int) ≤ 1048576 := by omega
  by_cases hq : n ≤ 256
  · rw [if_pos hq, if_pos hq, if_pos hq]
    have z3 : ¬ (256 : Int) < (n : Int) := by omega
    go_enter Try.func21, Try.ntmps21
    go_wp2_with (go_at_call 49; refine Ho.out.mono ?_; rintro e w1 ⟨v, rfl, hrow, hb⟩)
    go_returns
    exact ⟨_, rfl, hrow, hb⟩
  · rw [if_neg hq, if_neg hq, if_neg hq]
    have z3 : (256 : Int) < (n : Int) := by omega
    go_enter Try.func21, Try.ntmps21
    go_wp2_with fail
    go_returns
    exact ⟨_, rfl, ⟨rfl, .inl ⟨rfl, rfl⟩⟩, Below.refl _ _⟩
end Go.Proofs.Ytnnplebebhjfaab
