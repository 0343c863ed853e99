/- SortKeys: the specification. Written by hand. -/
import Derived.Test.YtnnplebebhjfaabSoS
import Derived.Test.YtnnplebebhjfaabSkI
namespace Go.Proofs.Ytnnplebebhjfaab
open Go.ChangeShapes Go.WideShapes Go.ChangeAt Go.RowKit
set_option linter.unusedVariables false
set_option linter.unusedSimpArgs false
open Go.Sort Go.Shelf
theorem bits_zero : ∀ n : Fin 256, bits .xor .u8 ((n.val : Nat) : Int) 0 = ((n.val : Nat) : Int) := of_decide_eq_true (by kernel_rfl)
theorem xor_z32 (x : KeyS) : xorL x.1 z32 = x.1 := by
  apply List.ext_getElem?
  intro t
  by_cases ht : t < 32
  · have h := xorL_at (k := t) x.2.1 (show z32.length = 32 from rfl) ht
    have hl : t < (xorL x.1 z32).length := by rw [xorL_len x.2.1 (show z32.length = 32 from rfl)]; exact ht
    have hx : t < x.1.length := by rw [x.2.1]; exact ht
    have hz : z32[t]?.getD 0 = 0 := by
      rw [show z32 = List.replicate 32 0 from rfl, List.getElem?_replicate, if_pos ht]
      rfl
    rw [hz, List.getElem?_eq_getElem hl, List.getElem?_eq_getElem hx, Option.getD_some, Option.getD_some] at h
    have hb := x.2.2 x.1[t] (List.getElem_mem hx)
    obtain ⟨m, hm⟩ : ∃ m : Nat, x.1[t] = (m : Int) := ⟨x.1[t].toNat, by omega⟩
    have := bits_zero ⟨m, by omega⟩
    rw [List.getElem?_eq_getElem hl, List.getElem?_eq_getElem hx, h, hm, this]
  · rw [List.getElem?_eq_none (by rw [xorL_len x.2.1 (show z32.length = 32 from rfl)]; omega), List.getElem?_eq_none (by rw [x.2.1]; omega)]
theorem isK_z32 : IsK z32 := ⟨rfl, fun z hz => by
  rw [show z32 = List.replicate 32 0 from rfl, List.mem_replicate] at hz
  omega⟩
theorem ord_of {fl : List Int} {n : Nat} {acc : List KeyS} (hp : acc.Perm (onceK (ksL fl n))) (ha : AscD z32 acc) : acc = ordK fl n := by
  have h1 : Asc acc := by
    unfold AscD at ha
    refine ha.imp (fun {x y} h => ?_)
    unfold LtD at h
    rwa [xor_z32, xor_z32] at h
  rw [← sortK_asc h1]
  exact sortK_of_perm hp
set_option maxRecDepth 100000 in
set_option maxHeartbeats 2000000 in
theorem sortkeys_spec (b : Option Addr) (n cap : Nat) (fl : List Int) (hn : n ≤ 1048576) (hf : ∀ y ∈ fl, 0 ≤ y ∧ y ≤ 255) (w : World) (hk : RdK w b n fl) :
    Calls Try.prog 19 #[.slice b n cap] w fun e w' => ∃ v, e = .returned (.tuple #[v, .int .i64 (if n ≤ 256 then 0 else 3)]) ∧ w'.ownsRow w.heap.size 44 32 v (if n ≤ 256 then (ordK fl n).length else 0) ((flatK (if n ≤ 256 then ordK fl n else [])).map (Value.int .u8)) ∧ Below w.heap.size w w' := by
  have Hz := Lib.hid z32_ints
  have Ho := sort_spec b n cap fl z32 hn hf isK_z32 (fun x y e => by rw [xor_z32, xor_z32] at e; exact Subtype.ext e) w hk
  rw [Hz.out] at Ho
  replace Ho := Lib.hid Ho
  clear hk hf
  have z1 : (0 : Int) ≤ (n : Int) := by omega
  have z2 : (n : Int) ≤ 1048576 := by omega
  by_cases hq : n ≤ 256
  · rw [if_pos hq, if_pos hq, if_pos hq]
    have z3 : ¬ (256 : Int) < (n : Int) := by omega
    go_enter Try.func19, Try.ntmps19
    go_wp2_with (go_at_call 48; refine Ho.out.mono ?_; rintro e w1 ⟨v, acc, rfl, hp, ha, hrow, hb⟩)
    go_returns
    rw [ord_of hp ha] at hrow
    exact ⟨_, rfl, hrow, hb⟩
  · rw [if_neg hq, if_neg hq, if_neg hq]
    have z3 : (256 : Int) < (n : Int) := by omega
    go_enter Try.func19, Try.ntmps19
    go_wp2_with fail
    go_returns
    exact ⟨_, rfl, ⟨rfl, .inr ⟨w.heap.size, 0, #[], rfl, Nat.le_refl _, heap_alloc_last _ _, Nat.le_refl _, by unfold maxLen; omega, rfl, rfl⟩⟩, by go_grown⟩
end Go.Proofs.Ytnnplebebhjfaab
