/- The statement on FnExactSortKeys: its walk. Written by wip/gen/klist.py. -/
import Derived.Test.YtnnplebebhjfaabSkS
import Derived.Test.YtnnplebebhjfaabKeysM
namespace Go.Proofs.Ytnnplebebhjfaab
open Go.ChangeShapes Go.WideShapes Go.ChangeAt Go.RowKit
set_option linter.unusedVariables false
set_option maxRecDepth 100000 in
set_option maxHeartbeats 8000000 in
theorem FnExactSortKeys_in (a : Option Addr) (n cap : Nat) (N : Nat) (fl L : List Int) (E : Int) (hN : N ≤ 1048576) (hL : L.length = 32 * N) (hn : n ≤ 1048576) (w : World) (hr : RdK w a n fl)
    (hs : ∀ (W : World) (b : Option Addr), RdK W b n fl → Calls Try.prog 19 #[.slice b n n] W fun e w' => ∃ v, e = .returned (.tuple #[v, .int .i64 E]) ∧ w'.ownsRow W.heap.size 44 32 v N (L.map (Value.int .u8)) ∧ Below W.heap.size W w')
    (hi : ∀ (W : World) (b : Option Addr), RdK W b n fl → Calls Try.prog 21 #[.slice b n n] W fun e w' => ∃ v, e = .returned (.tuple #[v, .int .i64 E]) ∧ w'.ownsRow W.heap.size 44 32 v N (L.map (Value.int .u8)) ∧ Below W.heap.size W w') :
    Calls Try.prog 4 #[.slice a n cap] w fun e w' => e = .returned (.bool true) ∧ Below w.heap.size w w' := by
  have Hr := Lib.hid hr
  have HL := Lib.hid hL
  have Hs := Lib.hid hs
  have Hi := Lib.hid hi
  have Hl := Lib.hid hr.1
  clear hr hs hi hL
  go_enter Try.func4, Try.ntmps4
  go_wp2_with fail
  refine (szKS_in a n cap 1048576 (by omega) (by omega) (by omega) _).mono ?_
  rintro e v0 ⟨rfl, rfl⟩
  go_wp2_with fail
  refine (toKS a n cap fl hn _ Hr.out).mono ?_
  rintro e w1 ⟨rfl, hg, hb⟩
  have L1 := Lib.hid hb
  have X1 := Lib.hid (RdK.row Hl.out hg)
  clear hb hg
  go_wp2_with fail
  refine (Hs.out _ _ X1.out).mono ?_
  rintro e w3 ⟨v3, rfl, hown, hb⟩
  have L3 := Lib.hid (below_call L1.out L1.out.size hb)
  obtain ⟨a3, c3, rfl, R3⟩ := RdK.owned HL.out hown
  have R3 := Lib.hid R3
  clear hb hown X1 L1
  go_wp2_with fail
  refine (toKS a n cap fl hn _ (Hr.out.below L3.out)).mono ?_
  rintro e w4 ⟨rfl, hg, hb⟩
  have X4 := Lib.hid hg
  have T4 := Lib.hid hb
  have HR4 := Lib.hid (RdK.row Hl.out hg)
  have HX4 : Hid (w3.heap.size < w4.heap.size) := Lib.hid (Array.getElem?_eq_some_iff.1 hg).1
  clear hg hb
  go_wp2_with fail
  refine (Hi.out _ _ HR4.out).mono ?_
  rintro e w5 ⟨v5, rfl, hown, hb⟩
  have T5 := Lib.hid (below_call T4.out T4.out.size hb)
  have X5 := Lib.hid (keep_block X4.out hb)
  obtain ⟨a5, c5, rfl, R5⟩ := RdK.owned HL.out hown
  have O5 := Lib.hid hown
  clear hb hown R5
  go_wp2_with fail
  refine (eqKS a5 a3 N c5 c3 L hN _ (rdk_of_owned HL.out O5.out) (R3.out.below T5.out)).mono ?_
  rintro e w6 ⟨rfl, hb⟩
  have T6 := Lib.hid (below_call T5.out T5.out.size hb)
  have O6 := Lib.hid (owns_below O5.out hb)
  have X6 := Lib.hid (keep_block X5.out hb)
  clear hb
  go_wp2_with fail
  refine (toKS a n cap fl hn _ (Hr.out.below (L3.out.trans (T6.out.mono L3.out.size)))).mono ?_
  rintro e v6 ⟨rfl, hg, hb0⟩
  have HR6 := Lib.hid (RdK.row Hl.out hg)
  have HX6 := Lib.hid (RdK.row Hl.out (keep_block X6.out hb0))
  have T6b := Lib.hid (below_call T6.out T6.out.size hb0)
  have O6b := Lib.hid (owns_below O6.out hb0)
  have X6b := Lib.hid (keep_block X6.out hb0)
  clear hg hb0
  go_wp2_with fail
  refine (eqKS _ _ n n n fl hn _ HX6.out HR6.out).mono ?_
  rintro e w7 ⟨rfl, hb⟩
  have T7 := Lib.hid (below_call T6b.out T6b.out.size hb)
  have O7 := Lib.hid (owns_below O6b.out hb)
  have X7 := Lib.hid (keep_block X6b.out hb)
  clear hb HR6 HX6
  go_wp2_with fail
  refine (markA w3.heap.size n n _ 1 (by omega) (by omega) hn (by rw [ints_size, Hl.out]; exact Nat.le_refl _) _ X7.out).mono ?_
  rintro e w8 ⟨rfl, hx8, hk8⟩
  have O8 := Lib.hid (owns_keep (by have := HX4.out; omega) O7.out hk8)
  have T8 := Lib.hid (T7.out.trans (hk8.below T7.out.size (fun k e => by have h : k = w3.heap.size := e; omega)))
  clear hk8 hx8
  have hk0 : 0 ≤ (1 : Int) + ((32 * n : Nat) : Int) := by omega
  generalize (1 : Int) + ((32 * n : Nat) : Int) = kk at hk0
  go_wp2_with fail
  refine (eqKS a5 a3 N c5 c3 L hN _ (rdk_of_owned HL.out O8.out) (R3.out.below T8.out)).mono ?_
  rintro e w9 ⟨rfl, hb⟩
  have O9 := Lib.hid (owns_below O8.out hb)
  have T9 := Lib.hid (below_call T8.out T8.out.size hb)
  clear hb
  go_wp2_with fail
  refine (markKV a5 N c5 _ L 1 (by omega) (by omega) (by omega) _ O9.out).mono ?_
  rintro e w10 ⟨rfl, hm, hb⟩
  have T10 := Lib.hid (T9.out.trans (hb.mono T4.out.size))
  have M10 := Lib.hid hm
  clear hb hm
  have hm0 : 0 ≤ (1 : Int) + ((32 * N : Nat) : Int) := by omega
  generalize hm : (1 : Int) + ((32 * N : Nat) : Int) = m0 at hm0
  have HM := Lib.hid hm
  clear hm
  go_wp2_with fail
  refine (heldA a5 N c5 1 (by omega) (by omega) (by omega) _ M10.out).mono ?_
  rintro e w11 ⟨rfl, rfl⟩
  rw [HM.out]
  go_wp2_with fail
  refine (toKS a n cap fl hn _ (Hr.out.below (L3.out.trans (T10.out.mono L3.out.size)))).mono ?_
  rintro e v12 ⟨rfl, hg, hb⟩
  have T12 := Lib.hid (below_call T10.out T10.out.size hb)
  have HR12 := Lib.hid (RdK.row Hl.out hg)
  have M12 := Lib.hid (M10.out.below hb)
  clear hg hb
  go_wp2_with fail
  refine (Hi.out _ _ HR12.out).mono ?_
  rintro e w13 ⟨v13, rfl, hown, hb⟩
  have T13 := Lib.hid (below_call T12.out T12.out.size hb)
  have M13 := Lib.hid (M12.out.below hb)
  obtain ⟨a13, c13, rfl, R13⟩ := RdK.owned HL.out hown
  have R13 := Lib.hid R13
  clear hb hown
  go_wp2_with fail
  refine (eqKS a13 a3 N c13 c3 L hN _ R13.out (R3.out.below T13.out)).mono ?_
  rintro e w14 ⟨rfl, hb⟩
  have T14 := Lib.hid (below_call T13.out T13.out.size hb)
  have M14 := Lib.hid (M13.out.below hb)
  clear hb
  go_wp2_with fail
  refine (heldA a5 N c5 1 (by omega) (by omega) (by omega) _ M14.out).mono ?_
  rintro e w15 ⟨rfl, rfl⟩
  rw [HM.out]
  go_wp2
  go_ret
  exact ⟨rfl, L3.out.trans (T14.out.mono L3.out.size)⟩
set_option maxRecDepth 100000 in
set_option maxHeartbeats 1000000 in
theorem FnExactSortKeys_out (a : Option Addr) (n cap : Nat) (hm : n ≤ maxLen) (hn : ¬ n ≤ 1048576) (w : World) :
    Calls Try.prog 4 #[.slice a n cap] w fun e w' => e = .returned (.bool true) ∧ Below w.heap.size w w' := by
  unfold maxLen at hm
  have h1 : (1048576 : Int) < (n : Int) := by omega
  go_enter Try.func4, Try.ntmps4
  go_wp2_with fail
  refine (szKS_out a n cap 1048576 (by omega) (by omega) hm h1 _).mono ?_
  rintro e v0 ⟨rfl, rfl⟩
  go_wp2
  go_ret
  exact ⟨rfl, Below.refl _ _⟩
theorem FnExactSortKeys_walk (a : Option Addr) (n cap : Nat) (fl : List Int) (w : World) (f : IsKeys w a n fl) :
    Calls Try.prog 4 #[.slice a n cap] w fun e w' => e = .returned (.bool true) ∧ Below w.heap.size w w' := by
  by_cases hn : n ≤ 1048576
  · have hl := f.2.1.1
    have fb := f.2.2
    exact FnExactSortKeys_in a n cap (if n ≤ 256 then (ordK fl n).length else 0) fl (flatK (if n ≤ 256 then ordK fl n else [])) (if n ≤ 256 then 0 else 3) (by have := ordK_le fl n; split <;> omega) (by rw [flatK_len]; split <;> rfl) hn w f.2.1
      (fun W b h => sortkeys_spec b n n fl hn fb W h) (fun W b h => sortkeys_impl b n n fl hn fb W h)
  · exact FnExactSortKeys_out a n cap f.1 hn w
end Go.Proofs.Ytnnplebebhjfaab
