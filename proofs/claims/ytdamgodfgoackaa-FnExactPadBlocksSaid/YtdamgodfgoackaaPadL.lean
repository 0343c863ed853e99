/- The statement on PadBlocks: its walk. -/
import Derived.Test.YtdamgodfgoackaaA32S
import Derived.Test.YtdamgodfgoackaaBytes
namespace Go.Proofs.Ytdamgodfgoackaa
open Go.ChangeShapes Go.WideShapes Go.ChangeAt Go.RowKit
set_option linter.unusedVariables false
theorem owns_setRow {g base e n size : Nat} {w : World} {v : Value} {xs : List Value} {cs : Array Value} (hb : g < base) (o : w.ownsRow base e size v n xs) : (w.setRow g cs).ownsRow base e size v n xs := by
  refine ⟨o.1, ?_⟩
  rcases o.2 with h0 | ⟨c, cap, cur, hv, hc, hh, r⟩
  · exact Or.inl h0
  · exact Or.inr ⟨c, cap, cur, hv, hc, (setRow_other _ _ _ _ (by omega)).trans hh, r⟩
theorem rdk_of_owned {w : World} {base n cap : Nat} {a : Option Addr} {L : List Int} {t : TypeId} (hl : L.length = 32 * n) (h : w.ownsRow base t 32 (.slice a n cap) n (L.map (Value.int .u8))) : RdK w a n L := by
  obtain ⟨a', c', e, r⟩ := RdK.owned hl h
  cases e
  exact r
theorem markAV (a : Option Addr) (n cap base : Nat) (L : List Int) (k0 : Int) (h0 : 0 ≤ k0) (h1 : k0 ≤ 1099511627776) (hn : n ≤ 1048576) (w : World) (ho : w.ownsRow base 23 32 (.slice a n cap) n (L.map (Value.int .u8))) :
    Calls Try.prog 34 #[.slice a n cap, .int .i64 k0] w fun e w' => e = .returned (.int .i64 (k0 + (32 * n : Nat))) ∧ RdK w' a n (markL k0 (32 * n)) ∧ Below base w w' := by
  rcases ho.2 with ⟨h, hz⟩ | ⟨g, c, cur, hv, hb, hg, hc, hm, hs, ht⟩
  · cases h
    exact (markA0 none 0 k0 w).mono fun e w' ⟨he, hw⟩ => ⟨by rw [he]; simp, by rw [hw]; exact ⟨by simp [markL], Or.inl rfl⟩, by rw [hw]; exact Below.refl _ _⟩
  · cases hv
    exact (markA g n cap cur k0 h0 h1 hn (by omega) w hg).mono fun e w' ⟨he, hr, hb'⟩ => ⟨he, hr, hb'.mono hb⟩
set_option maxHeartbeats 1000000 in
theorem pads_spec_out (a : Option Addr) (n cap : Nat) (hm : n ≤ 1048576) (hn : ¬ n ≤ 4096) (w : World) :
    Calls Try.prog 30 #[.slice a n cap] w fun e w' => ∃ v, e = .returned (.tuple #[v, .int .i64 3]) ∧ w'.ownsRow w.heap.size 23 32 v 0 [] ∧ Below w.heap.size w w' := by
  have b0 : (4096 : Int) < (n : Int) := by omega
  go_enter Try.func30, Try.ntmps30
  go_wp2_with fail
  go_ret2
  exact ⟨_, rfl, ⟨rfl, Or.inr ⟨w.heap.size, 0, #[], rfl, Nat.le_refl _, heap_alloc_last _ _, by omega, by unfold maxLen; omega, rfl, rfl⟩⟩, (Below.refl _ _).alloc (Nat.le_refl _) _⟩
set_option maxRecDepth 100000 in
set_option maxHeartbeats 8000000 in
theorem padl_in (a : Option Addr) (n cap N : Nat) (l L : List Int) (E : Int) (hN : N ≤ 1048576) (hL : L.length = 32 * N) (hn : n ≤ 1048576) (w : World) (hr : Rd .u8 w a n l)
    (hs : ∀ W g, g < W.heap.size → (∀ j, j < n → W.cell? ⟨g, 0 + j, none⟩ = some (.int .u8 (l[j]?.getD 0))) → Calls Try.prog 30 #[.slice (some ⟨g, 0, none⟩) n n] W fun e w' => ∃ v, e = .returned (.tuple #[v, .int .i64 E]) ∧ w'.ownsRow W.heap.size 23 32 v N (L.map (Value.int .u8)) ∧ Below W.heap.size W w')
    (hi : ∀ W g, Rd .u8 W (some ⟨g, 0, none⟩) n l → Calls Try.prog 31 #[.slice (some ⟨g, 0, none⟩) n n] W fun e w' => ∃ v, e = .returned (.tuple #[v, .int .i64 E]) ∧ w'.ownsRow W.heap.size 23 32 v N (L.map (Value.int .u8)) ∧ Below W.heap.size W w') :
    Calls Try.prog 7 #[.slice a n cap] w fun e w' => e = .returned (.bool true) ∧ Below w.heap.size w w' := by
  have Hr := Lib.hid hr
  have HL := Lib.hid hL
  have Hs := Lib.hid hs
  have Hi := Lib.hid hi
  have Hl := Lib.hid hr.1
  clear hr hs hi hL
  go_enter Try.func7, Try.ntmps7
  go_wp2_with fail
  refine (toBS a n cap l hn _ Hr.out).mono ?_
  rintro e v1 ⟨rfl, rfl⟩
  have X1 := Lib.hid (heap_alloc_last w (.cells (ints .u8 l) 5))
  go_wp2_with fail
  refine (Hs.out _ w.heap.size (by simp) (fun j hj => by rw [Nat.zero_add, cell_of_row _ _ _ _ _ _ X1.out, ints_get .u8 l j (by rw [Hl.out]; exact hj)])).mono ?_
  rintro e w3 ⟨v3, rfl, hown, hb⟩
  have L3 := Lib.hid (((Below.refl w.heap.size w).alloc (by simp) (.cells (ints .u8 l) 5)).trans (hb.mono (by simp)))
  obtain ⟨a3, c3, rfl, R3⟩ := RdK.owned HL.out hown
  have R3 := Lib.hid R3
  clear hb hown X1
  go_wp2_with fail
  refine (toBS a n cap l hn _ (Hr.out.below L3.out)).mono ?_
  rintro e v4 ⟨rfl, rfl⟩
  have X4 := Lib.hid (heap_alloc_last w3 (.cells (ints .u8 l) 5))
  have T4 := Lib.hid ((Below.refl w3.heap.size w3).alloc (Nat.le_refl _) (.cells (ints .u8 l) 5))
  have HR4 := Lib.hid (by have h := Rd.row X4.out; rw [Hl.out] at h; exact h)
  go_wp2_with fail
  refine (Hi.out _ _ HR4.out).mono ?_
  rintro e w5 ⟨v5, rfl, hown, hb⟩
  have T5 := Lib.hid (below_call T4.out T4.out.size hb)
  have X5 := Lib.hid (keep_block X4.out hb)
  obtain ⟨a5, c5, rfl, R5⟩ := RdK.owned HL.out hown
  have O5 := Lib.hid hown
  clear hb hown R5
  go_wp2_with fail
  refine (eqA32S a5 a3 N c5 c3 L hN _ (rdk_of_owned HL.out O5.out) (R3.out.below T5.out)).mono ?_
  rintro e w6 ⟨rfl, hb⟩
  have T6 := Lib.hid (below_call T5.out T5.out.size hb)
  have O6 := Lib.hid (owns_below O5.out hb)
  have X6 := Lib.hid (keep_block X5.out hb)
  clear hb
  go_wp2_with fail
  refine (toBS a n cap l hn _ (Hr.out.below (L3.out.trans (T6.out.mono L3.out.size)))).mono ?_
  rintro e v6 ⟨rfl, rfl⟩
  have HR6 := Lib.hid (by have h := Rd.row (heap_alloc_last w6 (.cells (ints .u8 l) 5)); rw [Hl.out] at h; exact h)
  have HX6 := Lib.hid (by have h := Rd.row X6.out; rw [Hl.out] at h; exact h)
  go_wp2_with fail
  refine (eqBS _ _ n n n l hn _ (HX6.out.below ((Below.refl _ _).alloc (by simp) _)) HR6.out).mono ?_
  rintro e w7 ⟨rfl, hb⟩
  have B7 := (Below.refl w6.heap.size w6).alloc (Nat.le_refl _) (.cells (ints .u8 l) 5) |>.trans (hb.mono (by simp))
  have T7 := Lib.hid (below_call T6.out T6.out.size B7)
  have O7 := Lib.hid (owns_below O6.out B7)
  have X7 := Lib.hid (keep_block X6.out B7)
  clear hb B7 HR6 HX6
  go_wp2_with fail
  refine (markBS w3.heap.size n n l _ 1 (by omega) (by omega) (by omega) Hl.out _ X7.out).mono ?_
  rintro e w8 ⟨rfl, hw8⟩
  have O8 := Lib.hid (by have h := owns_setRow (g := w3.heap.size) (cs := ints .u8 (markL 1 n)) (by simp) O7.out; rw [← hw8] at h; exact h)
  have T8 := Lib.hid (by have h := Below.setRow T7.out (Nat.le_refl _) (ints .u8 (markL 1 n)); rw [← hw8] at h; exact h)
  clear hw8
  go_wp2_with fail
  refine (eqA32S a5 a3 N c5 c3 L hN _ (rdk_of_owned HL.out O8.out) (R3.out.below T8.out)).mono ?_
  rintro e w9 ⟨rfl, hb⟩
  have O9 := Lib.hid (owns_below O8.out hb)
  have T9 := Lib.hid (below_call T8.out T8.out.size hb)
  clear hb
  go_wp2_with fail
  refine (markAV a5 N c5 _ L 1 (by omega) (by omega) (by omega) _ O9.out).mono ?_
  rintro e w10 ⟨rfl, hm, hb⟩
  have T10 := Lib.hid (T9.out.trans (hb.mono T4.out.size))
  have M10 := Lib.hid hm
  clear hb hm
  have hm0 : 0 ≤ (1 : Int) + ((32 * N : Nat) : Int) := by omega
  generalize hm : (1 : Int) + ((32 * N : Nat) : Int) = m at hm0
  have HM := Lib.hid hm
  clear hm
  go_wp2_with fail
  refine (heldA a5 N c5 1 (by omega) (by omega) (by omega) _ M10.out).mono ?_
  rintro e w11 ⟨rfl, rfl⟩
  rw [HM.out]
  go_wp2_with fail
  refine (toBS a n cap l hn _ (Hr.out.below (L3.out.trans (T10.out.mono L3.out.size)))).mono ?_
  rintro e v12 ⟨rfl, rfl⟩
  have T12 := Lib.hid (T10.out.alloc T10.out.size (.cells (ints .u8 l) 5))
  have HR12 := Lib.hid (by have h := Rd.row (heap_alloc_last w11 (.cells (ints .u8 l) 5)); rw [Hl.out] at h; exact h)
  have M12 := Lib.hid (M10.out.below ((Below.refl _ _).alloc (Nat.le_refl _) (.cells (ints .u8 l) 5)))
  go_wp2_with fail
  refine (Hi.out _ _ HR12.out).mono ?_
  rintro e w13 ⟨v13, rfl, hown, hb⟩
  have T13 := Lib.hid (below_call T12.out T12.out.size hb)
  have M13 := Lib.hid (M12.out.below hb)
  obtain ⟨a13, c13, rfl, R13⟩ := RdK.owned HL.out hown
  have R13 := Lib.hid R13
  clear hb hown
  go_wp2_with fail
  refine (eqA32S a13 a3 N c13 c3 L hN _ R13.out (R3.out.below T13.out)).mono ?_
  rintro e w14 ⟨rfl, hb⟩
  have T14 := Lib.hid (below_call T13.out T13.out.size hb)
  have M14 := Lib.hid (M13.out.below hb)
  clear hb
  go_wp2_with fail
  refine (heldA a5 N c5 1 (by omega) (by omega) (by omega) _ M14.out).mono ?_
  rintro e w15 ⟨rfl, rfl⟩
  rw [HM.out]
  go_wp2
  go_ret
  exact ⟨rfl, L3.out.trans (T14.out.mono L3.out.size)⟩
set_option maxHeartbeats 1000000 in
theorem padl_out (a : Option Addr) (n cap : Nat) (hm : n ≤ maxLen) (hn : ¬ n ≤ 1048576) (w : World) :
    Calls Try.prog 7 #[.slice a n cap] w fun e w' => e = .returned (.bool true) ∧ Below w.heap.size w w' := by
  unfold maxLen at hm
  have h1 : (1048576 : Int) < (n : Int) := by omega
  go_enter Try.func7, Try.ntmps7
  go_wp2
  go_ret
  exact ⟨rfl, Below.refl _ _⟩
theorem FnExactPadBlocks_walk (a : Option Addr) (n cap : Nat) (zs : List Int) (w : World) (f : IsRow .u8 w a n cap zs) :
    Calls Try.prog 7 #[.slice a n cap] w fun e w' => e = .returned (.bool true) ∧ Below w.heap.size w w' := by
  by_cases hn : n ≤ 1048576
  · have hr := rd_of_row f
    by_cases h4 : n ≤ 4096
    · have hp := padL_mod (zs.take n) (n : Int)
      have hq := padL_len (zs.take n) (n : Int)
      have hz : (zs.take n).length = n := hr.1
      exact padl_in a n cap ((padL (zs.take n) (n : Int)).length / 32) (zs.take n) (padL (zs.take n) (n : Int)) 0 (by rw [hz] at hq; unfold padN at hq; omega) (by omega) hn w hr
        (fun W g hg hc => pads_spec g 0 n n _ h4 W hr.1 hg hc) (fun W g h => pads_impl _ n n _ h4 W h)
    · exact padl_in a n cap 0 (zs.take n) [] 3 (by omega) rfl hn w hr
        (fun W g hg hc => pads_spec_out _ n n hn h4 W) (fun W g h => (pads_impl_out _ n n hn h4 W).mono fun e w' ⟨he, hb⟩ => ⟨_, he, World.ownsRow_nil _ _ _ _, hb⟩)
  · exact padl_out a n cap (row_len f) hn w
end Go.Proofs.Ytdamgodfgoackaa
