/- Lists of keys: marked, and looked at again. Written after wip/gen/a32s.py. -/
import Derived.Test.YtnnplebebhjfaabKeys
import Derived.Test.YtnnplebebhjfaabBytes
import Derived.Test.YtnnplebebhjfaabPad
import Derived.Test.YtnnplebebhjfaabKeep
import Derived.Test.YtnnplebebhjfaabBlocks
import Derived.Laws.Cover3
namespace Go.Proofs.Ytnnplebebhjfaab
open Go.ChangeShapes Go.WideShapes Go.ChangeAt Go.RowKit
set_option linter.unusedVariables false
set_option maxHeartbeats 1000000 in
theorem markA0 (a : Option Addr) (cap : Nat) (k0 : Int) (w : World) :
    Calls Try.prog 23 #[.slice a 0 cap, .int .i64 k0] w fun e w' => e = .returned (.int .i64 k0) ∧ w' = w := by
  go_enter Try.func23, Try.ntmps23
  go_wp2
  refine wp_loop_rounds 1 ?_
  rw [rounds_succ]
  go_wp2
  go_ret
  exact ⟨rfl, rfl⟩
set_option maxHeartbeats 1000000 in
theorem heldA0 (a : Option Addr) (cap : Nat) (k0 : Int) (w : World) :
    Calls Try.prog 24 #[.slice a 0 cap, .int .i64 k0] w fun e w' => e = .returned (.int .i64 k0) ∧ w' = w := by
  go_enter Try.func24, Try.ntmps24
  go_wp2
  refine wp_loop_rounds 1 ?_
  rw [rounds_succ]
  go_wp2
  go_ret
  exact ⟨rfl, rfl⟩
set_option maxRecDepth 100000 in
set_option maxHeartbeats 2000000 in
theorem markA (g n cap : Nat) (cur : Array Value) (k0 : Int) (h0 : 0 ≤ k0) (h1 : k0 ≤ 1099511627776) (hn : n ≤ 1048576) (hs : 32 * n ≤ cur.size) (w : World) (hg : w.heap[g]? = some (.cells cur 44)) :
    Calls Try.prog 23 #[.slice (some ⟨g, 0, none⟩) n cap, .int .i64 k0] w fun e w' => e = .returned (.int .i64 (k0 + (32 * n : Nat))) ∧ RdK w' (some ⟨g, 0, none⟩) n (markL k0 (32 * n)) ∧ Keep w.heap.size (· = g) w w' := by
  have Hg := Lib.hid hg
  clear hg
  go_enter Try.func23, Try.ntmps23
  go_wp2
  go_loopw [1, 5] (fun m i wr => ∃ k : Nat, k ≤ n ∧ i = .int .i64 k ∧ m = .int .i64 (k0 + (32 * k : Nat)) ∧ (∃ ck : Array Value, wr.heap[g]? = some (.cells ck 44) ∧ ck.size = cur.size ∧ ∀ j, j < 32 * k → ck[j]? = some (.int .u8 ((markL k0 (32 * n))[j]?.getD 0))) ∧ Keep w.heap.size (· = g) w wr) (fun _ i _ => n - (intOf i).toNat)
  case atStart => exact ⟨0, by omega, rfl, by simp, ⟨cur, Hg.out, rfl, fun j hj => by omega⟩, Keep.refl _ _ _⟩
  case round =>
    obtain ⟨k, hk, rfl, rfl, ⟨ck, hh, hsz, hck⟩, hb⟩ := hrel
    have HB := Lib.hid hb
    have HK := Lib.hid hck
    have HH := Lib.hid hh
    clear hb hck hh
    by_cases hlt : k < n
    · go_wp2
      go_loopw [1, 6] (fun m i wr => ∃ q : Nat, q ≤ 32 ∧ i = .int .i64 q ∧ m = .int .i64 (k0 + (32 * k + q : Nat)) ∧ (∃ ck : Array Value, wr.heap[g]? = some (.cells ck 44) ∧ ck.size = cur.size ∧ ∀ j, j < 32 * k + q → ck[j]? = some (.int .u8 ((markL k0 (32 * n))[j]?.getD 0))) ∧ Keep w.heap.size (· = g) w wr) (fun _ i _ => 32 - (intOf i).toNat)
      case atStart => exact ⟨0, by omega, rfl, rfl, ⟨ck, HH.out, hsz, HK.out⟩, HB.out⟩
      case round =>
        obtain ⟨q, hq, rfl, rfl, ⟨ck2, hh2, hsz2, hck2⟩, hb2⟩ := hrel
        have HB2 := Lib.hid hb2
        have HK2 := Lib.hid hck2
        have HH2 := Lib.hid hh2
        clear hb2 hck2 HK HH HB
        by_cases hlt2 : q < 32
        · have c1 := cell_of_row _ g (k * 32 + q) _ _ _ hh2
          have f1 := frozen_of_row _ g (k * 32 + q) _ _ hh2
          rw [Array.getElem?_eq_getElem (by omega)] at c1
          generalize ck2[k * 32 + q]'(by omega) = old at c1
          clear hh2
          have HM := Lib.hid (markL_at k0 (32 * n) (k * 32 + q) (by omega))
          generalize hm : k0 + ((k * 32 + q : Nat) : Int) = m at HM
          have hmm : k0 + ((32 * k + q : Nat) : Int) = m := by omega
          have HN := Lib.hid hmm
          rw [hmm]
          have hm0 : 0 ≤ m := by omega
          have hm1 : m ≤ 1099545182208 := by omega
          have b0 : (0 : Int) ≤ (k : Int) := by omega
          have b1 : (k : Int) < (n : Int) := by omega
          have b2 : (0 : Int) ≤ (q : Int) := by omega
          have b3 : (q : Int) < 32 := by omega
          clear hm hmm
          go_wp2
          go_roundw
          case rel =>
            refine ⟨q + 1, by omega, by go_num, by rw [← HN.out]; congr 1; push_cast; omega, ⟨ck2.setIfInBounds (k * 32 + q) (.int .u8 (m % 256)), ?_, by simp; exact hsz2, fun j hj => ?_⟩, HB2.out.trans (Keep.cell rfl)⟩
            · exact heap_setCell_same _ _ _ _ _ _ HH2.out
            · by_cases hjk : j = k * 32 + q
              · subst hjk
                rw [Array.getElem?_setIfInBounds_self_of_lt (by omega), HM.out]
              · rw [Array.getElem?_setIfInBounds_ne (by omega)]
                exact HK2.out j (by omega)
          case measure => simp [intOf]; omega
        · obtain rfl : q = 32 := by omega
          have b0 : (0 : Int) ≤ (k : Int) := by omega
          have b1 : (k : Int) < (n : Int) := by omega
          have hm0 : 0 ≤ k0 + ((32 * k + 32 : Nat) : Int) := by omega
          generalize hm : k0 + ((32 * k + 32 : Nat) : Int) = m at hm0
          have HQ := Lib.hid hm
          clear hm
          go_wp2
          go_roundw
          case rel => exact ⟨k + 1, by omega, by go_num, by congr 1; have := HQ.out; omega, ⟨ck2, HH2.out, hsz2, fun j hj => HK2.out j (by omega)⟩, HB2.out⟩
          case measure => simp [intOf]; omega
    · obtain rfl : k = n := by omega
      have hm0 : 0 ≤ k0 + ((32 * k : Nat) : Int) := by omega
      generalize hm : k0 + ((32 * k : Nat) : Int) = m at hm0
      go_wp2
      go_ret
      exact ⟨by show Ending.returned (Value.int .i64 m) = _; rw [← hm], ⟨by rw [markL_len], Or.inr ⟨g, 0, rfl, (Array.getElem?_eq_some_iff.1 HH.out).1, fun j hj => by rw [Nat.zero_add, cell_of_row _ g j _ _ _ HH.out]; exact HK.out j hj⟩⟩, HB.out⟩
set_option maxRecDepth 100000 in
set_option maxHeartbeats 2000000 in
theorem heldA (a : Option Addr) (n cap : Nat) (k0 : Int) (h0 : 0 ≤ k0) (h1 : k0 ≤ 1099511627776) (hn : n ≤ 1048576) (w : World) (hr : RdK w a n (markL k0 (32 * n))) :
    Calls Try.prog 24 #[.slice a n cap, .int .i64 k0] w fun e w' => e = .returned (.int .i64 (k0 + (32 * n : Nat))) ∧ w' = w := by
  by_cases hz : n = 0
  · subst hz
    simpa using heldA0 a cap k0 w
  obtain ⟨_, hr⟩ := hr
  obtain ⟨g, off, rfl, hb, hc⟩ := hr.resolve_left hz
  have HC := Lib.hid hc
  clear hc hr
  go_enter Try.func24, Try.ntmps24
  go_wp2
  go_loopw [1, 5] (fun m i wr => ∃ k : Nat, k ≤ n ∧ i = .int .i64 k ∧ m = .int .i64 (k0 + (32 * k : Nat)) ∧ wr = w) (fun _ i _ => n - (intOf i).toNat)
  case atStart => exact ⟨0, by omega, rfl, by simp, rfl⟩
  case round =>
    obtain ⟨k, hk, rfl, rfl, hw⟩ := hrel
    have HW := Lib.hid hw
    clear hw
    by_cases hlt : k < n
    · go_wp2
      go_loopw [1, 6] (fun m i wr => ∃ q : Nat, q ≤ 32 ∧ i = .int .i64 q ∧ m = .int .i64 (k0 + (32 * k + q : Nat)) ∧ wr = w) (fun _ i _ => 32 - (intOf i).toNat)
      case atStart => exact ⟨0, by omega, rfl, rfl, HW.out⟩
      case round =>
        obtain ⟨q, hq, rfl, rfl, hw⟩ := hrel
        have HW2 := Lib.hid hw
        by_cases hlt2 : q < 32
        · have c1 := HC.out (k * 32 + q) (by omega)
          rw [markL_at k0 (32 * n) (k * 32 + q) (by omega), ← hw, ← Nat.add_assoc] at c1
          generalize hm : k0 + ((k * 32 + q : Nat) : Int) = m at c1
          have hmm : k0 + ((32 * k + q : Nat) : Int) = m := by omega
          have HN := Lib.hid hmm
          rw [hmm]
          have hm0 : 0 ≤ m := by omega
          have hm1 : m ≤ 1099545182208 := by omega
          have b0 : (0 : Int) ≤ (k : Int) := by omega
          have b1 : (k : Int) < (n : Int) := by omega
          have b2 : (0 : Int) ≤ (q : Int) := by omega
          have b3 : (q : Int) < 32 := by omega
          clear hm hmm hw
          go_wp2
          go_roundw
          case rel => exact ⟨q + 1, by omega, by go_num, by rw [← HN.out]; congr 1; push_cast; omega, HW2.out⟩
          case measure => simp [intOf]; omega
        · obtain rfl : q = 32 := by omega
          have b0 : (0 : Int) ≤ (k : Int) := by omega
          have b1 : (k : Int) < (n : Int) := by omega
          have hm0 : 0 ≤ k0 + ((32 * k + 32 : Nat) : Int) := by omega
          generalize hm : k0 + ((32 * k + 32 : Nat) : Int) = m at hm0
          have HQ := Lib.hid hm
          clear hm hw
          go_wp2
          go_roundw
          case rel => exact ⟨k + 1, by omega, by go_num, by congr 1; have := HQ.out; omega, HW2.out⟩
          case measure => simp [intOf]; omega
    · obtain rfl : k = n := by omega
      have hm0 : 0 ≤ k0 + ((32 * k : Nat) : Int) := by omega
      generalize hm : k0 + ((32 * k : Nat) : Int) = m at hm0
      go_wp2
      go_ret
      exact ⟨by show Ending.returned (Value.int .i64 m) = _; rw [← hm], HW.out⟩
theorem owns_setRow {g base e n size : Nat} {w : World} {v : Value} {xs : List Value} {cs : Array Value} (hb : g < base) (o : w.ownsRow base e size v n xs) : (w.setRow g cs).ownsRow base e size v n xs := by
  refine ⟨o.1, ?_⟩
  rcases o.2 with h0 | ⟨c, cap, cur, hv, hc, hh, r⟩
  · exact Or.inl h0
  · exact Or.inr ⟨c, cap, cur, hv, hc, (setRow_other _ _ _ _ (by omega)).trans hh, r⟩
theorem owns_keep {g base e n size : Nat} {w w' : World} {v : Value} {xs : List Value} (hb : g < base) (o : w.ownsRow base e size v n xs) (k : Keep w.heap.size (· = g) w w') : w'.ownsRow base e size v n xs := by
  refine ⟨o.1, ?_⟩
  rcases o.2 with h0 | ⟨c, cap, cur, hv, hc, hh, r⟩
  · exact Or.inl h0
  · exact Or.inr ⟨c, cap, cur, hv, hc, k.hold (g := c) (fun h => by have h' : c = g := h; omega) hh, r⟩
theorem rdk_of_owned {w : World} {base n cap : Nat} {a : Option Addr} {L : List Int} {t : TypeId} (hl : L.length = 32 * n) (h : w.ownsRow base t 32 (.slice a n cap) n (L.map (Value.int .u8))) : RdK w a n L := by
  obtain ⟨a', c', e, r⟩ := RdK.owned hl h
  cases e
  exact r
theorem markKV (a : Option Addr) (n cap base : Nat) (L : List Int) (k0 : Int) (h0 : 0 ≤ k0) (h1 : k0 ≤ 1099511627776) (hn : n ≤ 1048576) (w : World) (ho : w.ownsRow base 44 32 (.slice a n cap) n (L.map (Value.int .u8))) :
    Calls Try.prog 23 #[.slice a n cap, .int .i64 k0] w fun e w' => e = .returned (.int .i64 (k0 + (32 * n : Nat))) ∧ RdK w' a n (markL k0 (32 * n)) ∧ Below base w w' := by
  rcases ho.2 with ⟨h, hz⟩ | ⟨g, c, cur, hv, hb, hg, hc, hm, hs, ht⟩
  · cases h
    exact (markA0 none 0 k0 w).mono fun e w' ⟨he, hw⟩ => ⟨by rw [he]; simp, by rw [hw]; exact ⟨by simp [markL], Or.inl rfl⟩, by rw [hw]; exact Below.refl _ _⟩
  · cases hv
    exact (markA g n cap cur k0 h0 h1 hn (by omega) w hg).mono fun e w' ⟨he, hr, hb'⟩ => ⟨he, hr, hb'.below (Nat.le_of_lt (Nat.lt_of_le_of_lt hb (Array.getElem?_eq_some_iff.1 hg).1)) (fun k e => by have h : k = g := e; omega)⟩
end Go.Proofs.Ytnnplebebhjfaab
