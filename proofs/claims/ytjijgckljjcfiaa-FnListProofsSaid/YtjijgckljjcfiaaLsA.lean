/- Tools of a walk that draws: a2At, and what is owned. Written by wip/gen/rwl.py. -/
import Derived.Test.YtjijgckljjcfiaaKeys
import Derived.Test.YtjijgckljjcfiaaBytes
import Derived.Test.YtjijgckljjcfiaaPad
import Derived.Test.YtjijgckljjcfiaaStack
import Derived.Laws.Cover3
import Derived.BigQuiet
import Derived.Laws.Bits64b
import Derived.Test.YtjijgckljjcfiaaWalk
import Derived.Test.YtjijgckljjcfiaaRd
import Derived.Test.YtjijgckljjcfiaaLast
import Derived.Test.YtjijgckljjcfiaaHash
import Derived.Test.YtjijgckljjcfiaaPeaksI
import Derived.Test.YtjijgckljjcfiaaEq
import Derived.Test.YtjijgckljjcfiaaPopO
import Derived.Laws.BitsAllLaws
import Derived.Test.YtjijgckljjcfiaaListK
namespace Go.Proofs.Ytjijgckljjcfiaa
open Go.ChangeShapes Go.WideShapes Go.ChangeAt Go.RowKit
set_option linter.unusedVariables false
set_option maxHeartbeats 1000000 in
theorem markA0 (a : Option Addr) (cap : Nat) (k0 : Int) (w : World) :
    Calls Try.prog 39 #[.slice a 0 cap, .int .i64 k0] w fun e w' => e = .returned (.int .i64 k0) ∧ w' = w := by
  go_enter Try.func39, Try.ntmps39
  go_wp2
  refine wp_loop_rounds 1 ?_
  rw [rounds_succ]
  go_wp2
  go_ret
  exact ⟨rfl, rfl⟩
set_option maxHeartbeats 1000000 in
theorem heldA0 (a : Option Addr) (cap : Nat) (k0 : Int) (w : World) :
    Calls Try.prog 40 #[.slice a 0 cap, .int .i64 k0] w fun e w' => e = .returned (.int .i64 k0) ∧ w' = w := by
  go_enter Try.func40, Try.ntmps40
  go_wp2
  refine wp_loop_rounds 1 ?_
  rw [rounds_succ]
  go_wp2
  go_ret
  exact ⟨rfl, rfl⟩
set_option maxRecDepth 100000 in
set_option maxHeartbeats 2000000 in
theorem markA (g n cap : Nat) (cur : Array Value) (k0 : Int) (h0 : 0 ≤ k0) (h1 : k0 ≤ 1099511627776) (hn : n ≤ 1048576) (hs : 32 * n ≤ cur.size) (w : World) (hg : w.heap[g]? = some (.cells cur 28)) :
    Calls Try.prog 39 #[.slice (some ⟨g, 0, none⟩) n cap, .int .i64 k0] w fun e w' => e = .returned (.int .i64 (k0 + (32 * n : Nat))) ∧ RdK w' (some ⟨g, 0, none⟩) n (markL k0 (32 * n)) ∧ Keep w.heap.size (· = g) w w' := by
  have Hg := Lib.hid hg
  clear hg
  go_enter Try.func39, Try.ntmps39
  go_wp2
  go_loopw [1, 5] (fun m i wr => ∃ k : Nat, k ≤ n ∧ i = .int .i64 k ∧ m = .int .i64 (k0 + (32 * k : Nat)) ∧ (∃ ck : Array Value, wr.heap[g]? = some (.cells ck 28) ∧ ck.size = cur.size ∧ ∀ j, j < 32 * k → ck[j]? = some (.int .u8 ((markL k0 (32 * n))[j]?.getD 0))) ∧ Keep w.heap.size (· = g) w wr) (fun _ i _ => n - (intOf i).toNat)
  case atStart => exact ⟨0, by omega, rfl, by simp, ⟨cur, Hg.out, rfl, fun j hj => by omega⟩, Keep.refl _ _ _⟩
  case round =>
    obtain ⟨k, hk, rfl, rfl, ⟨ck, hh, hsz, hck⟩, hb⟩ := hrel
    have HB := Lib.hid hb
    have HK := Lib.hid hck
    have HH := Lib.hid hh
    clear hb hck hh
    by_cases hlt : k < n
    · go_wp2
      go_loopw [1, 6] (fun m i wr => ∃ q : Nat, q ≤ 32 ∧ i = .int .i64 q ∧ m = .int .i64 (k0 + (32 * k + q : Nat)) ∧ (∃ ck : Array Value, wr.heap[g]? = some (.cells ck 28) ∧ ck.size = cur.size ∧ ∀ j, j < 32 * k + q → ck[j]? = some (.int .u8 ((markL k0 (32 * n))[j]?.getD 0))) ∧ Keep w.heap.size (· = g) w wr) (fun _ i _ => 32 - (intOf i).toNat)
      case atStart => exact ⟨0, by omega, rfl, rfl, ⟨ck, HH.out, hsz, HK.out⟩, HB.out⟩
      case round =>
        obtain ⟨q, hq, rfl, rfl, ⟨ck2, hh2, hsz2, hck2⟩, hb2⟩ := hrel
        have HB2 := Lib.hid hb2
        have HK2 := Lib.hid hck2
        have HH2 := Lib.hid hh2
        clear hb2 hck2 HK HH HB
        by_cases hlt2 : q < 32
        · have c1 := cell_of_row _ g (k * 32 + q) _ _ _ hh2
          have f1 := frozen_of_row _ g (k * 32 + q) _ _ hh2
          rw [Array.getElem?_eq_getElem (by omega)] at c1
          generalize ck2[k * 32 + q]'(by omega) = old at c1
          clear hh2
          have HM := Lib.hid (markL_at k0 (32 * n) (k * 32 + q) (by omega))
          generalize hm : k0 + ((k * 32 + q : Nat) : Int) = m at HM
          have hmm : k0 + ((32 * k + q : Nat) : Int) = m := by omega
          have HN := Lib.hid hmm
          rw [hmm]
          have hm0 : 0 ≤ m := by omega
          have hm1 : m ≤ 1099545182208 := by omega
          have b0 : (0 : Int) ≤ (k : Int) := by omega
          have b1 : (k : Int) < (n : Int) := by omega
          have b2 : (0 : Int) ≤ (q : Int) := by omega
          have b3 : (q : Int) < 32 := by omega
          clear hm hmm
          go_wp2
          go_roundw
          case rel =>
            refine ⟨q + 1, by omega, by go_num, by rw [← HN.out]; congr 1; push_cast; omega, ⟨ck2.setIfInBounds (k * 32 + q) (.int .u8 (m % 256)), ?_, by simp; exact hsz2, fun j hj => ?_⟩, HB2.out.trans (Keep.cell rfl)⟩
            · exact heap_setCell_same _ _ _ _ _ _ HH2.out
            · by_cases hjk : j = k * 32 + q
              · subst hjk
                rw [Array.getElem?_setIfInBounds_self_of_lt (by omega), HM.out]
              · rw [Array.getElem?_setIfInBounds_ne (by omega)]
                exact HK2.out j (by omega)
          case measure => simp [intOf]; omega
        · obtain rfl : q = 32 := by omega
          have b0 : (0 : Int) ≤ (k : Int) := by omega
          have b1 : (k : Int) < (n : Int) := by omega
          have hm0 : 0 ≤ k0 + ((32 * k + 32 : Nat) : Int) := by omega
          generalize hm : k0 + ((32 * k + 32 : Nat) : Int) = m at hm0
          have HQ := Lib.hid hm
          clear hm
          go_wp2
          go_roundw
          case rel => exact ⟨k + 1, by omega, by go_num, by congr 1; have := HQ.out; omega, ⟨ck2, HH2.out, hsz2, fun j hj => HK2.out j (by omega)⟩, HB2.out⟩
          case measure => simp [intOf]; omega
    · obtain rfl : k = n := by omega
      have hm0 : 0 ≤ k0 + ((32 * k : Nat) : Int) := by omega
      generalize hm : k0 + ((32 * k : Nat) : Int) = m at hm0
      go_wp2
      go_ret
      exact ⟨by show Ending.returned (Value.int .i64 m) = _; rw [← hm], ⟨by rw [markL_len], Or.inr ⟨g, 0, rfl, (Array.getElem?_eq_some_iff.1 HH.out).1, fun j hj => by rw [Nat.zero_add, cell_of_row _ g j _ _ _ HH.out]; exact HK.out j hj⟩⟩, HB.out⟩
set_option maxRecDepth 100000 in
set_option maxHeartbeats 2000000 in
theorem heldA (a : Option Addr) (n cap : Nat) (k0 : Int) (h0 : 0 ≤ k0) (h1 : k0 ≤ 1099511627776) (hn : n ≤ 1048576) (w : World) (hr : RdK w a n (markL k0 (32 * n))) :
    Calls Try.prog 40 #[.slice a n cap, .int .i64 k0] w fun e w' => e = .returned (.int .i64 (k0 + (32 * n : Nat))) ∧ w' = w := by
  by_cases hz : n = 0
  · subst hz
    simpa using heldA0 a cap k0 w
  obtain ⟨_, hr⟩ := hr
  obtain ⟨g, off, rfl, hb, hc⟩ := hr.resolve_left hz
  have HC := Lib.hid hc
  clear hc hr
  go_enter Try.func40, Try.ntmps40
  go_wp2
  go_loopw [1, 5] (fun m i wr => ∃ k : Nat, k ≤ n ∧ i = .int .i64 k ∧ m = .int .i64 (k0 + (32 * k : Nat)) ∧ wr = w) (fun _ i _ => n - (intOf i).toNat)
  case atStart => exact ⟨0, by omega, rfl, by simp, rfl⟩
  case round =>
    obtain ⟨k, hk, rfl, rfl, hw⟩ := hrel
    have HW := Lib.hid hw
    clear hw
    by_cases hlt : k < n
    · go_wp2
      go_loopw [1, 6] (fun m i wr => ∃ q : Nat, q ≤ 32 ∧ i = .int .i64 q ∧ m = .int .i64 (k0 + (32 * k + q : Nat)) ∧ wr = w) (fun _ i _ => 32 - (intOf i).toNat)
      case atStart => exact ⟨0, by omega, rfl, rfl, HW.out⟩
      case round =>
        obtain ⟨q, hq, rfl, rfl, hw⟩ := hrel
        have HW2 := Lib.hid hw
        by_cases hlt2 : q < 32
        · have c1 := HC.out (k * 32 + q) (by omega)
          rw [markL_at k0 (32 * n) (k * 32 + q) (by omega), ← hw, ← Nat.add_assoc] at c1
          generalize hm : k0 + ((k * 32 + q : Nat) : Int) = m at c1
          have hmm : k0 + ((32 * k + q : Nat) : Int) = m := by omega
          have HN := Lib.hid hmm
          rw [hmm]
          have hm0 : 0 ≤ m := by omega
          have hm1 : m ≤ 1099545182208 := by omega
          have b0 : (0 : Int) ≤ (k : Int) := by omega
          have b1 : (k : Int) < (n : Int) := by omega
          have b2 : (0 : Int) ≤ (q : Int) := by omega
          have b3 : (q : Int) < 32 := by omega
          clear hm hmm hw
          go_wp2
          go_roundw
          case rel => exact ⟨q + 1, by omega, by go_num, by rw [← HN.out]; congr 1; push_cast; omega, HW2.out⟩
          case measure => simp [intOf]; omega
        · obtain rfl : q = 32 := by omega
          have b0 : (0 : Int) ≤ (k : Int) := by omega
          have b1 : (k : Int) < (n : Int) := by omega
          have hm0 : 0 ≤ k0 + ((32 * k + 32 : Nat) : Int) := by omega
          generalize hm : k0 + ((32 * k + 32 : Nat) : Int) = m at hm0
          have HQ := Lib.hid hm
          clear hm hw
          go_wp2
          go_roundw
          case rel => exact ⟨k + 1, by omega, by go_num, by congr 1; have := HQ.out; omega, HW2.out⟩
          case measure => simp [intOf]; omega
    · obtain rfl : k = n := by omega
      have hm0 : 0 ≤ k0 + ((32 * k : Nat) : Int) := by omega
      generalize hm : k0 + ((32 * k : Nat) : Int) = m at hm0
      go_wp2
      go_ret
      exact ⟨by show Ending.returned (Value.int .i64 m) = _; rw [← hm], HW.out⟩
theorem owns_setRow {g base e n size : Nat} {w : World} {v : Value} {xs : List Value} {cs : Array Value} (hb : g < base) (o : w.ownsRow base e size v n xs) : (w.setRow g cs).ownsRow base e size v n xs := by
  refine ⟨o.1, ?_⟩
  rcases o.2 with h0 | ⟨c, cap, cur, hv, hc, hh, r⟩
  · exact Or.inl h0
  · exact Or.inr ⟨c, cap, cur, hv, hc, (setRow_other _ _ _ _ (by omega)).trans hh, r⟩
theorem owns_keep {g base e n size : Nat} {w w' : World} {v : Value} {xs : List Value} (hb : g < base) (o : w.ownsRow base e size v n xs) (k : Keep w.heap.size (· = g) w w') : w'.ownsRow base e size v n xs := by
  refine ⟨o.1, ?_⟩
  rcases o.2 with h0 | ⟨c, cap, cur, hv, hc, hh, r⟩
  · exact Or.inl h0
  · exact Or.inr ⟨c, cap, cur, hv, hc, k.hold (g := c) (fun h => by have h' : c = g := h; omega) hh, r⟩
theorem rdk_of_owned {w : World} {base n cap : Nat} {a : Option Addr} {L : List Int} {t : TypeId} (hl : L.length = 32 * n) (h : w.ownsRow base t 32 (.slice a n cap) n (L.map (Value.int .u8))) : RdK w a n L := by
  obtain ⟨a', c', e, r⟩ := RdK.owned hl h
  cases e
  exact r
theorem markKV (a : Option Addr) (n cap base : Nat) (L : List Int) (k0 : Int) (h0 : 0 ≤ k0) (h1 : k0 ≤ 1099511627776) (hn : n ≤ 1048576) (w : World) (ho : w.ownsRow base 28 32 (.slice a n cap) n (L.map (Value.int .u8))) :
    Calls Try.prog 39 #[.slice a n cap, .int .i64 k0] w fun e w' => e = .returned (.int .i64 (k0 + (32 * n : Nat))) ∧ RdK w' a n (markL k0 (32 * n)) ∧ Below base w w' := by
  rcases ho.2 with ⟨h, hz⟩ | ⟨g, c, cur, hv, hb, hg, hc, hm, hs, ht⟩
  · cases h
    exact (markA0 none 0 k0 w).mono fun e w' ⟨he, hw⟩ => ⟨by rw [he]; simp, by rw [hw]; exact ⟨by simp [markL], Or.inl rfl⟩, by rw [hw]; exact Below.refl _ _⟩
  · cases hv
    exact (markA g n cap cur k0 h0 h1 hn (by omega) w hg).mono fun e w' ⟨he, hr, hb'⟩ => ⟨he, hr, hb'.below (Nat.le_of_lt (Nat.lt_of_le_of_lt hb (Array.getElem?_eq_some_iff.1 hg).1)) (fun k e => by have h : k = g := e; omega)⟩
end Go.Proofs.Ytjijgckljjcfiaa
namespace Go.Proofs.Ytjijgckljjcfiaa
open Go.ChangeShapes Go.WideShapes Go.ChangeAt Go.RowKit
set_option linter.unusedVariables false
set_option linter.unusedSimpArgs false
/-- Bytes that can be read, in a block below g. -/
def SrcR (g n : Nat) (a : Option Addr) (W : World) : Prop := 0 < n → ∃ b o, a = some ⟨b, o, none⟩ ∧ b < g ∧ ∀ j, j < n → ∃ z : Int, 0 ≤ z ∧ z ≤ 255 ∧ W.cell? ⟨b, o + j, none⟩ = some (.int .u8 z)
/-- A source, at a place. -/
def Src (g at' : Nat) (W : World) : Prop := ∃ a n c s, W.heap[g]? = some (.cells #[.slice a n c, .int .i64 (at' : Int), .int .u64 s] 131) ∧ n ≤ 1048576 ∧ 0 ≤ s ∧ s ≤ 18446744073709551615 ∧ SrcR g n a W
theorem cell_same {w w' : World} {b o : Nat} (h : w'.heap[b]? = w.heap[b]?) : w'.cell? ⟨b, o, none⟩ = w.cell? ⟨b, o, none⟩ := by
  unfold World.cell?
  simp only [h]
theorem SrcR.keep {g n B : Nat} {a : Option Addr} {w w' : World} (h : SrcR g n a w) (hg : g ≤ B) (k : Keep B (· = g) w w') : SrcR g n a w' := fun hn => by
  obtain ⟨b, o, e, hb, hz⟩ := h hn
  exact ⟨b, o, e, hb, fun j hj => by
    obtain ⟨z, h0, h1, hc⟩ := hz j hj
    exact ⟨z, h0, h1, (cell_same (k.block b (by omega) (by omega))).trans hc⟩⟩
theorem Keep.cellS {B : Nat} {X : Nat → Prop} {w : World} {p : Addr} {v : Value} (hx : X p.block) : Keep B X w (w.setCell p v) :=
  ⟨rfl, rfl, rfl, by simp [World.setCell], fun k _ hk => heap_setCell_other w p k v (fun h => hk (h ▸ hx))⟩
theorem Src.lt {g at' : Nat} {w : World} (h : Src g at' w) : g < w.heap.size := by
  obtain ⟨a, n, c, s, hb, _⟩ := h
  exact (Array.getElem?_eq_some_iff.1 hb).1
theorem Src.below {g at' B : Nat} {w w' : World} (h : Src g at' w) (hB : g < B) (hb : Below B w w') : Src g at' w' := by
  obtain ⟨a, n, c, s, hx, h1, h2, h3, h4⟩ := h
  exact ⟨a, n, c, s, (hb.block g hB).trans hx, h1, h2, h3, h4.keep (Nat.le_of_lt hB) (Keep.of _ hb)⟩
theorem wrap_u64_range (n : Int) : 0 ≤ IntKind.u64.wrap n ∧ IntKind.u64.wrap n ≤ 18446744073709551615 := by
  simp [IntKind.wrap, IntKind.signed, IntKind.bits]
  omega
theorem low_byte (x : Int) (h0 : 0 ≤ x) (h1 : x ≤ 18446744073709551615) : 0 ≤ wrap64 (bits BinOp.and IntKind.u64 x 255) ∧ wrap64 (bits BinOp.and IntKind.u64 x 255) ≤ 255 := by
  have h := bits_and_u64_nat x.toNat 255 (by omega) (by omega)
  rw [Int.toNat_of_nonneg h0] at h
  have e : bits BinOp.and IntKind.u64 x 255 = ((x.toNat &&& 255 : Nat) : Int) := h
  have hl : x.toNat &&& 255 ≤ 255 := Nat.and_le_right
  rw [e]
  unfold wrap64
  omega
theorem src_after {g at' n c : Nat} {a : Option Addr} {s s' : Int} {W : World} (k k2 : Nat) (hb : W.heap[g]? = some (.cells #[.slice a n c, .int .i64 (at' : Int), .int .u64 s] 131)) (hn : n ≤ 1048576) (hr : SrcR g n a W) (h0 : 0 ≤ s') (h1 : s' ≤ 18446744073709551615) :
    Src g (at' + 1) ((((W.drewN k).setCell ⟨g, 1, none⟩ (.int .i64 ((at' : Int) + 1))).setCell ⟨g, 2, none⟩ (.int .u64 s')).drewN k2) ∧ Keep W.heap.size (· = g) W ((((W.drewN k).setCell ⟨g, 1, none⟩ (.int .i64 ((at' : Int) + 1))).setCell ⟨g, 2, none⟩ (.int .u64 s')).drewN k2) := by
  have d1 : (W.drewN k).heap[g]? = some (.cells #[.slice a n c, .int .i64 (at' : Int), .int .u64 s] 131) := hb
  have d2 := heap_setCell_same (W.drewN k) g 1 _ _ (.int .i64 ((at' : Int) + 1)) d1
  have d3 := heap_setCell_same _ g 2 _ _ (.int .u64 s') d2
  have K : Keep W.heap.size (· = g) W ((((W.drewN k).setCell ⟨g, 1, none⟩ (.int .i64 ((at' : Int) + 1))).setCell ⟨g, 2, none⟩ (.int .u64 s')).drewN k2) :=
    (((Keep.of _ (below_drewN (Below.refl _ _) k)).trans (Keep.cellS (X := (· = g)) (p := ⟨g, 1, none⟩) (v := .int .i64 ((at' : Int) + 1)) rfl)).trans (Keep.cellS (X := (· = g)) (p := ⟨g, 2, none⟩) (v := .int .u64 s') rfl)).trans (Keep.of _ (below_drewN (Below.refl _ _) k2))
  refine ⟨⟨a, n, c, s', ?_, hn, h0, h1, hr.keep (Nat.le_of_lt (Array.getElem?_eq_some_iff.1 hb).1) K⟩, K⟩
  have e : ((at' + 1 : Nat) : Int) = (at' : Int) + 1 := by omega
  rw [e]
  exact d3
set_option maxRecDepth 100000 in
set_option maxHeartbeats 2000000 in
theorem next_src (g at' : Nat) (hat : at' ≤ 1000000) (W : World) (hs : Src g at' W) :
    Calls Try.prog 101 #[.pointer (some ⟨g, 0, none⟩)] W fun x w' => ∃ b : Int, x = .returned (.int .i64 b) ∧ 0 ≤ b ∧ b ≤ 255 ∧ Src g (at' + 1) w' ∧ Keep W.heap.size (· = g) W w' := by
  have hlt := hs.lt
  obtain ⟨a, n, c, s, hb, hn, s0, s1, hr⟩ := hs
  have c0 : W.cell? ⟨g, 0, none⟩ = some (.slice a n c) := (cell_of_row W g 0 _ _ _ hb).trans rfl
  have c1 : W.cell? ⟨g, 1, none⟩ = some (.int .i64 (at' : Int)) := (cell_of_row W g 1 _ _ _ hb).trans rfl
  have c2 : W.cell? ⟨g, 2, none⟩ = some (.int .u64 s) := (cell_of_row W g 2 _ _ _ hb).trans rfl
  have f1 : W.frozen? ⟨g, 1, none⟩ = false := frozen_of_row W g 1 _ _ hb
  have f2 : W.frozen? ⟨g, 2, none⟩ = false := frozen_of_row W g 2 _ _ hb
  have HB := Lib.hid hb
  have HR := Lib.hid hr
  clear hb hr
  by_cases h : at' < n
  · obtain ⟨b, o, rfl, hbg, hz⟩ := HR.out (by omega)
    obtain ⟨z, z0, z1, hc⟩ := hz at' h
    have k1 : (at' : Int) < (n : Int) := by omega
    have k2 : (0 : Int) ≤ (at' : Int) := by omega
    have k3 : (at' : Int) + 1 ≤ (n : Int) := by omega
    go_enter Try.func101, Try.ntmps101
    go_wp2
    go_quiet (fail)
    go_wp2
    go_quiet (fail)
    go_wp2
    go_quiet (fail)
    go_wp2
    go_ret
    exact ⟨z, rfl, z0, z1, src_after _ _ HB.out hn HR.out (wrap_u64_range _).1 (wrap_u64_range _).2⟩
  · have k1 : ¬ (at' : Int) < (n : Int) := by omega
    have k2 : (0 : Int) ≤ (at' : Int) := by omega
    have k3 : ¬ (at' : Int) + 1 ≤ (n : Int) := by omega
    go_enter Try.func101, Try.ntmps101
    go_wp2
    go_quiet (fail)
    go_wp2
    go_quiet (fail)
    go_wp2
    go_ret
    have hw := wrap_u64_range (IntKind.u64.wrap (IntKind.u64.wrap (s * 6364136223846793005)) + 1442695040888963407)
    have hl := low_byte (IntKind.u64.wrap (IntKind.u64.wrap (IntKind.u64.wrap (s * 6364136223846793005)) + 1442695040888963407) / 1099511627776) (by omega) (by omega)
    exact ⟨_, rfl, hl.1, hl.2, src_after _ _ HB.out hn HR.out hw.1 hw.2⟩
set_option maxHeartbeats 2000000 in
theorem from_src (a : Option Addr) (n c : Nat) (l : List Int) (hn : n ≤ 1048576) (hl : ∀ z ∈ l, 0 ≤ z ∧ z ≤ 255) (w : World) (hr : Rd .u8 w a n l) :
    Calls Try.prog 57 #[.slice a n c] w fun x w' => x = .returned (.pointer (some ⟨w.heap.size, 0, none⟩)) ∧ Src w.heap.size 0 w' ∧ Below w.heap.size w w' := by
  have B := Lib.hid ((Below.refl w.heap.size w).alloc (Nat.le_refl _) (.cells #[.slice a n c, .int .i64 0, .int .u64 0] 131))
  have G := Lib.hid (heap_alloc_last w (.cells #[.slice a n c, .int .i64 0, .int .u64 0] 131))
  have R : Hid (SrcR w.heap.size n a w) := Lib.hid (fun h0 => by
    obtain ⟨h1, h2⟩ := hr
    rcases h2 with h2 | ⟨b, o, e, hb, hc⟩
    · omega
    · refine ⟨b, o, e, hb, fun j hj => ⟨l[j]'(by omega), (hl _ (List.getElem_mem _)).1, (hl _ (List.getElem_mem _)).2, ?_⟩⟩
      rw [hc j hj]
      simp [List.getElem?_eq_getElem (show j < l.length by omega)])
  clear hr
  go_enter Try.func57, Try.ntmps57
  go_wp2
  go_ret
  exact ⟨rfl, ⟨a, n, c, 0, G.out, hn, by omega, by omega, R.out.keep (Nat.le_refl _) (Keep.of _ B.out)⟩, B.out⟩
set_option maxRecDepth 100000 in
set_option maxHeartbeats 2000000 in
theorem pick_src (g at' : Nat) (n : Int) (h1 : 1 ≤ n) (h2 : n ≤ 1000000) (hat : at' ≤ 999000) (W : World) (hs : Src g at' W) :
    Calls Try.prog 58 #[.pointer (some ⟨g, 0, none⟩), .int .i64 n] W fun x w' => ∃ (r : Int) (at2 : Nat), x = .returned (.int .i64 r) ∧ 0 ≤ r ∧ r < n ∧ at2 ≤ at' + 2 ∧ Src g at2 w' ∧ Keep W.heap.size (· = g) W w' := by
  have HS := Lib.hid hs
  have Hn := Lib.hid (next_src g at' (by omega) W hs)
  have Hn2 := Lib.hid (fun U h => next_src g (at' + 1) (by omega) U h)
  clear hs
  by_cases k1 : n ≤ 1
  · go_enter Try.func58, Try.ntmps58
    go_wp2_with fail
    go_ret
    exact ⟨0, at', rfl, by omega, by omega, by omega, HS.out, Keep.refl _ _ _⟩
  · have k3 : (n == 0) = false := by rw [beq_eq_false_iff_ne]; omega
    have k4 : n ≠ 0 := by omega
    by_cases k2 : 200 < n
    · go_enter Try.func58, Try.ntmps58
      go_wp2_with fail
      refine Hn.out.mono ?_
      rintro x w1 ⟨b, rfl, b0, b1, hs1, hk1⟩
      have S1 := Lib.hid hs1
      have K1 := Lib.hid hk1
      clear hs1 hk1
      go_wp2_with fail
      refine (Hn2.out _ S1.out).mono ?_
      rintro x w2 ⟨d, rfl, d0, d1, hs2, hk2⟩
      have S2 := Lib.hid hs2
      have K2 := Lib.hid (K1.out.trans (hk2.mono K1.out.size))
      clear hs2 hk2
      go_wp2_with fail
      go_ret
      refine ⟨_, at' + 1 + 1, rfl, ?_, ?_, by omega, S2.out, K2.out⟩
      · exact Int.emod_nonneg _ k4
      · exact Int.emod_lt_of_pos _ (by omega)
    · go_enter Try.func58, Try.ntmps58
      go_wp2_with fail
      refine Hn.out.mono ?_
      rintro x w1 ⟨b, rfl, b0, b1, hs1, hk1⟩
      have S1 := Lib.hid hs1
      have K1 := Lib.hid hk1
      clear hs1 hk1
      go_wp2_with fail
      go_ret
      refine ⟨_, at' + 1, rfl, ?_, ?_, by omega, S1.out, K1.out⟩
      · exact Int.emod_nonneg _ k4
      · exact Int.emod_lt_of_pos _ (by omega)
set_option maxHeartbeats 2000000 in
theorem one_src (g at' : Nat) (n : Int) (h1 : 1 ≤ n) (h2 : n ≤ 1000000) (hat : at' ≤ 999000) (W : World) (hs : Src g at' W) :
    Calls Try.prog 127 #[.pointer (some ⟨g, 0, none⟩), .int .i64 n] W fun x w' => ∃ (r : Bool) (at2 : Nat), x = .returned (.bool r) ∧ at2 ≤ at' + 2 ∧ Src g at2 w' ∧ Keep W.heap.size (· = g) W w' := by
  have Hp := Lib.hid (pick_src g at' n h1 h2 hat W hs)
  clear hs
  go_enter Try.func127, Try.ntmps127
  go_wp2_with fail
  refine Hp.out.mono ?_
  rintro x w1 ⟨r, at2, rfl, r0, r1, ha, hs1, hk1⟩
  go_wp2_with fail
  go_ret
  exact ⟨_, at2, rfl, ha, hs1, hk1⟩
end Go.Proofs.Ytjijgckljjcfiaa
namespace Go.Proofs.Ytjijgckljjcfiaa
open Go.ChangeShapes Go.WideShapes Go.ChangeAt Go.RowKit
set_option linter.unusedVariables false
set_option linter.unusedSimpArgs false
theorem keep_below {B g : Nat} {a b c : World} (h : Keep B (· = g) a b) (hb : Below b.heap.size b c) (hB : B ≤ b.heap.size) : Keep B (· = g) a c := h.trans ((Keep.of _ hb).mono hB)
theorem ownsPtrB {w : World} {base e size k c : Nat} {a : Option Addr} {xs : List Value} (h : w.ownsRow base e size (.slice a k c) k xs) (h0 : 0 < k) : ∃ b, a = some ⟨b, 0, none⟩ ∧ base ≤ b := by
  rcases h.2 with ⟨_, h1⟩ | ⟨b, cap, cur, hv, hb, r⟩
  · omega
  · cases hv
    exact ⟨b, rfl, hb⟩
set_option maxRecDepth 100000 in
set_option maxHeartbeats 4000000 in
theorem data_src (g at' : Nat) (most : Nat) (hm : most ≤ 100) (hat : at' ≤ 900000) (W : World) (hs : Src g at' W) :
    Calls Try.prog 103 #[.pointer (some ⟨g, 0, none⟩), .int .i64 (most : Int)] W fun x w' => ∃ (b n c : Nat) (l : List Int) (at2 : Nat), x = .returned (.slice (some ⟨b, 0, none⟩) n c) ∧ Rd .u8 w' (some ⟨b, 0, none⟩) n l ∧ b < w'.heap.size ∧ n ≤ most ∧ (∀ z ∈ l, 0 ≤ z ∧ z ≤ 255) ∧ at2 ≤ at' + 4 + 4 * n ∧ Src g at2 w' ∧ Keep W.heap.size (· = g) W w' := by
  obtain ⟨i0, hi, hz0, hz1, hz2⟩ := info_parts infoU8
  have Hi := Lib.hid hi
  have HG := Lib.hid hs.lt
  have B0 := Lib.hid ((Below.refl W.heap.size W).alloc (Nat.le_refl _) (.cells #[] 5))
  have O0 := Lib.hid (owns_empty W 5 1)
  have HX := Lib.hid (heap_alloc_last W (.cells #[] 5))
  obtain ⟨W1, hW1⟩ : ∃ W1, W.alloc (.cells #[] 5) = W1 := ⟨_, rfl⟩
  have HSZ : Hid (W1.heap.size = W.heap.size + 1) := Lib.hid (by rw [← hW1]; simp)
  rw [hW1] at B0 O0 HX
  have S0 := Lib.hid (hs.below HG.out B0.out)
  have m0 : (0 : Int) ≤ (most : Int) := by omega
  have m1 : (most : Int) ≤ 100 := by omega
  have Ho := Lib.hid (one_src g at' 2 (by omega) (by omega) (by omega) W1 S0.out)
  have Hp := Lib.hid (fun at2 (h : at2 ≤ 990000) U hU => pick_src g at2 ((most : Int) + 1) (by omega) (by omega) (by omega) U hU)
  have H256 := Lib.hid (fun at2 (h : at2 ≤ 990000) U hU => pick_src g at2 256 (by omega) (by omega) (by omega) U hU)
  have H3 := Lib.hid (fun at2 (h : at2 ≤ 990000) U hU => pick_src g at2 3 (by omega) (by omega) (by omega) U hU)
  clear hi hs
  go_enter Try.func103, Try.ntmps103
  go_wp2_with fail
  clear hW1
  refine Ho.out.mono ?_
  rintro x w2 ⟨few, at2, rfl, ha2, hs2, hk2⟩
  have S2 := Lib.hid hs2
  have K2 := Lib.hid ((Keep.of (· = g) B0.out).trans (hk2.mono B0.out.size))
  have O2 := Lib.hid (owns_keep HG.out O0.out hk2)
  have HK2 := Lib.hid hk2.size
  clear hs2 hk2
  go_wp2_with fail
  refine (Hp.out at2 (by omega) _ S2.out).mono ?_
  rintro x w3 ⟨r, at3, rfl, r0, r1, ha3, hs3, hk3⟩
  obtain ⟨K, rfl⟩ := Int.eq_ofNat_of_zero_le r0
  have S3 := Lib.hid hs3
  have K3 := Lib.hid (K2.out.trans (hk3.mono K2.out.size))
  have O3 := Lib.hid (owns_keep HG.out O2.out hk3)
  have HK : K ≤ most := by omega
  have HA3 : at3 ≤ at' + 4 := by omega
  have HLT : Hid (W.heap.size < w3.heap.size) := Lib.hid (by have := HSZ.out; have := hk3.size; have := HK2.out; omega)
  clear hs3 hk3 r0 r1 ha3 ha2
  go_wp2_with fail
  go_loopw [5, 7] (fun ov kv wr => ∃ (k j at4 : Nat) (l : List Int), k + j = K ∧ kv = .int .i64 (k : Int) ∧ at4 ≤ at' + 4 + 4 * j ∧ (∃ a c, ov = .slice a j c) ∧ (j = 0 → ov = .slice (some ⟨W.heap.size, 0, none⟩) 0 0) ∧ l.length = j ∧ (∀ z ∈ l, 0 ≤ z ∧ z ≤ 255) ∧ wr.ownsRow W.heap.size 5 1 ov j (l.map (Value.int .u8)) ∧ Src g at4 wr ∧ W.heap.size < wr.heap.size ∧ Keep W.heap.size (· = g) W wr) (fun _ kv _ => (intOf kv).toNat)
  case atStart => exact ⟨K, 0, at3, [], by omega, rfl, by omega, ⟨_, _, rfl⟩, fun _ => rfl, rfl, by simp, O3.out, S3.out, HLT.out, K3.out⟩
  case round =>
    clear O0 O2 O3 S2 S3 K2 K3 HX S0 Ho
    obtain ⟨k, j, at4, l, hkj, rfl, ha4, ⟨a, c, rfl⟩, hj0, hl, hlr, hown, hs4, hsz4, hk4⟩ := hrel
    have O4 := Lib.hid hown
    have S4 := Lib.hid hs4
    have K4 := Lib.hid hk4
    have HL := Lib.hid hl
    have HLR := Lib.hid hlr
    have HZ4 := Lib.hid hsz4
    have HJ0 := Lib.hid hj0
    clear hown hs4 hk4 hl hlr hsz4 hj0
    by_cases hk : 0 < k
    · have k1 : (0 : Int) < (k : Int) := by omega
      go_wp2_with fail
      refine (H256.out at4 (by omega) _ S4.out).mono ?_
      rintro x w5 ⟨b, at5, rfl, b0, b1, ha5, hs5, hk5⟩
      have S5 := Lib.hid hs5
      have K5 := Lib.hid (K4.out.trans (hk5.mono K4.out.size))
      have O5 := Lib.hid (owns_keep HG.out O4.out hk5)
      have HZ5 : Hid (W.heap.size < w5.heap.size) := Lib.hid (by have := HZ4.out; have := hk5.size; omega)
      clear hs5 hk5
      have b2 : b ≤ 255 := by omega
      cases few with
      | false =>
        go_wp2_with (at_builtin; refine wpList_append_own _ rfl _ _ 22 rfl W.heap.size 5 i0 (.int .u8 0) 1 1 Try.underlying22 Hi.out hz0 hz1 hz2 rfl (by decide) _ j _ rfl (O5.out.alloc _) ⟨w5.heap.size, 0, none⟩ 1 1 [.int .u8 b] rfl rfl ?c1 ?c2 ?c3 ?c4 ?c5 ?_)
        case c1 => exact new_cell _ _ _
        case c2 => simp [Value.oneCell']
        case c3 => unfold maxLen; omega
        case c4 => omega
        case c5 => have := HZ5.out; simp; omega
        intro v7 w7 hown7 hgrow7 hnil7
        have LB := ((Below.refl W.heap.size w5).alloc (by have := HZ5.out; omega) (.cells #[.int .u8 b] 5)).grown hgrow7 (by have := HZ5.out; simp; omega) (fun g e => (O5.out.lt g e).1)
        have S7 := Lib.hid (S5.out.below HG.out LB)
        have K7 := Lib.hid (K5.out.trans (Keep.of _ LB))
        have O7 := Lib.hid (show w7.ownsRow W.heap.size 5 1 v7 (j + 1) ((l ++ [b]).map (Value.int .u8)) by rw [List.map_append]; exact hown7)
        have HZ7 : Hid (W.heap.size < w7.heap.size) := Lib.hid (by have := HZ5.out; have := LB.size; omega)
        clear LB hgrow7 hnil7
        obtain ⟨a7, c7, hv7⟩ := owns_slc hown7
        subst hv7
        clear hown7
        go_wp2_with fail
        go_roundw
        case rel => exact ⟨k - 1, j + 1, at5, l ++ [b], by omega, by congr 1; omega, by omega, ⟨_, _, rfl⟩, fun h => absurd h (by omega), by rw [List.length_append, HL.out]; rfl, (fun z hz => by
          rcases List.mem_append.1 hz with hz | hz
          · exact HLR.out z hz
          · rw [List.mem_singleton.1 hz]; omega), O7.out, S7.out, HZ7.out, K7.out⟩
        case measure => simp [intOf]; omega
      | true =>
        go_wp2_with fail
        refine (H3.out at5 (by omega) _ S5.out).mono ?_
        rintro x w6 ⟨b', at6, rfl, b0', b1', ha6, hs6, hk6⟩
        have S6 := Lib.hid hs6
        have K6 := Lib.hid (K5.out.trans (hk6.mono K5.out.size))
        have O6 := Lib.hid (owns_keep HG.out O5.out hk6)
        have HZ6 : Hid (W.heap.size < w6.heap.size) := Lib.hid (by have := HZ5.out; have := hk6.size; omega)
        clear hs6 hk6
        have b2' : b' ≤ 255 := by omega
        go_wp2_with (at_builtin; refine wpList_append_own _ rfl _ _ 22 rfl W.heap.size 5 i0 (.int .u8 0) 1 1 Try.underlying22 Hi.out hz0 hz1 hz2 rfl (by decide) _ j _ rfl (O6.out.alloc _) ⟨w6.heap.size, 0, none⟩ 1 1 [.int .u8 b'] rfl rfl ?c1 ?c2 ?c3 ?c4 ?c5 ?_)
        case c1 => exact new_cell _ _ _
        case c2 => simp [Value.oneCell']
        case c3 => unfold maxLen; omega
        case c4 => omega
        case c5 => have := HZ6.out; simp; omega
        intro v7 w7 hown7 hgrow7 hnil7
        have LB := ((Below.refl W.heap.size w6).alloc (by have := HZ6.out; omega) (.cells #[.int .u8 b'] 5)).grown hgrow7 (by have := HZ6.out; simp; omega) (fun g e => (O6.out.lt g e).1)
        have S7 := Lib.hid (S6.out.below HG.out LB)
        have K7 := Lib.hid (K6.out.trans (Keep.of _ LB))
        have O7 := Lib.hid (show w7.ownsRow W.heap.size 5 1 v7 (j + 1) ((l ++ [b']).map (Value.int .u8)) by rw [List.map_append]; exact hown7)
        have HZ7 : Hid (W.heap.size < w7.heap.size) := Lib.hid (by have := HZ6.out; have := LB.size; omega)
        clear LB hgrow7 hnil7
        obtain ⟨a7, c7, hv7⟩ := owns_slc hown7
        subst hv7
        clear hown7
        go_wp2_with fail
        go_roundw
        case rel => exact ⟨k - 1, j + 1, at6, l ++ [b'], by omega, by congr 1; omega, by omega, ⟨_, _, rfl⟩, fun h => absurd h (by omega), by rw [List.length_append, HL.out]; rfl, (fun z hz => by
          rcases List.mem_append.1 hz with hz | hz
          · exact HLR.out z hz
          · rw [List.mem_singleton.1 hz]; omega), O7.out, S7.out, HZ7.out, K7.out⟩
        case measure => simp [intOf]; omega
    · obtain rfl : k = 0 := by omega
      go_wp2_with fail
      go_ret
      by_cases hj : j = 0
      · have e := HJ0.out hj
        subst hj
        cases e
        obtain rfl : l = [] := List.eq_nil_of_length_eq_zero HL.out
        exact ⟨W.heap.size, 0, _, [], at4, rfl, ⟨rfl, Or.inl rfl⟩, HZ4.out, by omega, by simp, by omega, S4.out, K4.out⟩
      · obtain ⟨blk, rfl, hb⟩ := ownsPtrB O4.out (by omega)
        obtain ⟨a', cap', e, hrd⟩ := Rd.owned O4.out
        cases e
        have hlt : blk < wr.heap.size := by
          rcases hrd.2 with h0 | ⟨b', o', e', hb', _⟩
          · omega
          · cases e'; exact hb'
        exact ⟨blk, j, _, l, at4, rfl, hrd, hlt, by omega, HLR.out, by omega, S4.out, K4.out⟩
theorem z32_byteB : ∀ z ∈ z32, (0 : Int) ≤ z ∧ z ≤ 255 := by decide
theorem hashK_range (tag : Int) (l : List Int) : ∀ z ∈ hashK tag l, 0 ≤ z ∧ z ≤ 255 := keyS_range _
set_option maxRecDepth 100000 in
set_option maxHeartbeats 8000000 in
theorem any_src (g at' : Nat) (hat : at' ≤ 800000) (W : World) (hs : Src g at' W) :
    Calls Try.prog 59 #[.pointer (some ⟨g, 0, none⟩)] W fun x w' => ∃ (key : List Int) (at2 : Nat), x = .returned (.agg (ints .u8 key)) ∧ L32 key ∧ at2 ≤ at' + 80 ∧ Src g at2 w' ∧ Keep W.heap.size (· = g) W w' := by
  have Hz := Lib.hid z32_ints
  have HG := Lib.hid hs.lt
  have B2 := Lib.hid (((Below.refl W.heap.size W).alloc (Nat.le_refl _) (.cells (ints .u8 z32) 28)).alloc (by simp) (.cells (ints .u8 z32) 28))
  have A2 := Lib.hid (heap_alloc2_old W (.cells (ints .u8 z32) 28) (.cells (ints .u8 z32) 28))
  have K2 := Lib.hid (heap_alloc2_new W (.cells (ints .u8 z32) 28) (.cells (ints .u8 z32) 28))
  obtain ⟨W2, hW2⟩ : ∃ W2, (W.alloc (.cells (ints .u8 z32) 28)).alloc (.cells (ints .u8 z32) 28) = W2 := ⟨_, rfl⟩
  have HSZ : Hid (W2.heap.size = W.heap.size + 1 + 1) := Lib.hid (by rw [← hW2]; simp)
  rw [hW2] at B2 A2 K2
  have B3 := Lib.hid (Below.setRow (g := W.heap.size + 1) B2.out (by omega) (ints .u8 z32))
  have A3 := Lib.hid ((setRow_other W2 (W.heap.size + 1) W.heap.size (ints .u8 z32) (by omega)).trans A2.out)
  have K3 := Lib.hid (setRow_heap _ _ (ints .u8 z32) (ints .u8 z32) _ _ K2.out)
  obtain ⟨W3, hW3⟩ : ∃ W3, W2.setRow (W.heap.size + 1) (ints .u8 z32) = W3 := ⟨_, rfl⟩
  have HS3 : Hid (W3.heap.size = W.heap.size + 1 + 1) := Lib.hid (by rw [← hW3, ← HSZ.out]; simp)
  rw [hW3] at B3 A3 K3
  have S3 := Lib.hid (hs.below HG.out B3.out)
  have Hp := Lib.hid (fun (n : Int) (h1 : 1 ≤ n) (h2 : n ≤ 1000) at2 (h : at2 ≤ 900000) U hU => pick_src g at2 n h1 (by omega) (by omega) U hU)
  have Hd := Lib.hid (fun at2 (h : at2 ≤ 900000) U hU => data_src g at2 4 (by omega) h U hU)
  clear hs
  rw [Hz.out] at hW2
  go_enter Try.func59, Try.ntmps59
  go_wp2_with (refine wpList_store_row rfl 28 (.tmp 3) _ rfl (W.heap.size + 1) (ints .u8 z32) rfl (by rw [Hz.out]; rfl) 28 (ints .u8 z32) K2.out (by kernel_rfl) rfl (ints_one _ _) ?_; rw [hW3])
  clear hW2 hW3
  refine (Hp.out 3 (by omega) (by omega) at' (by omega) _ S3.out).mono ?_
  rintro x w4 ⟨r, at4, rfl, r0, r1, ha4, hs4, hk4⟩
  have S4 := Lib.hid hs4
  have Q4 := Lib.hid ((Keep.of (· = g) B3.out).trans (hk4.mono B3.out.size))
  have A4 := Lib.hid (hk4.hold (g := W.heap.size) (by have := HG.out; omega) A3.out)
  have K4 := Lib.hid (hk4.hold (g := W.heap.size + 1) (by have := HG.out; omega) K3.out)
  clear hs4 hk4
  have hr : r = 0 ∨ r = 1 ∨ r = 2 := by omega
  clear r0 r1
  rcases hr with rfl | rfl | rfl
  · go_wp2_with fail
    refine (Hp.out 3 (by omega) (by omega) at4 (by omega) _ S4.out).mono ?_
    rintro x w5 ⟨t, at5, rfl, t0, t1, ha5, hs5, hk5⟩
    have S5 := Lib.hid hs5
    have Q5 := Lib.hid (Q4.out.trans (hk5.mono Q4.out.size))
    have A5 := Lib.hid (hk5.hold (g := W.heap.size) (by have := HG.out; omega) A4.out)
    clear hs5 hk5
    have t2 : t ≤ 255 := by omega
    go_wp2_with fail
    refine (Hd.out at5 (by omega) _ S5.out).mono ?_
    rintro x w6 ⟨b, n, c, l, at6, rfl, hrd, hb, hn, hlr, ha6, hs6, hk6⟩
    have S6 := Lib.hid hs6
    have Q6 := Lib.hid (Q5.out.trans (hk6.mono Q5.out.size))
    have A6 := Lib.hid (hk6.hold (g := W.heap.size) (by have := HG.out; omega) A5.out)
    have Hh := Lib.hid (hash_spec t b 0 n c l t0 t2 hlr (by omega) w6 hrd.1 hb (fun j hj => by
      rcases hrd.2 with h0 | ⟨b', o', e, _, hc⟩
      · omega
      · cases e
        exact hc j hj))
    have HV : Hid (L32 (hashK t l)) := Lib.hid ⟨hashK_len t l, hashK_range t l⟩
    generalize hashK t l = V at Hh HV
    clear hs6 hk6 hrd hlr hb
    go_wp2_with fail
    refine Hh.out.mono ?_
    rintro x w7 ⟨rfl, hb7⟩
    have S7 := Lib.hid (S6.out.below S6.out.lt hb7)
    have Q7 := Lib.hid (keep_below Q6.out hb7 Q6.out.size)
    have A7 := Lib.hid (keep_block A6.out hb7)
    clear hb7
    go_wp2_with (refine wpList_store_row rfl 28 (.tmp 2) _ rfl W.heap.size (ints .u8 V) rfl rfl 28 (ints .u8 z32) A7.out (by rw [ints_size, HV.out.1]; exact sizeKey) (by rw [ints_size, ints_size, HV.out.1]; rfl) (ints_one _ _) ?_)
    have E := Below.setRow (g := W.heap.size) (Below.refl W.heap.size w7) (Nat.le_refl _) (ints .u8 V)
    refine bodyPost_ret (results_cell_row rfl _ _ W.heap.size 28 (ints .u8 V) (0, 0) _ rfl (setRow_heap _ _ (ints .u8 z32) _ _ _ A7.out) Try.underlying28 rfl (by rw [ints_size, HV.out.1]; exact sizeKey)) rfl ⟨V, at6, rfl, HV.out, by omega, S7.out.below HG.out E, Q7.out.trans (Keep.of _ E)⟩
  · go_wp2_with fail
    refine (Hp.out 32 (by omega) (by omega) at4 (by omega) _ S4.out).mono ?_
    rintro x w5 ⟨t, at5, rfl, t0, t1, ha5, hs5, hk5⟩
    obtain ⟨i, rfl⟩ := Int.eq_ofNat_of_zero_le t0
    have S5 := Lib.hid hs5
    have Q5 := Lib.hid (Q4.out.trans (hk5.mono Q4.out.size))
    have A5 := Lib.hid (hk5.hold (g := W.heap.size) (by have := HG.out; omega) A4.out)
    have K5 := Lib.hid (hk5.hold (g := W.heap.size + 1) (by have := HG.out; omega) K4.out)
    clear hs5 hk5
    go_wp2_with fail
    refine (Hp.out 256 (by omega) (by omega) at5 (by omega) _ S5.out).mono ?_
    rintro x w6 ⟨v, at6, rfl, v0, v1, ha6, hs6, hk6⟩
    have S6 := Lib.hid hs6
    have Q6 := Lib.hid (Q5.out.trans (hk6.mono Q5.out.size))
    have A6 := Lib.hid (hk6.hold (g := W.heap.size) (by have := HG.out; omega) A5.out)
    have K6 := Lib.hid (hk6.hold (g := W.heap.size + 1) (by have := HG.out; omega) K5.out)
    clear hs6 hk6
    have v2 : v ≤ 255 := by omega
    have f6 : w6.frozen? ⟨W.heap.size + 1, i, none⟩ = false := frozen_of_row w6 (W.heap.size + 1) i _ _ K6.out
    have c6 : w6.cell? ⟨W.heap.size + 1, i, none⟩ = some (.int .u8 (z32[i]?.getD 0)) := (cell_of_row w6 (W.heap.size + 1) i _ _ _ K6.out).trans (ints_get .u8 z32 i (by show i < 32; omega))
    have LB := Below.setCell (p := ⟨W.heap.size + 1, i, none⟩) (Below.refl W.heap.size w6) (show W.heap.size ≤ W.heap.size + 1 by omega) (.int .u8 v)
    have K7 := Lib.hid (by have := heap_setCell_same w6 (W.heap.size + 1) i _ _ (.int .u8 v) K6.out; rw [ints_set] at this; exact this)
    have A7 := Lib.hid ((heap_setCell_other w6 ⟨W.heap.size + 1, i, none⟩ W.heap.size (.int .u8 v) (show W.heap.size ≠ W.heap.size + 1 by omega)).trans A6.out)
    have S7 := Lib.hid (S6.out.below HG.out LB)
    have Q7 := Lib.hid (Q6.out.trans (Keep.of _ LB))
    have HV : Hid (L32 (z32.set i v)) := Lib.hid ⟨by rw [List.length_set]; rfl, fun z hz => by
      rcases List.mem_or_eq_of_mem_set hz with hz | rfl
      · exact z32_byteB z hz
      · omega⟩
    generalize z32.set i v = V at K7 HV
    clear LB
    go_wp2_with (first | (refine wpList_load_row rfl 28 (.tmp 3) rfl (W.heap.size + 1) rfl 28 (ints .u8 V) (0, 0) _ K7.out Try.underlying28 rfl (by rw [ints_size, HV.out.1]; exact sizeKey) ?_) | (refine wpList_store_row rfl 28 (.tmp 2) _ rfl W.heap.size (ints .u8 V) rfl rfl 28 (ints .u8 z32) A7.out (by rw [ints_size, HV.out.1]; exact sizeKey) (by rw [ints_size, ints_size, HV.out.1]; rfl) (ints_one _ _) ?_))
    have E := Below.setRow (g := W.heap.size) (Below.refl W.heap.size (w6.setCell ⟨W.heap.size + 1, i, none⟩ (.int .u8 v))) (Nat.le_refl _) (ints .u8 V)
    refine bodyPost_ret (results_cell_row rfl _ _ W.heap.size 28 (ints .u8 V) (0, 0) _ rfl (setRow_heap _ _ (ints .u8 z32) _ _ _ A7.out) Try.underlying28 rfl (by rw [ints_size, HV.out.1]; exact sizeKey)) rfl ⟨V, at6, rfl, HV.out, by omega, S7.out.below HG.out E, Q7.out.trans (Keep.of _ E)⟩
  · go_wp2_with fail
    go_loopw [4] (fun iv wr => ∃ (k at5 : Nat) (V : List Int), k ≤ 32 ∧ iv = .int .i64 (k : Int) ∧ at5 ≤ at' + 2 + 2 * k ∧ L32 V ∧ wr.heap[W.heap.size + 1]? = some (.cells (ints .u8 V) 28) ∧ wr.heap[W.heap.size]? = some (.cells (ints .u8 z32) 28) ∧ Src g at5 wr ∧ Keep W.heap.size (· = g) W wr ∧ W.heap.size + 1 < wr.heap.size) (fun iv _ => 32 - (intOf iv).toNat)
    case atStart => exact ⟨0, at4, z32, by omega, rfl, by omega, ⟨rfl, z32_byteB⟩, K4.out, A4.out, S4.out, Q4.out, (Array.getElem?_eq_some_iff.1 K4.out).1⟩
    case round =>
      clear A2 A3 A4 K2 K3 K4 S3 S4 Q4 B2 B3
      obtain ⟨k, at5, V, hk, rfl, ha5, hV, hK, hA, hs5, hq5, hsz⟩ := hrel
      have HV := Lib.hid hV
      have K5 := Lib.hid hK
      have A5 := Lib.hid hA
      have S5 := Lib.hid hs5
      have Q5 := Lib.hid hq5
      have HZ := Lib.hid hsz
      clear hV hK hA hs5 hq5 hsz
      by_cases hlt : k < 32
      · have k1 : (k : Int) < 32 := by omega
        have k0 : (0 : Int) ≤ (k : Int) := by omega
        go_wp2_with fail
        refine (Hp.out 256 (by omega) (by omega) at5 (by omega) _ S5.out).mono ?_
        rintro x w6 ⟨v, at6, rfl, v0, v1, ha6, hs6, hk6⟩
        have S6 := Lib.hid hs6
        have Q6 := Lib.hid (Q5.out.trans (hk6.mono Q5.out.size))
        have A6 := Lib.hid (hk6.hold (g := W.heap.size) (by have := HG.out; omega) A5.out)
        have K6 := Lib.hid (hk6.hold (g := W.heap.size + 1) (by have := HG.out; omega) K5.out)
        have HZ6 : Hid (W.heap.size + 1 < w6.heap.size) := Lib.hid (by have := HZ.out; have := hk6.size; omega)
        clear hs6 hk6
        have v2 : v ≤ 255 := by omega
        have f6 : w6.frozen? ⟨W.heap.size + 1, k, none⟩ = false := frozen_of_row w6 (W.heap.size + 1) k _ _ K6.out
        have c6 : w6.cell? ⟨W.heap.size + 1, k, none⟩ = some (.int .u8 (V[k]?.getD 0)) := (cell_of_row w6 (W.heap.size + 1) k _ _ _ K6.out).trans (ints_get .u8 V k (by rw [HV.out.1]; omega))
        have LB := Below.setCell (p := ⟨W.heap.size + 1, k, none⟩) (Below.refl W.heap.size w6) (show W.heap.size ≤ W.heap.size + 1 by omega) (.int .u8 v)
        have K7 := Lib.hid (by have := heap_setCell_same w6 (W.heap.size + 1) k _ _ (.int .u8 v) K6.out; rw [ints_set] at this; exact this)
        have A7 := Lib.hid ((heap_setCell_other w6 ⟨W.heap.size + 1, k, none⟩ W.heap.size (.int .u8 v) (show W.heap.size ≠ W.heap.size + 1 by omega)).trans A6.out)
        have S7 := Lib.hid (S6.out.below HG.out LB)
        have Q7 := Lib.hid (Q6.out.trans (Keep.of _ LB))
        have HV7 : Hid (L32 (V.set k v)) := Lib.hid ⟨by rw [List.length_set]; exact HV.out.1, fun z hz => by
          rcases List.mem_or_eq_of_mem_set hz with hz | rfl
          · exact HV.out.2 z hz
          · omega⟩
        have HZ7 := Lib.hid (Nat.lt_of_lt_of_le HZ6.out LB.size)
        clear LB
        go_wp2_with fail
        go_roundw
        case rel => exact ⟨k + 1, at6, V.set k v, by omega, by go_num, by omega, HV7.out, K7.out, A7.out, S7.out, Q7.out, HZ7.out⟩
        case measure => simp [intOf]; omega
      · obtain rfl : k = 32 := by omega
        go_wp2_with (first | (refine wpList_load_row rfl 28 (.tmp 3) rfl (W.heap.size + 1) rfl 28 (ints .u8 V) (0, 0) _ K5.out Try.underlying28 rfl (by rw [ints_size, HV.out.1]; exact sizeKey) ?_) | (refine wpList_store_row rfl 28 (.tmp 2) _ rfl W.heap.size (ints .u8 V) rfl rfl 28 (ints .u8 z32) A5.out (by rw [ints_size, HV.out.1]; exact sizeKey) (by rw [ints_size, ints_size, HV.out.1]; rfl) (ints_one _ _) ?_))
        have E := Below.setRow (g := W.heap.size) (Below.refl W.heap.size wr) (Nat.le_refl _) (ints .u8 V)
        refine bodyPost_ret (results_cell_row rfl _ _ W.heap.size 28 (ints .u8 V) (0, 0) _ rfl (setRow_heap _ _ (ints .u8 z32) _ _ _ A5.out) Try.underlying28 rfl (by rw [ints_size, HV.out.1]; exact sizeKey)) rfl ⟨V, at5, rfl, HV.out, by omega, S5.out.below HG.out E, Q5.out.trans (Keep.of _ E)⟩
set_option maxRecDepth 100000 in
set_option maxHeartbeats 8000000 in
theorem keys_src (a : Option Addr) (n c : Nat) (l : List Int) (most : Nat) (hn : n ≤ 1048576) (hl : ∀ z ∈ l, 0 ≤ z ∧ z ≤ 255) (hm : most ≤ 100) (W : World) (hr : Rd .u8 W a n l) :
    Calls Try.prog 16 #[.slice a n c, .int .i64 (most : Int)] W fun x w' => ∃ (v : Value) (m : Nat) (fl : List Int), x = .returned v ∧ w'.ownsRow W.heap.size 28 32 v m (fl.map (Value.int .u8)) ∧ m ≤ most ∧ fl.length = 32 * m ∧ (∀ z ∈ fl, 0 ≤ z ∧ z ≤ 255) ∧ Below W.heap.size W w' := by
  obtain ⟨i0, z0, hi, hz0, hz1, hz2, hzs, hzc⟩ := keyParts
  have Hi := Lib.hid hi
  have Hf := Lib.hid (from_src a n c l hn hl W hr)
  have m0 : (0 : Int) ≤ (most : Int) := by omega
  have m1 : (most : Int) ≤ 100 := by omega
  have Hp := Lib.hid (fun U hU => pick_src W.heap.size 0 ((most : Int) + 1) (by omega) (by omega) (by omega) U hU)
  have Ha := Lib.hid (fun at2 (h : at2 ≤ 700000) U hU => any_src W.heap.size at2 (by omega) U hU)
  clear hr hi
  go_enter Try.func16, Try.ntmps16
  go_wp2_with fail
  refine Hf.out.mono ?_
  rintro x w1 ⟨rfl, hs1, hb1⟩
  have HL1 := Lib.hid hs1.lt
  have LB := (Below.refl w1.heap.size w1).alloc (Nat.le_refl _) (.cells #[] 28)
  have S2 := Lib.hid (hs1.below hs1.lt LB)
  have O2 := Lib.hid (owns_base (show W.heap.size + 1 ≤ w1.heap.size by have := hs1.lt; omega) (owns_empty w1 28 32))
  have B2 := Lib.hid (below_call hb1 hb1.size LB)
  have HL2 : Hid (W.heap.size < (w1.alloc (.cells #[] 28)).heap.size) := Lib.hid (Nat.lt_of_lt_of_le hs1.lt LB.size)
  clear hs1 hb1 LB
  go_wp2_with fail
  refine (Hp.out _ S2.out).mono ?_
  rintro x w3 ⟨r, at3, rfl, r0, r1, ha3, hs3, hk3⟩
  obtain ⟨K, rfl⟩ := Int.eq_ofNat_of_zero_le r0
  have S3 := Lib.hid hs3
  have B3 := Lib.hid (B2.out.trans (hk3.below (C := W.heap.size) (Nat.le_of_lt HL2.out) (fun k hk => Nat.le_of_eq hk.symm)))
  have O3 := Lib.hid (owns_keep (Nat.lt_succ_self _) O2.out hk3)
  have HL3 : Hid (W.heap.size < w3.heap.size) := Lib.hid (Nat.lt_of_lt_of_le HL2.out hk3.size)
  have HK : K ≤ most := by omega
  clear hs3 hk3 r0 r1
  go_wp2_with fail
  go_loopw [6, 7] (fun ov kv wr => ∃ (k j at4 : Nat) (fl : List Int), k + j = K ∧ kv = .int .i64 (k : Int) ∧ at4 ≤ 2 + 80 * j ∧ (∃ a c, ov = .slice a j c) ∧ fl.length = 32 * j ∧ (∀ z ∈ fl, 0 ≤ z ∧ z ≤ 255) ∧ wr.ownsRow (W.heap.size + 1) 28 32 ov j (fl.map (Value.int .u8)) ∧ Src W.heap.size at4 wr ∧ W.heap.size < wr.heap.size ∧ Below W.heap.size W wr) (fun _ kv _ => (intOf kv).toNat)
  case atStart => exact ⟨K, 0, at3, [], by omega, rfl, by omega, ⟨_, _, rfl⟩, rfl, by simp, O3.out, S3.out, HL3.out, B3.out⟩
  case round =>
    clear O2 O3 S2 S3 B2 B3 Hf Hp HL1 HL2 HL3
    obtain ⟨k, j, at4, fl, hkj, rfl, ha4, ⟨a', c', rfl⟩, hfl, hfr, hown, hs4, hlt4, hb4⟩ := hrel
    have O4 := Lib.hid hown
    have S4 := Lib.hid hs4
    have B4 := Lib.hid hb4
    have HFL := Lib.hid hfl
    have HFR := Lib.hid hfr
    have HL4 := Lib.hid hlt4
    clear hown hs4 hb4 hfl hfr hlt4
    by_cases hk : 0 < k
    · have k1 : (0 : Int) < (k : Int) := by omega
      go_wp2_with fail
      refine (Ha.out at4 (by omega) _ S4.out).mono ?_
      rintro x w5 ⟨key, at5, rfl, hkey, ha5, hs5, hk5⟩
      have S5 := Lib.hid hs5
      have B5 := Lib.hid (B4.out.trans (hk5.below (C := W.heap.size) (Nat.le_of_lt HL4.out) (fun k hk => Nat.le_of_eq hk.symm)))
      have O5 := Lib.hid (owns_keep (Nat.lt_succ_self _) O4.out hk5)
      have HL5 : Hid (W.heap.size < w5.heap.size) := Lib.hid (Nat.lt_of_lt_of_le HL4.out hk5.size)
      have HKY := Lib.hid hkey
      clear hs5 hk5 hkey
      go_wp2_with (first | (refine wpList_buildSlice_one rfl 24 28 _ rfl Try.underlying24 Hi.out hz0 (ints .u8 key) rfl (by rw [ints_size, HKY.out.1, hz1]) (by rw [hz1]; decide) (by rw [hz1]; decide) ?_) | (at_builtin; refine wpList_append_own _ rfl _ _ 24 rfl (W.heap.size + 1) 28 i0 z0 32 32 Try.underlying24 Hi.out hz0 hz1 hz2 hzs (by decide) _ j _ rfl (O5.out.alloc _) ⟨w5.heap.size, 0, none⟩ 1 1 (key.map (Value.int .u8)) rfl (by rw [List.length_map, HKY.out.1]) ?c1 ?c2 ?c3 ?c4 ?c5 ?_))
      case c1 =>
        intro p u hu
        rw [addr_add]
        have hg := heap_alloc_last w5 (.cells (ints .u8 key) 28)
        rw [Nat.zero_add, cell_of_row _ w5.heap.size p _ _ _ hg, ← hu]
        simp [ints]
      case c2 =>
        intro u hu
        obtain ⟨z, _, rfl⟩ := List.mem_map.1 hu
        rfl
      case c3 => unfold maxLen; omega
      case c4 => omega
      case c5 => have := HL5.out; simp; omega
      intro v6 w6 hown6 hgrow6 hnil6
      have LB := ((Below.refl (W.heap.size + 1) w5).alloc (by have := HL5.out; omega) (.cells (ints .u8 key) 28)).grown hgrow6 (by have := HL5.out; simp; omega) (fun g e => (O5.out.lt g e).1)
      have S6 := Lib.hid (S5.out.below (Nat.lt_succ_self _) LB)
      have B6 := Lib.hid (B5.out.trans (LB.mono (Nat.le_succ _)))
      have O6 := Lib.hid (show w6.ownsRow (W.heap.size + 1) 28 32 v6 (j + 1) ((fl ++ key).map (Value.int .u8)) by rw [List.map_append]; exact hown6)
      have HL6 : Hid (W.heap.size < w6.heap.size) := Lib.hid (Nat.lt_of_lt_of_le HL5.out LB.size)
      clear LB hgrow6 hnil6
      obtain ⟨a6, c6, hv6⟩ := owns_slc hown6
      subst hv6
      clear hown6
      go_wp2_with fail
      go_roundw
      case rel => exact ⟨k - 1, j + 1, at5, fl ++ key, by omega, by congr 1; omega, by omega, ⟨_, _, rfl⟩, by rw [List.length_append, HFL.out, HKY.out.1]; omega, (fun z hz => by
        rcases List.mem_append.1 hz with hz | hz
        · exact HFR.out z hz
        · exact HKY.out.2 z hz), O6.out, S6.out, HL6.out, B6.out⟩
      case measure => simp [intOf]; omega
    · obtain rfl : k = 0 := by omega
      go_wp2_with fail
      go_ret
      exact ⟨_, j, fl, rfl, owns_base (Nat.le_succ _) O4.out, by omega, HFL.out, HFR.out, B4.out⟩
end Go.Proofs.Ytjijgckljjcfiaa
namespace Go.Proofs.Ytjijgckljjcfiaa
open Go.ChangeShapes Go.WideShapes Go.ChangeAt Go.RowKit
set_option linter.unusedVariables false
set_option linter.unusedSimpArgs false
theorem sizeU8L : (Try.prog.info? 5).map (·.size) = some 1 := by kernel_rfl
theorem neqKeyL (a b : List Int) (ha : a.length = 32) (hb : b.length = 32) (W : World) : (binOp .neq 28 (.agg (ints .u8 a)) (.agg (ints .u8 b))).run Try.prog W = .ok (.bool (!decide (a = b))) W := by
  rw [run_neq_struct, run_equalIn_ints Try.underlying28 Try.underlying5 sizeU8L a b ha hb 9998 W]
  rfl
set_option maxRecDepth 100000 in
set_option maxHeartbeats 2000000 in
theorem lists_same (a b : Option Addr) (n ca cb : Nat) (fl : List Int) (hn : n ≤ 1048576) (w : World) (hr : RdK w a n fl) (hs : RdK w b n fl) :
    Calls Try.prog 81 #[.slice a n ca, .slice b n cb] w fun e w' => e = .returned (.bool true) ∧ Below w.heap.size w w' := by
  have HR := Lib.hid hr
  have HS := Lib.hid hs
  clear hr hs
  go_enter Try.func81, Try.ntmps81
  go_wp2_with fail
  go_loopw [5] (fun i wr => ∃ k : Nat, k ≤ n ∧ i = .int .i64 k ∧ Below w.heap.size w wr) (fun i _ => n - (intOf i).toNat)
  case atStart => exact ⟨0, by omega, rfl, Below.refl _ _⟩
  case round =>
    obtain ⟨k, hk, rfl, hb⟩ := hrel
    have HB := Lib.hid hb
    clear hb
    by_cases hlt : k < n
    · obtain ⟨b1, o1, rfl⟩ := HR.out.form (show 0 < n by omega)
      obtain ⟨b2, o2, rfl⟩ := HS.out.form (show 0 < n by omega)
      have i0 : (0 : Int) ≤ (k : Int) := by omega
      have i1 : (k : Int) < (n : Int) := by omega
      have Hr1 := Lib.hid ((HR.out.below HB.out).key k hlt)
      have Hr2 := Lib.hid ((HS.out.below HB.out).key k hlt)
      have Hkl := Lib.hid (keyAt_len HR.out.1 hlt)
      have Heq : ∀ U, (binOp .neq 28 (.agg (ints .u8 (keyAt fl k))) (.agg (ints .u8 (keyAt fl k)))).run Try.prog U = .ok (.bool false) U := fun U => (neqKeyL (keyAt fl k) (keyAt fl k) Hkl.out Hkl.out U).trans (by simp)
      generalize keyAt fl k = key at Hr1 Hr2 Hkl Heq
      go_upto_region 6 with fail
      refine wp_region_held_drew (S := Below (wr).heap.size (wr)) (by kernel_rfl) ((Below.refl _ _).drew) (fun hS => ?_)
      refine take_at (i := 0) (v := .slice (some ⟨b1, o1, none⟩) n ca) rfl rfl (by kernel_rfl) (by kernel_rfl) (by kernel_rfl) (fun _ _ _ h => h) (Or.inl ⟨by rfl, fun U hU => by go_simp⟩) hS ?_
      try simp only [List.setIfInBounds_toArray, List.set_cons_zero, List.set_cons_succ]
      refine take_at (i := 1) (v := .int .i64 (k : Int)) rfl rfl (by kernel_rfl) (by kernel_rfl) (by kernel_rfl) (fun _ _ _ h => h) (Or.inl ⟨by rfl, fun U hU => by go_simp⟩) hS ?_
      try simp only [List.setIfInBounds_toArray, List.set_cons_zero, List.set_cons_succ]
      refine take_at (i := 2) (v := .pointer (some ⟨b1, o1 + k * 32, none⟩)) rfl rfl (by kernel_rfl) (by kernel_rfl) (by kernel_rfl) (fun _ _ _ h => h) (Or.inl ⟨by rfl, fun U hU => by go_simp⟩) hS ?_
      try simp only [List.setIfInBounds_toArray, List.set_cons_zero, List.set_cons_succ]
      refine take_at (i := 3) (v := .agg (ints .u8 key)) rfl rfl (by kernel_rfl) (by kernel_rfl) (by kernel_rfl) (fun _ _ _ h => h) (yieldsIf_load_mid (by rfl) 28 _ rfl b1 (o1 + k * 32) rfl (key.map (Value.int .u8)) _ (fun U hU => rangeAt_below Hr1.out hU) Try.underlying28 rfl (by rw [List.length_map, Hkl.out]; exact sizeKey)) hS ?_
      try simp only [List.setIfInBounds_toArray, List.set_cons_zero, List.set_cons_succ]
      refine take_at (i := 4) (v := .slice (some ⟨b2, o2, none⟩) n cb) rfl rfl (by kernel_rfl) (by kernel_rfl) (by kernel_rfl) (fun _ _ _ h => h) (Or.inl ⟨by rfl, fun U hU => by go_simp⟩) hS ?_
      try simp only [List.setIfInBounds_toArray, List.set_cons_zero, List.set_cons_succ]
      refine take_at (i := 5) (v := .int .i64 (k : Int)) rfl rfl (by kernel_rfl) (by kernel_rfl) (by kernel_rfl) (fun _ _ _ h => h) (Or.inl ⟨by rfl, fun U hU => by go_simp⟩) hS ?_
      try simp only [List.setIfInBounds_toArray, List.set_cons_zero, List.set_cons_succ]
      refine take_at (i := 6) (v := .pointer (some ⟨b2, o2 + k * 32, none⟩)) rfl rfl (by kernel_rfl) (by kernel_rfl) (by kernel_rfl) (fun _ _ _ h => h) (Or.inl ⟨by rfl, fun U hU => by go_simp⟩) hS ?_
      try simp only [List.setIfInBounds_toArray, List.set_cons_zero, List.set_cons_succ]
      refine take_at (i := 7) (v := .agg (ints .u8 key)) rfl rfl (by kernel_rfl) (by kernel_rfl) (by kernel_rfl) (fun _ _ _ h => h) (yieldsIf_load_mid (by rfl) 28 _ rfl b2 (o2 + k * 32) rfl (key.map (Value.int .u8)) _ (fun U hU => rangeAt_below Hr2.out hU) Try.underlying28 rfl (by rw [List.length_map, Hkl.out]; exact sizeKey)) hS ?_
      try simp only [List.setIfInBounds_toArray, List.set_cons_zero, List.set_cons_succ]
      refine take_at (i := 8) (v := .bool false) rfl rfl (by kernel_rfl) (by kernel_rfl) (by kernel_rfl) (fun _ _ _ h => h) (Or.inl ⟨by rfl, fun U hU => by go_simp⟩) hS ?_
      try simp only [List.setIfInBounds_toArray, List.set_cons_zero, List.set_cons_succ]
      refine wpAnyH_done (by kernel_rfl) ?_ _
      have HS2 := Lib.hid (HB.out.trans (hS.mono HB.out.size))
      clear hS
      go_wp2_with fail
      go_roundw
      case rel => exact ⟨k + 1, by omega, by go_num, HS2.out⟩
      case measure => simp [intOf]; omega
    · obtain rfl : k = n := by omega
      go_wp2_with fail
      go_ret
      exact ⟨rfl, HB.out⟩
theorem same_keys (a b : Option Addr) (n ca cb : Nat) (fl : List Int) (hn : n ≤ 1048576) (w : World) (hr : RdK w a n fl) (hs : RdK w b n fl) :
    Calls Try.prog 28 #[.slice a n ca, .slice b n cb] w fun e w' => e = .returned (.bool true) ∧ Below w.heap.size w w' := by
  have H := Lib.hid (lists_same a b n ca cb fl hn w hr hs)
  clear hr hs
  go_enter Try.func28, Try.ntmps28
  go_wp2_with fail
  refine H.out.mono ?_
  rintro x w1 ⟨rfl, hb⟩
  go_wp2
  go_ret
  exact ⟨rfl, hb⟩
theorem long_no (a b : Option Addr) (n m ca cb : Nat) (h : n ≤ 3000 ∧ m ≤ 3000) (w : World) :
    Calls Try.prog 15 #[.slice a n ca, .slice b m cb] w fun e w' => e = .returned (.bool false) ∧ w = w' := by
  have k1 : ¬ (3000 : Int) < (n : Int) := by omega
  have k2 : ¬ (3000 : Int) < (m : Int) := by omega
  go_enter Try.func15, Try.ntmps15
  go_wp2
  go_ret
  exact ⟨rfl, rfl⟩
theorem long_yes (a b : Option Addr) (n m ca cb : Nat) (h : ¬ (n ≤ 3000 ∧ m ≤ 3000)) (w : World) :
    Calls Try.prog 15 #[.slice a n ca, .slice b m cb] w fun e w' => e = .returned (.bool true) ∧ w = w' := by
  by_cases h1 : n ≤ 3000
  · have k1 : ¬ (3000 : Int) < (n : Int) := by omega
    have k2 : (3000 : Int) < (m : Int) := by omega
    go_enter Try.func15, Try.ntmps15
    go_wp2
    go_ret
    exact ⟨rfl, rfl⟩
  · have k1 : (3000 : Int) < (n : Int) := by omega
    go_enter Try.func15, Try.ntmps15
    go_wp2
    go_ret
    exact ⟨rfl, rfl⟩
end Go.Proofs.Ytjijgckljjcfiaa
namespace Go.Proofs.Ytjijgckljjcfiaa
open Go.ChangeShapes Go.WideShapes Go.ChangeAt Go.RowKit
set_option linter.unusedVariables false
set_option linter.unusedSimpArgs false
/-- The keys of the greatest parts of the n leaves from b on that have none of those from i to j, counted from b. -/
def rg (kf : Nat → List Int) (b n : Nat) (i j : Int) : List Int :=
  if j ≤ 0 ∨ (n : Int) ≤ i then tkey kf b n
  else if h : n ≤ 1 ∨ (i ≤ 0 ∧ (n : Int) ≤ j) then []
  else rg kf b (half n) i j ++ rg kf (b + half n) (n - half n) (i - (half n : Nat)) (j - (half n : Nat))
termination_by n
decreasing_by
  · exact half_lt (by omega)
  · have := half_pos n; have := half_lt (n := n) (by omega); omega
/-- How many there are. -/
def rgN (n : Nat) (i j : Int) : Nat :=
  if j ≤ 0 ∨ (n : Int) ≤ i then 1
  else if h : n ≤ 1 ∨ (i ≤ 0 ∧ (n : Int) ≤ j) then 0
  else rgN (half n) i j + rgN (n - half n) (i - (half n : Nat)) (j - (half n : Nat))
termination_by n
decreasing_by
  · exact half_lt (by omega)
  · have := half_pos n; have := half_lt (n := n) (by omega); omega
theorem rg_miss {kf : Nat → List Int} {b n : Nat} {i j : Int} (h : j ≤ 0 ∨ (n : Int) ≤ i) : rg kf b n i j = tkey kf b n := by rw [rg, if_pos h]
theorem rg_in {kf : Nat → List Int} {b n : Nat} {i j : Int} (h : ¬ (j ≤ 0 ∨ (n : Int) ≤ i)) (h2 : n ≤ 1 ∨ (i ≤ 0 ∧ (n : Int) ≤ j)) : rg kf b n i j = [] := by rw [rg, if_neg h, dif_pos h2]
theorem rg_two {kf : Nat → List Int} {b n : Nat} {i j : Int} (h : ¬ (j ≤ 0 ∨ (n : Int) ≤ i)) (h2 : ¬ (n ≤ 1 ∨ (i ≤ 0 ∧ (n : Int) ≤ j))) : rg kf b n i j = rg kf b (half n) i j ++ rg kf (b + half n) (n - half n) (i - (half n : Nat)) (j - (half n : Nat)) := by rw [rg, if_neg h, dif_neg h2]
theorem rgN_miss {n : Nat} {i j : Int} (h : j ≤ 0 ∨ (n : Int) ≤ i) : rgN n i j = 1 := by rw [rgN, if_pos h]
theorem rgN_in {n : Nat} {i j : Int} (h : ¬ (j ≤ 0 ∨ (n : Int) ≤ i)) (h2 : n ≤ 1 ∨ (i ≤ 0 ∧ (n : Int) ≤ j)) : rgN n i j = 0 := by rw [rgN, if_neg h, dif_pos h2]
theorem rgN_two {n : Nat} {i j : Int} (h : ¬ (j ≤ 0 ∨ (n : Int) ≤ i)) (h2 : ¬ (n ≤ 1 ∨ (i ≤ 0 ∧ (n : Int) ≤ j))) : rgN n i j = rgN (half n) i j + rgN (n - half n) (i - (half n : Nat)) (j - (half n : Nat)) := by rw [rgN, if_neg h, dif_neg h2]
theorem rgN_le : ∀ (n : Nat) (i j : Int), 1 ≤ n → rgN n i j ≤ n := by
  intro n
  induction n using Nat.strongRecOn with
  | _ n ih =>
    intro i j h1
    by_cases h : j ≤ 0 ∨ (n : Int) ≤ i
    · rw [rgN_miss h]; exact h1
    · by_cases h2 : n ≤ 1 ∨ (i ≤ 0 ∧ (n : Int) ≤ j)
      · rw [rgN_in h h2]; exact Nat.zero_le _
      · have a1 := half_pos n
        have a2 := half_lt (n := n) (by omega)
        have := ih (half n) a2 i j a1
        have := ih (n - half n) (by omega) (i - (half n : Nat)) (j - (half n : Nat)) (by omega)
        rw [rgN_two h h2]
        omega
theorem rg_congr {kf kg : Nat → List Int} : ∀ (n b c : Nat) (i j : Int), 1 ≤ n → (∀ k, k < n → kf (b + k) = kg (c + k)) → rg kf b n i j = rg kg c n i j := by
  intro n
  induction n using Nat.strongRecOn with
  | _ n ih =>
    intro b c i j h1 hk
    by_cases h : j ≤ 0 ∨ (n : Int) ≤ i
    · rw [rg_miss h, rg_miss h]; exact tkey_congr n b c h1 hk
    · by_cases h2 : n ≤ 1 ∨ (i ≤ 0 ∧ (n : Int) ≤ j)
      · rw [rg_in h h2, rg_in h h2]
      · have a1 := half_pos n
        have a2 := half_lt (n := n) (by omega)
        rw [rg_two h h2, rg_two h h2, ih _ a2 b c i j a1 (fun k hk2 => hk k (by omega)), ih _ (by omega) (b + half n) (c + half n) _ _ (by omega) (fun k hk2 => by rw [Nat.add_assoc, Nat.add_assoc]; exact hk _ (by omega))]
theorem rg_len {kf : Nat → List Int} : ∀ (n b : Nat) (i j : Int), 1 ≤ n → (∀ k, k < n → (kf (b + k)).length = 32) → (rg kf b n i j).length = 32 * rgN n i j := by
  intro n
  induction n using Nat.strongRecOn with
  | _ n ih =>
    intro b i j h1 hk
    by_cases h : j ≤ 0 ∨ (n : Int) ≤ i
    · rw [rg_miss h, rgN_miss h]; exact tkey_len h1 hk
    · by_cases h2 : n ≤ 1 ∨ (i ≤ 0 ∧ (n : Int) ≤ j)
      · rw [rg_in h h2, rgN_in h h2]; rfl
      · have a1 := half_pos n
        have a2 := half_lt (n := n) (by omega)
        rw [rg_two h h2, rgN_two h h2, List.length_append, ih _ a2 b i j a1 (fun k hk2 => hk k (by omega)), ih _ (by omega) (b + half n) _ _ (by omega) (fun k hk2 => by rw [Nat.add_assoc]; exact hk _ (by omega))]
        omega
/-- As the program goes: down to single leaves, and in places of the whole. -/
theorem rg_inner {kf : Nat → List Int} : ∀ (n b : Nat) (i j : Int), 1 ≤ n → i ≤ 0 → (n : Int) ≤ j → rg kf b n i j = [] := by
  intro n b i j h1 h2 h3
  exact rg_in (by omega) (Or.inr ⟨h2, h3⟩)
theorem rg_down {kf : Nat → List Int} {b n : Nat} {i j : Int} (h : ¬ (j ≤ 0 ∨ (n : Int) ≤ i)) (h2 : 1 < n) : rg kf b n i j = rg kf b (half n) i j ++ rg kf (b + half n) (n - half n) (i - (half n : Nat)) (j - (half n : Nat)) := by
  have a1 := half_pos n
  have a2 := half_lt (n := n) (by omega)
  by_cases h3 : i ≤ 0 ∧ (n : Int) ≤ j
  · rw [rg_in h (Or.inr h3), rg_inner (half n) b i j a1 h3.1 (by omega), rg_inner (n - half n) _ _ _ (by omega) (by omega) (by omega)]
    rfl
  · exact rg_two h (by omega)
theorem rgN_down {n : Nat} {i j : Int} (h : ¬ (j ≤ 0 ∨ (n : Int) ≤ i)) (h2 : 1 < n) : rgN n i j = rgN (half n) i j + rgN (n - half n) (i - (half n : Nat)) (j - (half n : Nat)) := by
  have a1 := half_pos n
  have a2 := half_lt (n := n) (by omega)
  by_cases h3 : i ≤ 0 ∧ (n : Int) ≤ j
  · rw [rgN_in h (Or.inr h3), rgN_in (n := half n) (i := i) (j := j) (by omega) (Or.inr (by omega)), rgN_in (n := n - half n) (by omega) (Or.inr (by omega))]
  · exact rgN_two h (by omega)
theorem owns_one {w : World} {t : TypeId} {size : Nat} (c : Array Value) (hc : c.size = size) : (w.alloc (.cells c t)).ownsRow w.heap.size t size (.slice (some ⟨w.heap.size, 0, none⟩) 1 1) 1 c.toList :=
  ⟨by simp [hc], Or.inr ⟨w.heap.size, 1, c, rfl, Nat.le_refl _, heap_alloc_last _ _, Nat.le_refl _, by unfold maxLen; omega, by omega, by rw [List.take_of_length_le (by simp [hc])]⟩⟩
/-- One row of one's own put behind another one. -/
theorem run_append_rows {P : Program} {w : World} {base base2 : Nat} (t ty e : TypeId) (i : TypeInfo) (z : Value) (size bytes : Nat) (ht : P.underlying t = some (.slice e)) (hi : P.info? e = some i) (hz : i.zero = some z)
    (hsize : i.size = size) (hby : i.bytes = bytes) (hzs : z.cells.size = size) (hsz : 0 < size) (v : Value) (n : Nat) (xs : List Value) (hown : w.ownsRow base e size v n xs)
    (u : Value) (m : Nat) (ys : List Value) (hown2 : w.ownsRow base2 e size u m ys) (h1 : ∀ y ∈ ys, y.oneCell' = true) (h63 : n + m ≤ maxLen) (hbytes : (n + m) * bytes ≤ 140737488355328) (hbase : base ≤ w.heap.size) :
    ∃ v' w', (Builtin.append_ #[t, t] ty #[v, u]).run P w = .ok v' w' ∧ w'.ownsRow base e size v' (n + m) (xs ++ ys) ∧ w.grownBy w' v.ownBlock := by
  rcases hown2.2 with ⟨rfl, hm⟩ | ⟨g, cap, cur, rfl, hb, hh, hnc, hcm, hcs, htake⟩
  · subst hm
    have hy : ys = [] := List.eq_nil_of_length_eq_zero (by simpa using hown2.1)
    subst hy
    exact ⟨v, w, run_append_zero t ty e i size ht hi v n xs hown none 0, by simpa using hown, ⟨rfl, rfl, rfl, Nat.le_refl _, fun _ _ _ => rfl⟩⟩
  · obtain ⟨v', w', hr, h2, h3, _⟩ := run_append_own (P := P) w base t ty e i z size bytes ht hi hz hsize hby hzs hsz v n xs hown ⟨g, 0, none⟩ m cap ys hown2.1 (hown2.cells (g := g) rfl) h1 h63 hbytes hbase
    exact ⟨v', w', hr, h2, h3⟩
theorem wp_append_rows {P : Program} {w : World} {o : Oper} {a : Act} {K : Act → World → Prop} {Q : Exit → Act → World → Prop} {base base2 : Nat} (s x : Operand) (t : TypeId)
    (ho : o.op = .call { callee := .builtin .append, args := #[s, x], argTypes := #[t, t] }) (e : TypeId) (i : TypeInfo) (z : Value) (size bytes : Nat) (ht : P.underlying t = some (.slice e)) (hi : P.info? e = some i) (hz : i.zero = some z)
    (hsize : i.size = size) (hby : i.bytes = bytes) (hzs : z.cells.size = size) (hsz : 0 < size) (v : Value) (n : Nat) (xs : List Value) (hs : a.eval s = v) (hown : w.ownsRow base e size v n xs)
    (u : Value) (m : Nat) (ys : List Value) (hx : a.eval x = u) (hown2 : w.ownsRow base2 e size u m ys) (h1 : ∀ y ∈ ys, y.oneCell' = true) (h63 : n + m ≤ maxLen) (hbytes : (n + m) * bytes ≤ 140737488355328) (hbase : base ≤ w.heap.size)
    (h : ∀ v' w', w'.ownsRow base e size v' (n + m) (xs ++ ys) → w.grownBy w' v.ownBlock → K (a.put o.dst v') w') : o.wp P a w K Q := by
  obtain ⟨v', w', hr, h2, h3⟩ := run_append_rows (P := P) t o.type e i z size bytes ht hi hz hsize hby hzs hsz v n xs hown u m ys hown2 h1 h63 hbytes hbase
  unfold Oper.wp execOp
  simp only [ho, resolve, invoke, builtin, Sem.run_bind, Sem.run_pure, Result.andThen_ok, List.map_toArray, List.map_cons, List.map_nil, hs, hx, hr]
  exact h v' w' h2 h3
end Go.Proofs.Ytjijgckljjcfiaa
namespace Go.Proofs.Ytjijgckljjcfiaa
open Go.ChangeShapes Go.WideShapes Go.ChangeAt Go.RowKit
set_option linter.unusedVariables false
set_option linter.unusedSimpArgs false
set_option maxHeartbeats 2000000 in
theorem at_law (a : Option Addr) (n c : Nat) (l : List Int) (hn : n ≤ 1048576) (hl : ∀ z ∈ l, 0 ≤ z ∧ z ≤ 255) (k : Nat) (hk : k ≤ 100) (N : Int) (h1 : 1 ≤ N) (h2 : N ≤ 1000000) (w : World) (hr : Rd .u8 w a n l) :
    Calls Try.prog 17 #[.slice a n c, .int .i64 (k : Int), .int .i64 N] w fun x w' => ∃ r : Int, x = .returned (.int .i64 r) ∧ 0 ≤ r ∧ r < N ∧ w = w' := by
  by_cases h : k < n
  · obtain ⟨hll, h3⟩ := hr
    rcases h3 with h3 | ⟨b, o, rfl, hb, hcc⟩
    · omega
    · obtain ⟨z, z0, z1, hc⟩ : ∃ z : Int, 0 ≤ z ∧ z ≤ 255 ∧ w.cell? ⟨b, o + k, none⟩ = some (.int .u8 z) := by
        have hz := hl (l[k]'(by omega)) (List.getElem_mem _)
        have hc := hcc k h
        rw [List.getElem?_eq_getElem (show k < l.length by omega)] at hc
        exact ⟨_, hz.1, hz.2, hc⟩
      clear hcc hl
      have i0 : (0 : Int) ≤ (k : Int) := by omega
      have i1 : (k : Int) < (n : Int) := by omega
      have i2 : ¬ (n : Int) ≤ (k : Int) := by omega
      have i3 : ¬ N < 1 := by omega
      have i4 : (N == 0) = false := by rw [beq_eq_false_iff_ne]; omega
      have i5 : N ≠ 0 := by omega
      go_enter Try.func17, Try.ntmps17
      go_wp2
      go_ret
      exact ⟨_, rfl, Int.emod_nonneg _ i5, Int.emod_lt_of_pos _ (show 0 < N by omega), rfl⟩
  · have i2 : (n : Int) ≤ (k : Int) := by omega
    go_enter Try.func17, Try.ntmps17
    go_wp2
    go_ret
    exact ⟨0, rfl, by omega, by omega, rfl⟩
theorem owns_keepX {g base e n size : Nat} {w w' : World} {v : Value} {xs : List Value} (hb : v.ownBlock ≠ some g) (o : w.ownsRow base e size v n xs) (k : Keep w.heap.size (· = g) w w') : w'.ownsRow base e size v n xs := by
  refine ⟨o.1, ?_⟩
  rcases o.2 with h0 | ⟨c, cap, cur, hv, hc, hh, r⟩
  · exact Or.inl h0
  · subst hv
    exact Or.inr ⟨c, cap, cur, rfl, hc, k.hold (fun e => hb (by rw [← e]; rfl)) hh, r⟩
theorem rg_rangeG {kf : Nat → List Int} (hk : ∀ i, ∀ z ∈ kf i, 0 ≤ z ∧ z ≤ 255) : ∀ (n b : Nat) (i j : Int), 1 ≤ n → ∀ z ∈ rg kf b n i j, 0 ≤ z ∧ z ≤ 255 := by
  intro n
  induction n using Nat.strongRecOn with
  | _ n ih =>
    intro b i j h1 z hz
    by_cases h : j ≤ 0 ∨ (n : Int) ≤ i
    · rw [rg_miss h] at hz
      exact tkey_range h1 (fun k _ => hk _) z hz
    · by_cases h2 : n ≤ 1 ∨ (i ≤ 0 ∧ (n : Int) ≤ j)
      · rw [rg_in h h2] at hz
        exact absurd hz (by simp)
      · have a1 := half_pos n
        have a2 := half_lt (n := n) (by omega)
        rw [rg_two h h2] at hz
        rcases List.mem_append.1 hz with hz | hz
        · exact ih _ a2 b i j a1 z hz
        · exact ih _ (by omega) _ _ _ (by omega) z hz
theorem one_of_heapG {w : World} {x : Nat} {t : TypeId} {size : Nat} {c : Array Value} (h : w.heap[x]? = some (.cells c t)) (hc : c.size = size) : w.ownsRow x t size (.slice (some ⟨x, 0, none⟩) 1 1) 1 c.toList :=
  ⟨by simp [hc], Or.inr ⟨x, 1, c, rfl, Nat.le_refl _, h, Nat.le_refl _, by unfold maxLen; omega, by omega, by rw [List.take_of_length_le (by simp [hc])]⟩⟩
theorem owned_formG {w : World} {base n size : Nat} {e : TypeId} {v : Value} {xs : List Value} (h : w.ownsRow base e size v n xs) (h0 : 0 < n) : ∃ b c, v = .slice (some ⟨b, 0, none⟩) n c ∧ n ≤ c ∧ c ≤ maxLen ∧ base ≤ b := by
  rcases h.2 with ⟨rfl, h1⟩ | ⟨g, cap, cur, rfl, hb, hg, hc, hm, r⟩
  · omega
  · exact ⟨g, cap, rfl, hc, hm, hb⟩
theorem xor_rangeT (x y : Int) (h0 : 0 ≤ x) (h1 : x ≤ 255) (g0 : 0 ≤ y) (g1 : y ≤ 255) : 0 ≤ bits BinOp.xor IntKind.u8 x y ∧ bits BinOp.xor IntKind.u8 x y ≤ 255 := by
  have h := u8_xor x y h0 (by omega) g0 (by omega)
  rw [h]
  have : x.toNat ^^^ y.toNat < 2 ^ 8 := Nat.xor_lt_two_pow (by omega) (by omega)
  omega
theorem RdK_set {w : World} {b o n k : Nat} {fl : List Int} {z : Int} (h : RdK w (some ⟨b, o, none⟩) n fl) (hk : k < 32 * n) : RdK (w.setCell ⟨b, o + k, none⟩ (.int .u8 z)) (some ⟨b, o, none⟩) n (fl.set k z) := by
  obtain ⟨hl, h2⟩ := h
  refine ⟨by rw [List.length_set]; exact hl, ?_⟩
  rcases h2 with h0 | ⟨b', o', e, hb, hc⟩
  · omega
  · cases e
    have hlt := World.block_lt_of_cell? w _ (hc k hk)
    refine Or.inr ⟨b, o, rfl, by simpa using hlt, fun j hj => ?_⟩
    by_cases hjk : j = k
    · subst hjk
      rw [List.getElem?_set_self (by omega), World.cell?_setCell_same _ _ _ (hc j hj)]
      rfl
    · rw [List.getElem?_set_ne (fun e => hjk e.symm), World.cell?_setCell_other _ _ _ _ (by intro e; injection e; omega)]
      exact hc j hj
set_option maxHeartbeats 1000000 in
theorem wpList_append_rowsT {P : Program} {ops : Array Oper} {rest : List Oper} {w : World} {o : Oper} {a : Act} {Q : Exit → Act → World → Prop} (hgd : o.guard = none) {base base2 : Nat} (s x : Operand) (t : TypeId)
    (ho : o.op = .call { callee := .builtin .append, args := #[s, x], argTypes := #[t, t] }) (e : TypeId) (i : TypeInfo) (z : Value) (size bytes : Nat) (ht : P.underlying t = some (.slice e)) (hi : P.info? e = some i) (hz : i.zero = some z)
    (hsize : i.size = size) (hby : i.bytes = bytes) (hzs : z.cells.size = size) (hsz : 0 < size) (v : Value) (n : Nat) (xs : List Value) (hs : a.eval s = v) (hown : w.ownsRow base e size v n xs)
    (u : Value) (m : Nat) (ys : List Value) (hx : a.eval x = u) (hown2 : w.ownsRow base2 e size u m ys) (h1 : ∀ y ∈ ys, y.oneCell' = true) (h63 : n + m ≤ maxLen) (hbytes : (n + m) * bytes ≤ 140737488355328) (hbase : base ≤ w.heap.size)
    (h : ∀ v' w', w'.ownsRow base e size v' (n + m) (xs ++ ys) → w.grownBy w' v.ownBlock → wpList P ops Q rest (a.put o.dst v') w') : wpList P ops Q (o :: rest) a w := by
  obtain ⟨v', w', hr, h2, h3⟩ := run_append_rows (P := P) t o.type e i z size bytes ht hi hz hsize hby hzs hsz v n xs hown u m ys hown2 h1 h63 hbytes hbase
  exact wpList_append_ran hgd s x t t ho v u hs hx hr (h v' w' h2 h3)
end Go.Proofs.Ytjijgckljjcfiaa
