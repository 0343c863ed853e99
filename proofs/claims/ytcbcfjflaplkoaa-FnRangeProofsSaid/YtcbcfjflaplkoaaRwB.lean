/- Tools of a walk that draws: a2At, and what is owned. Written by wip/gen/rwl.py. -/
import Derived.BigQuiet
import Derived.Laws.Bits64b
import Derived.Test.YtcbcfjflaplkoaaWalk
import Derived.Test.YtcbcfjflaplkoaaRd
import Derived.Test.YtcbcfjflaplkoaaKeys
import Derived.Test.YtcbcfjflaplkoaaBytes
import Derived.Test.YtcbcfjflaplkoaaPad
import Derived.Test.YtcbcfjflaplkoaaStack
import Derived.Laws.Cover3
import Derived.Test.YtcbcfjflaplkoaaLast
import Derived.Test.YtcbcfjflaplkoaaHash
import Derived.Test.YtcbcfjflaplkoaaPeaksI
import Derived.Test.YtcbcfjflaplkoaaEq
import Derived.Test.YtcbcfjflaplkoaaPopO
import Derived.Test.YtcbcfjflaplkoaaDepth
import Derived.Test.YtcbcfjflaplkoaaClM
import Derived.Laws.BitsAllLaws
import Derived.Test.YtcbcfjflaplkoaaListK
namespace Go.Proofs.Ytcbcfjflaplkoaa
open Go.ChangeShapes Go.WideShapes Go.ChangeAt Go.RowKit
set_option linter.unusedVariables false
set_option linter.unusedSimpArgs false
/-- Bytes that can be read, in a block below g. -/
def SrcR (g n : Nat) (a : Option Addr) (W : World) : Prop := 0 < n → ∃ b o, a = some ⟨b, o, none⟩ ∧ b < g ∧ ∀ j, j < n → ∃ z : Int, 0 ≤ z ∧ z ≤ 255 ∧ W.cell? ⟨b, o + j, none⟩ = some (.int .u8 z)
/-- A source, at a place. -/
def Src (g at' : Nat) (W : World) : Prop := ∃ a n c s, W.heap[g]? = some (.cells #[.slice a n c, .int .i64 (at' : Int), .int .u64 s] 131) ∧ n ≤ 1048576 ∧ 0 ≤ s ∧ s ≤ 18446744073709551615 ∧ SrcR g n a W
theorem cell_same {w w' : World} {b o : Nat} (h : w'.heap[b]? = w.heap[b]?) : w'.cell? ⟨b, o, none⟩ = w.cell? ⟨b, o, none⟩ := by
  unfold World.cell?
  simp only [h]
theorem SrcR.keep {g n B : Nat} {a : Option Addr} {w w' : World} (h : SrcR g n a w) (hg : g ≤ B) (k : Keep B (· = g) w w') : SrcR g n a w' := fun hn => by
  obtain ⟨b, o, e, hb, hz⟩ := h hn
  exact ⟨b, o, e, hb, fun j hj => by
    obtain ⟨z, h0, h1, hc⟩ := hz j hj
    exact ⟨z, h0, h1, (cell_same (k.block b (by omega) (by omega))).trans hc⟩⟩
theorem Keep.cellS {B : Nat} {X : Nat → Prop} {w : World} {p : Addr} {v : Value} (hx : X p.block) : Keep B X w (w.setCell p v) :=
  ⟨rfl, rfl, rfl, by simp [World.setCell], fun k _ hk => heap_setCell_other w p k v (fun h => hk (h ▸ hx))⟩
theorem Src.lt {g at' : Nat} {w : World} (h : Src g at' w) : g < w.heap.size := by
  obtain ⟨a, n, c, s, hb, _⟩ := h
  exact (Array.getElem?_eq_some_iff.1 hb).1
theorem Src.below {g at' B : Nat} {w w' : World} (h : Src g at' w) (hB : g < B) (hb : Below B w w') : Src g at' w' := by
  obtain ⟨a, n, c, s, hx, h1, h2, h3, h4⟩ := h
  exact ⟨a, n, c, s, (hb.block g hB).trans hx, h1, h2, h3, h4.keep (Nat.le_of_lt hB) (Keep.of _ hb)⟩
theorem wrap_u64_range (n : Int) : 0 ≤ IntKind.u64.wrap n ∧ IntKind.u64.wrap n ≤ 18446744073709551615 := by
  simp [IntKind.wrap, IntKind.signed, IntKind.bits]
  omega
theorem low_byte (x : Int) (h0 : 0 ≤ x) (h1 : x ≤ 18446744073709551615) : 0 ≤ wrap64 (bits BinOp.and IntKind.u64 x 255) ∧ wrap64 (bits BinOp.and IntKind.u64 x 255) ≤ 255 := by
  have h := bits_and_u64_nat x.toNat 255 (by omega) (by omega)
  rw [Int.toNat_of_nonneg h0] at h
  have e : bits BinOp.and IntKind.u64 x 255 = ((x.toNat &&& 255 : Nat) : Int) := h
  have hl : x.toNat &&& 255 ≤ 255 := Nat.and_le_right
  rw [e]
  unfold wrap64
  omega
theorem src_after {g at' n c : Nat} {a : Option Addr} {s s' : Int} {W : World} (k k2 : Nat) (hb : W.heap[g]? = some (.cells #[.slice a n c, .int .i64 (at' : Int), .int .u64 s] 131)) (hn : n ≤ 1048576) (hr : SrcR g n a W) (h0 : 0 ≤ s') (h1 : s' ≤ 18446744073709551615) :
    Src g (at' + 1) ((((W.drewN k).setCell ⟨g, 1, none⟩ (.int .i64 ((at' : Int) + 1))).setCell ⟨g, 2, none⟩ (.int .u64 s')).drewN k2) ∧ Keep W.heap.size (· = g) W ((((W.drewN k).setCell ⟨g, 1, none⟩ (.int .i64 ((at' : Int) + 1))).setCell ⟨g, 2, none⟩ (.int .u64 s')).drewN k2) := by
  have d1 : (W.drewN k).heap[g]? = some (.cells #[.slice a n c, .int .i64 (at' : Int), .int .u64 s] 131) := hb
  have d2 := heap_setCell_same (W.drewN k) g 1 _ _ (.int .i64 ((at' : Int) + 1)) d1
  have d3 := heap_setCell_same _ g 2 _ _ (.int .u64 s') d2
  have K : Keep W.heap.size (· = g) W ((((W.drewN k).setCell ⟨g, 1, none⟩ (.int .i64 ((at' : Int) + 1))).setCell ⟨g, 2, none⟩ (.int .u64 s')).drewN k2) :=
    (((Keep.of _ (below_drewN (Below.refl _ _) k)).trans (Keep.cellS (X := (· = g)) (p := ⟨g, 1, none⟩) (v := .int .i64 ((at' : Int) + 1)) rfl)).trans (Keep.cellS (X := (· = g)) (p := ⟨g, 2, none⟩) (v := .int .u64 s') rfl)).trans (Keep.of _ (below_drewN (Below.refl _ _) k2))
  refine ⟨⟨a, n, c, s', ?_, hn, h0, h1, hr.keep (Nat.le_of_lt (Array.getElem?_eq_some_iff.1 hb).1) K⟩, K⟩
  have e : ((at' + 1 : Nat) : Int) = (at' : Int) + 1 := by omega
  rw [e]
  exact d3
set_option maxRecDepth 100000 in
set_option maxHeartbeats 2000000 in
theorem next_src (g at' : Nat) (hat : at' ≤ 1000000) (W : World) (hs : Src g at' W) :
    Calls Try.prog 101 #[.pointer (some ⟨g, 0, none⟩)] W fun x w' => ∃ b : Int, x = .returned (.int .i64 b) ∧ 0 ≤ b ∧ b ≤ 255 ∧ Src g (at' + 1) w' ∧ Keep W.heap.size (· = g) W w' := by
  have hlt := hs.lt
  obtain ⟨a, n, c, s, hb, hn, s0, s1, hr⟩ := hs
  have c0 : W.cell? ⟨g, 0, none⟩ = some (.slice a n c) := (cell_of_row W g 0 _ _ _ hb).trans rfl
  have c1 : W.cell? ⟨g, 1, none⟩ = some (.int .i64 (at' : Int)) := (cell_of_row W g 1 _ _ _ hb).trans rfl
  have c2 : W.cell? ⟨g, 2, none⟩ = some (.int .u64 s) := (cell_of_row W g 2 _ _ _ hb).trans rfl
  have f1 : W.frozen? ⟨g, 1, none⟩ = false := frozen_of_row W g 1 _ _ hb
  have f2 : W.frozen? ⟨g, 2, none⟩ = false := frozen_of_row W g 2 _ _ hb
  have HB := Lib.hid hb
  have HR := Lib.hid hr
  clear hb hr
  by_cases h : at' < n
  · obtain ⟨b, o, rfl, hbg, hz⟩ := HR.out (by omega)
    obtain ⟨z, z0, z1, hc⟩ := hz at' h
    have k1 : (at' : Int) < (n : Int) := by omega
    have k2 : (0 : Int) ≤ (at' : Int) := by omega
    have k3 : (at' : Int) + 1 ≤ (n : Int) := by omega
    go_enter Try.func101, Try.ntmps101
    go_wp2
    go_quiet (fail)
    go_wp2
    go_quiet (fail)
    go_wp2
    go_quiet (fail)
    go_wp2
    go_ret
    exact ⟨z, rfl, z0, z1, src_after _ _ HB.out hn HR.out (wrap_u64_range _).1 (wrap_u64_range _).2⟩
  · have k1 : ¬ (at' : Int) < (n : Int) := by omega
    have k2 : (0 : Int) ≤ (at' : Int) := by omega
    have k3 : ¬ (at' : Int) + 1 ≤ (n : Int) := by omega
    go_enter Try.func101, Try.ntmps101
    go_wp2
    go_quiet (fail)
    go_wp2
    go_quiet (fail)
    go_wp2
    go_ret
    have hw := wrap_u64_range (IntKind.u64.wrap (IntKind.u64.wrap (s * 6364136223846793005)) + 1442695040888963407)
    have hl := low_byte (IntKind.u64.wrap (IntKind.u64.wrap (IntKind.u64.wrap (s * 6364136223846793005)) + 1442695040888963407) / 1099511627776) (by omega) (by omega)
    exact ⟨_, rfl, hl.1, hl.2, src_after _ _ HB.out hn HR.out hw.1 hw.2⟩
set_option maxHeartbeats 2000000 in
theorem from_src (a : Option Addr) (n c : Nat) (l : List Int) (hn : n ≤ 1048576) (hl : ∀ z ∈ l, 0 ≤ z ∧ z ≤ 255) (w : World) (hr : Rd .u8 w a n l) :
    Calls Try.prog 57 #[.slice a n c] w fun x w' => x = .returned (.pointer (some ⟨w.heap.size, 0, none⟩)) ∧ Src w.heap.size 0 w' ∧ Below w.heap.size w w' := by
  have B := Lib.hid ((Below.refl w.heap.size w).alloc (Nat.le_refl _) (.cells #[.slice a n c, .int .i64 0, .int .u64 0] 131))
  have G := Lib.hid (heap_alloc_last w (.cells #[.slice a n c, .int .i64 0, .int .u64 0] 131))
  have R : Hid (SrcR w.heap.size n a w) := Lib.hid (fun h0 => by
    obtain ⟨h1, h2⟩ := hr
    rcases h2 with h2 | ⟨b, o, e, hb, hc⟩
    · omega
    · refine ⟨b, o, e, hb, fun j hj => ⟨l[j]'(by omega), (hl _ (List.getElem_mem _)).1, (hl _ (List.getElem_mem _)).2, ?_⟩⟩
      rw [hc j hj]
      simp [List.getElem?_eq_getElem (show j < l.length by omega)])
  clear hr
  go_enter Try.func57, Try.ntmps57
  go_wp2
  go_ret
  exact ⟨rfl, ⟨a, n, c, 0, G.out, hn, by omega, by omega, R.out.keep (Nat.le_refl _) (Keep.of _ B.out)⟩, B.out⟩
set_option maxRecDepth 100000 in
set_option maxHeartbeats 2000000 in
theorem pick_src (g at' : Nat) (n : Int) (h1 : 1 ≤ n) (h2 : n ≤ 1000000) (hat : at' ≤ 999000) (W : World) (hs : Src g at' W) :
    Calls Try.prog 58 #[.pointer (some ⟨g, 0, none⟩), .int .i64 n] W fun x w' => ∃ (r : Int) (at2 : Nat), x = .returned (.int .i64 r) ∧ 0 ≤ r ∧ r < n ∧ at2 ≤ at' + 2 ∧ Src g at2 w' ∧ Keep W.heap.size (· = g) W w' := by
  have HS := Lib.hid hs
  have Hn := Lib.hid (next_src g at' (by omega) W hs)
  have Hn2 := Lib.hid (fun U h => next_src g (at' + 1) (by omega) U h)
  clear hs
  by_cases k1 : n ≤ 1
  · go_enter Try.func58, Try.ntmps58
    go_wp2_with fail
    go_ret
    exact ⟨0, at', rfl, by omega, by omega, by omega, HS.out, Keep.refl _ _ _⟩
  · have k3 : (n == 0) = false := by rw [beq_eq_false_iff_ne]; omega
    have k4 : n ≠ 0 := by omega
    by_cases k2 : 200 < n
    · go_enter Try.func58, Try.ntmps58
      go_wp2_with fail
      refine Hn.out.mono ?_
      rintro x w1 ⟨b, rfl, b0, b1, hs1, hk1⟩
      have S1 := Lib.hid hs1
      have K1 := Lib.hid hk1
      clear hs1 hk1
      go_wp2_with fail
      refine (Hn2.out _ S1.out).mono ?_
      rintro x w2 ⟨d, rfl, d0, d1, hs2, hk2⟩
      have S2 := Lib.hid hs2
      have K2 := Lib.hid (K1.out.trans (hk2.mono K1.out.size))
      clear hs2 hk2
      go_wp2_with fail
      go_ret
      refine ⟨_, at' + 1 + 1, rfl, ?_, ?_, by omega, S2.out, K2.out⟩
      · exact Int.emod_nonneg _ k4
      · exact Int.emod_lt_of_pos _ (by omega)
    · go_enter Try.func58, Try.ntmps58
      go_wp2_with fail
      refine Hn.out.mono ?_
      rintro x w1 ⟨b, rfl, b0, b1, hs1, hk1⟩
      have S1 := Lib.hid hs1
      have K1 := Lib.hid hk1
      clear hs1 hk1
      go_wp2_with fail
      go_ret
      refine ⟨_, at' + 1, rfl, ?_, ?_, by omega, S1.out, K1.out⟩
      · exact Int.emod_nonneg _ k4
      · exact Int.emod_lt_of_pos _ (by omega)
set_option maxHeartbeats 2000000 in
theorem one_src (g at' : Nat) (n : Int) (h1 : 1 ≤ n) (h2 : n ≤ 1000000) (hat : at' ≤ 999000) (W : World) (hs : Src g at' W) :
    Calls Try.prog 127 #[.pointer (some ⟨g, 0, none⟩), .int .i64 n] W fun x w' => ∃ (r : Bool) (at2 : Nat), x = .returned (.bool r) ∧ at2 ≤ at' + 2 ∧ Src g at2 w' ∧ Keep W.heap.size (· = g) W w' := by
  have Hp := Lib.hid (pick_src g at' n h1 h2 hat W hs)
  clear hs
  go_enter Try.func127, Try.ntmps127
  go_wp2_with fail
  refine Hp.out.mono ?_
  rintro x w1 ⟨r, at2, rfl, r0, r1, ha, hs1, hk1⟩
  go_wp2_with fail
  go_ret
  exact ⟨_, at2, rfl, ha, hs1, hk1⟩
end Go.Proofs.Ytcbcfjflaplkoaa
namespace Go.Proofs.Ytcbcfjflaplkoaa
open Go.ChangeShapes Go.WideShapes Go.ChangeAt Go.RowKit
set_option linter.unusedVariables false
set_option maxHeartbeats 1000000 in
theorem markA0 (a : Option Addr) (cap : Nat) (k0 : Int) (w : World) :
    Calls Try.prog 39 #[.slice a 0 cap, .int .i64 k0] w fun e w' => e = .returned (.int .i64 k0) ∧ w' = w := by
  go_enter Try.func39, Try.ntmps39
  go_wp2
  refine wp_loop_rounds 1 ?_
  rw [rounds_succ]
  go_wp2
  go_ret
  exact ⟨rfl, rfl⟩
set_option maxHeartbeats 1000000 in
theorem heldA0 (a : Option Addr) (cap : Nat) (k0 : Int) (w : World) :
    Calls Try.prog 40 #[.slice a 0 cap, .int .i64 k0] w fun e w' => e = .returned (.int .i64 k0) ∧ w' = w := by
  go_enter Try.func40, Try.ntmps40
  go_wp2
  refine wp_loop_rounds 1 ?_
  rw [rounds_succ]
  go_wp2
  go_ret
  exact ⟨rfl, rfl⟩
set_option maxRecDepth 100000 in
set_option maxHeartbeats 2000000 in
theorem markA (g n cap : Nat) (cur : Array Value) (k0 : Int) (h0 : 0 ≤ k0) (h1 : k0 ≤ 1099511627776) (hn : n ≤ 1048576) (hs : 32 * n ≤ cur.size) (w : World) (hg : w.heap[g]? = some (.cells cur 28)) :
    Calls Try.prog 39 #[.slice (some ⟨g, 0, none⟩) n cap, .int .i64 k0] w fun e w' => e = .returned (.int .i64 (k0 + (32 * n : Nat))) ∧ RdK w' (some ⟨g, 0, none⟩) n (markL k0 (32 * n)) ∧ Keep w.heap.size (· = g) w w' := by
  have Hg := Lib.hid hg
  clear hg
  go_enter Try.func39, Try.ntmps39
  go_wp2
  go_loopw [1, 5] (fun m i wr => ∃ k : Nat, k ≤ n ∧ i = .int .i64 k ∧ m = .int .i64 (k0 + (32 * k : Nat)) ∧ (∃ ck : Array Value, wr.heap[g]? = some (.cells ck 28) ∧ ck.size = cur.size ∧ ∀ j, j < 32 * k → ck[j]? = some (.int .u8 ((markL k0 (32 * n))[j]?.getD 0))) ∧ Keep w.heap.size (· = g) w wr) (fun _ i _ => n - (intOf i).toNat)
  case atStart => exact ⟨0, by omega, rfl, by simp, ⟨cur, Hg.out, rfl, fun j hj => by omega⟩, Keep.refl _ _ _⟩
  case round =>
    obtain ⟨k, hk, rfl, rfl, ⟨ck, hh, hsz, hck⟩, hb⟩ := hrel
    have HB := Lib.hid hb
    have HK := Lib.hid hck
    have HH := Lib.hid hh
    clear hb hck hh
    by_cases hlt : k < n
    · go_wp2
      go_loopw [1, 6] (fun m i wr => ∃ q : Nat, q ≤ 32 ∧ i = .int .i64 q ∧ m = .int .i64 (k0 + (32 * k + q : Nat)) ∧ (∃ ck : Array Value, wr.heap[g]? = some (.cells ck 28) ∧ ck.size = cur.size ∧ ∀ j, j < 32 * k + q → ck[j]? = some (.int .u8 ((markL k0 (32 * n))[j]?.getD 0))) ∧ Keep w.heap.size (· = g) w wr) (fun _ i _ => 32 - (intOf i).toNat)
      case atStart => exact ⟨0, by omega, rfl, rfl, ⟨ck, HH.out, hsz, HK.out⟩, HB.out⟩
      case round =>
        obtain ⟨q, hq, rfl, rfl, ⟨ck2, hh2, hsz2, hck2⟩, hb2⟩ := hrel
        have HB2 := Lib.hid hb2
        have HK2 := Lib.hid hck2
        have HH2 := Lib.hid hh2
        clear hb2 hck2 HK HH HB
        by_cases hlt2 : q < 32
        · have c1 := cell_of_row _ g (k * 32 + q) _ _ _ hh2
          have f1 := frozen_of_row _ g (k * 32 + q) _ _ hh2
          rw [Array.getElem?_eq_getElem (by omega)] at c1
          generalize ck2[k * 32 + q]'(by omega) = old at c1
          clear hh2
          have HM := Lib.hid (markL_at k0 (32 * n) (k * 32 + q) (by omega))
          generalize hm : k0 + ((k * 32 + q : Nat) : Int) = m at HM
          have hmm : k0 + ((32 * k + q : Nat) : Int) = m := by omega
          have HN := Lib.hid hmm
          rw [hmm]
          have hm0 : 0 ≤ m := by omega
          have hm1 : m ≤ 1099545182208 := by omega
          have b0 : (0 : Int) ≤ (k : Int) := by omega
          have b1 : (k : Int) < (n : Int) := by omega
          have b2 : (0 : Int) ≤ (q : Int) := by omega
          have b3 : (q : Int) < 32 := by omega
          clear hm hmm
          go_wp2
          go_roundw
          case rel =>
            refine ⟨q + 1, by omega, by go_num, by rw [← HN.out]; congr 1; push_cast; omega, ⟨ck2.setIfInBounds (k * 32 + q) (.int .u8 (m % 256)), ?_, by simp; exact hsz2, fun j hj => ?_⟩, HB2.out.trans (Keep.cell rfl)⟩
            · exact heap_setCell_same _ _ _ _ _ _ HH2.out
            · by_cases hjk : j = k * 32 + q
              · subst hjk
                rw [Array.getElem?_setIfInBounds_self_of_lt (by omega), HM.out]
              · rw [Array.getElem?_setIfInBounds_ne (by omega)]
                exact HK2.out j (by omega)
          case measure => simp [intOf]; omega
        · obtain rfl : q = 32 := by omega
          have b0 : (0 : Int) ≤ (k : Int) := by omega
          have b1 : (k : Int) < (n : Int) := by omega
          have hm0 : 0 ≤ k0 + ((32 * k + 32 : Nat) : Int) := by omega
          generalize hm : k0 + ((32 * k + 32 : Nat) : Int) = m at hm0
          have HQ := Lib.hid hm
          clear hm
          go_wp2
          go_roundw
          case rel => exact ⟨k + 1, by omega, by go_num, by congr 1; have := HQ.out; omega, ⟨ck2, HH2.out, hsz2, fun j hj => HK2.out j (by omega)⟩, HB2.out⟩
          case measure => simp [intOf]; omega
    · obtain rfl : k = n := by omega
      have hm0 : 0 ≤ k0 + ((32 * k : Nat) : Int) := by omega
      generalize hm : k0 + ((32 * k : Nat) : Int) = m at hm0
      go_wp2
      go_ret
      exact ⟨by show Ending.returned (Value.int .i64 m) = _; rw [← hm], ⟨by rw [markL_len], Or.inr ⟨g, 0, rfl, (Array.getElem?_eq_some_iff.1 HH.out).1, fun j hj => by rw [Nat.zero_add, cell_of_row _ g j _ _ _ HH.out]; exact HK.out j hj⟩⟩, HB.out⟩
set_option maxRecDepth 100000 in
set_option maxHeartbeats 2000000 in
theorem heldA (a : Option Addr) (n cap : Nat) (k0 : Int) (h0 : 0 ≤ k0) (h1 : k0 ≤ 1099511627776) (hn : n ≤ 1048576) (w : World) (hr : RdK w a n (markL k0 (32 * n))) :
    Calls Try.prog 40 #[.slice a n cap, .int .i64 k0] w fun e w' => e = .returned (.int .i64 (k0 + (32 * n : Nat))) ∧ w' = w := by
  by_cases hz : n = 0
  · subst hz
    simpa using heldA0 a cap k0 w
  obtain ⟨_, hr⟩ := hr
  obtain ⟨g, off, rfl, hb, hc⟩ := hr.resolve_left hz
  have HC := Lib.hid hc
  clear hc hr
  go_enter Try.func40, Try.ntmps40
  go_wp2
  go_loopw [1, 5] (fun m i wr => ∃ k : Nat, k ≤ n ∧ i = .int .i64 k ∧ m = .int .i64 (k0 + (32 * k : Nat)) ∧ wr = w) (fun _ i _ => n - (intOf i).toNat)
  case atStart => exact ⟨0, by omega, rfl, by simp, rfl⟩
  case round =>
    obtain ⟨k, hk, rfl, rfl, hw⟩ := hrel
    have HW := Lib.hid hw
    clear hw
    by_cases hlt : k < n
    · go_wp2
      go_loopw [1, 6] (fun m i wr => ∃ q : Nat, q ≤ 32 ∧ i = .int .i64 q ∧ m = .int .i64 (k0 + (32 * k + q : Nat)) ∧ wr = w) (fun _ i _ => 32 - (intOf i).toNat)
      case atStart => exact ⟨0, by omega, rfl, rfl, HW.out⟩
      case round =>
        obtain ⟨q, hq, rfl, rfl, hw⟩ := hrel
        have HW2 := Lib.hid hw
        by_cases hlt2 : q < 32
        · have c1 := HC.out (k * 32 + q) (by omega)
          rw [markL_at k0 (32 * n) (k * 32 + q) (by omega), ← hw, ← Nat.add_assoc] at c1
          generalize hm : k0 + ((k * 32 + q : Nat) : Int) = m at c1
          have hmm : k0 + ((32 * k + q : Nat) : Int) = m := by omega
          have HN := Lib.hid hmm
          rw [hmm]
          have hm0 : 0 ≤ m := by omega
          have hm1 : m ≤ 1099545182208 := by omega
          have b0 : (0 : Int) ≤ (k : Int) := by omega
          have b1 : (k : Int) < (n : Int) := by omega
          have b2 : (0 : Int) ≤ (q : Int) := by omega
          have b3 : (q : Int) < 32 := by omega
          clear hm hmm hw
          go_wp2
          go_roundw
          case rel => exact ⟨q + 1, by omega, by go_num, by rw [← HN.out]; congr 1; push_cast; omega, HW2.out⟩
          case measure => simp [intOf]; omega
        · obtain rfl : q = 32 := by omega
          have b0 : (0 : Int) ≤ (k : Int) := by omega
          have b1 : (k : Int) < (n : Int) := by omega
          have hm0 : 0 ≤ k0 + ((32 * k + 32 : Nat) : Int) := by omega
          generalize hm : k0 + ((32 * k + 32 : Nat) : Int) = m at hm0
          have HQ := Lib.hid hm
          clear hm hw
          go_wp2
          go_roundw
          case rel => exact ⟨k + 1, by omega, by go_num, by congr 1; have := HQ.out; omega, HW2.out⟩
          case measure => simp [intOf]; omega
    · obtain rfl : k = n := by omega
      have hm0 : 0 ≤ k0 + ((32 * k : Nat) : Int) := by omega
      generalize hm : k0 + ((32 * k : Nat) : Int) = m at hm0
      go_wp2
      go_ret
      exact ⟨by show Ending.returned (Value.int .i64 m) = _; rw [← hm], HW.out⟩
theorem owns_setRow {g base e n size : Nat} {w : World} {v : Value} {xs : List Value} {cs : Array Value} (hb : g < base) (o : w.ownsRow base e size v n xs) : (w.setRow g cs).ownsRow base e size v n xs := by
  refine ⟨o.1, ?_⟩
  rcases o.2 with h0 | ⟨c, cap, cur, hv, hc, hh, r⟩
  · exact Or.inl h0
  · exact Or.inr ⟨c, cap, cur, hv, hc, (setRow_other _ _ _ _ (by omega)).trans hh, r⟩
theorem owns_keep {g base e n size : Nat} {w w' : World} {v : Value} {xs : List Value} (hb : g < base) (o : w.ownsRow base e size v n xs) (k : Keep w.heap.size (· = g) w w') : w'.ownsRow base e size v n xs := by
  refine ⟨o.1, ?_⟩
  rcases o.2 with h0 | ⟨c, cap, cur, hv, hc, hh, r⟩
  · exact Or.inl h0
  · exact Or.inr ⟨c, cap, cur, hv, hc, k.hold (g := c) (fun h => by have h' : c = g := h; omega) hh, r⟩
theorem rdk_of_owned {w : World} {base n cap : Nat} {a : Option Addr} {L : List Int} {t : TypeId} (hl : L.length = 32 * n) (h : w.ownsRow base t 32 (.slice a n cap) n (L.map (Value.int .u8))) : RdK w a n L := by
  obtain ⟨a', c', e, r⟩ := RdK.owned hl h
  cases e
  exact r
theorem markKV (a : Option Addr) (n cap base : Nat) (L : List Int) (k0 : Int) (h0 : 0 ≤ k0) (h1 : k0 ≤ 1099511627776) (hn : n ≤ 1048576) (w : World) (ho : w.ownsRow base 28 32 (.slice a n cap) n (L.map (Value.int .u8))) :
    Calls Try.prog 39 #[.slice a n cap, .int .i64 k0] w fun e w' => e = .returned (.int .i64 (k0 + (32 * n : Nat))) ∧ RdK w' a n (markL k0 (32 * n)) ∧ Below base w w' := by
  rcases ho.2 with ⟨h, hz⟩ | ⟨g, c, cur, hv, hb, hg, hc, hm, hs, ht⟩
  · cases h
    exact (markA0 none 0 k0 w).mono fun e w' ⟨he, hw⟩ => ⟨by rw [he]; simp, by rw [hw]; exact ⟨by simp [markL], Or.inl rfl⟩, by rw [hw]; exact Below.refl _ _⟩
  · cases hv
    exact (markA g n cap cur k0 h0 h1 hn (by omega) w hg).mono fun e w' ⟨he, hr, hb'⟩ => ⟨he, hr, hb'.below (Nat.le_of_lt (Nat.lt_of_le_of_lt hb (Array.getElem?_eq_some_iff.1 hg).1)) (fun k e => by have h : k = g := e; omega)⟩
end Go.Proofs.Ytcbcfjflaplkoaa
namespace Go.Proofs.Ytcbcfjflaplkoaa
open Go.ChangeShapes Go.WideShapes Go.ChangeAt Go.RowKit
set_option linter.unusedVariables false
set_option linter.unusedSimpArgs false
theorem keep_below {B g : Nat} {a b c : World} (h : Keep B (· = g) a b) (hb : Below b.heap.size b c) (hB : B ≤ b.heap.size) : Keep B (· = g) a c := h.trans ((Keep.of _ hb).mono hB)
theorem ownsPtrB {w : World} {base e size k c : Nat} {a : Option Addr} {xs : List Value} (h : w.ownsRow base e size (.slice a k c) k xs) (h0 : 0 < k) : ∃ b, a = some ⟨b, 0, none⟩ ∧ base ≤ b := by
  rcases h.2 with ⟨_, h1⟩ | ⟨b, cap, cur, hv, hb, r⟩
  · omega
  · cases hv
    exact ⟨b, rfl, hb⟩
set_option maxRecDepth 100000 in
set_option maxHeartbeats 4000000 in
theorem data_src (g at' : Nat) (most : Nat) (hm : most ≤ 100) (hat : at' ≤ 900000) (W : World) (hs : Src g at' W) :
    Calls Try.prog 103 #[.pointer (some ⟨g, 0, none⟩), .int .i64 (most : Int)] W fun x w' => ∃ (b n c : Nat) (l : List Int) (at2 : Nat), x = .returned (.slice (some ⟨b, 0, none⟩) n c) ∧ Rd .u8 w' (some ⟨b, 0, none⟩) n l ∧ b < w'.heap.size ∧ n ≤ most ∧ (∀ z ∈ l, 0 ≤ z ∧ z ≤ 255) ∧ at2 ≤ at' + 4 + 4 * n ∧ Src g at2 w' ∧ Keep W.heap.size (· = g) W w' := by
  obtain ⟨i0, hi, hz0, hz1, hz2⟩ := info_parts infoU8
  have Hi := Lib.hid hi
  have HG := Lib.hid hs.lt
  have B0 := Lib.hid ((Below.refl W.heap.size W).alloc (Nat.le_refl _) (.cells #[] 5))
  have O0 := Lib.hid (owns_empty W 5 1)
  have HX := Lib.hid (heap_alloc_last W (.cells #[] 5))
  obtain ⟨W1, hW1⟩ : ∃ W1, W.alloc (.cells #[] 5) = W1 := ⟨_, rfl⟩
  have HSZ : Hid (W1.heap.size = W.heap.size + 1) := Lib.hid (by rw [← hW1]; simp)
  rw [hW1] at B0 O0 HX
  have S0 := Lib.hid (hs.below HG.out B0.out)
  have m0 : (0 : Int) ≤ (most : Int) := by omega
  have m1 : (most : Int) ≤ 100 := by omega
  have Ho := Lib.hid (one_src g at' 2 (by omega) (by omega) (by omega) W1 S0.out)
  have Hp := Lib.hid (fun at2 (h : at2 ≤ 990000) U hU => pick_src g at2 ((most : Int) + 1) (by omega) (by omega) (by omega) U hU)
  have H256 := Lib.hid (fun at2 (h : at2 ≤ 990000) U hU => pick_src g at2 256 (by omega) (by omega) (by omega) U hU)
  have H3 := Lib.hid (fun at2 (h : at2 ≤ 990000) U hU => pick_src g at2 3 (by omega) (by omega) (by omega) U hU)
  clear hi hs
  go_enter Try.func103, Try.ntmps103
  go_wp2_with fail
  clear hW1
  refine Ho.out.mono ?_
  rintro x w2 ⟨few, at2, rfl, ha2, hs2, hk2⟩
  have S2 := Lib.hid hs2
  have K2 := Lib.hid ((Keep.of (· = g) B0.out).trans (hk2.mono B0.out.size))
  have O2 := Lib.hid (owns_keep HG.out O0.out hk2)
  have HK2 := Lib.hid hk2.size
  clear hs2 hk2
  go_wp2_with fail
  refine (Hp.out at2 (by omega) _ S2.out).mono ?_
  rintro x w3 ⟨r, at3, rfl, r0, r1, ha3, hs3, hk3⟩
  obtain ⟨K, rfl⟩ := Int.eq_ofNat_of_zero_le r0
  have S3 := Lib.hid hs3
  have K3 := Lib.hid (K2.out.trans (hk3.mono K2.out.size))
  have O3 := Lib.hid (owns_keep HG.out O2.out hk3)
  have HK : K ≤ most := by omega
  have HA3 : at3 ≤ at' + 4 := by omega
  have HLT : Hid (W.heap.size < w3.heap.size) := Lib.hid (by have := HSZ.out; have := hk3.size; have := HK2.out; omega)
  clear hs3 hk3 r0 r1 ha3 ha2
  go_wp2_with fail
  go_loopw [5, 7] (fun ov kv wr => ∃ (k j at4 : Nat) (l : List Int), k + j = K ∧ kv = .int .i64 (k : Int) ∧ at4 ≤ at' + 4 + 4 * j ∧ (∃ a c, ov = .slice a j c) ∧ (j = 0 → ov = .slice (some ⟨W.heap.size, 0, none⟩) 0 0) ∧ l.length = j ∧ (∀ z ∈ l, 0 ≤ z ∧ z ≤ 255) ∧ wr.ownsRow W.heap.size 5 1 ov j (l.map (Value.int .u8)) ∧ Src g at4 wr ∧ W.heap.size < wr.heap.size ∧ Keep W.heap.size (· = g) W wr) (fun _ kv _ => (intOf kv).toNat)
  case atStart => exact ⟨K, 0, at3, [], by omega, rfl, by omega, ⟨_, _, rfl⟩, fun _ => rfl, rfl, by simp, O3.out, S3.out, HLT.out, K3.out⟩
  case round =>
    clear O0 O2 O3 S2 S3 K2 K3 HX S0 Ho
    obtain ⟨k, j, at4, l, hkj, rfl, ha4, ⟨a, c, rfl⟩, hj0, hl, hlr, hown, hs4, hsz4, hk4⟩ := hrel
    have O4 := Lib.hid hown
    have S4 := Lib.hid hs4
    have K4 := Lib.hid hk4
    have HL := Lib.hid hl
    have HLR := Lib.hid hlr
    have HZ4 := Lib.hid hsz4
    have HJ0 := Lib.hid hj0
    clear hown hs4 hk4 hl hlr hsz4 hj0
    by_cases hk : 0 < k
    · have k1 : (0 : Int) < (k : Int) := by omega
      go_wp2_with fail
      refine (H256.out at4 (by omega) _ S4.out).mono ?_
      rintro x w5 ⟨b, at5, rfl, b0, b1, ha5, hs5, hk5⟩
      have S5 := Lib.hid hs5
      have K5 := Lib.hid (K4.out.trans (hk5.mono K4.out.size))
      have O5 := Lib.hid (owns_keep HG.out O4.out hk5)
      have HZ5 : Hid (W.heap.size < w5.heap.size) := Lib.hid (by have := HZ4.out; have := hk5.size; omega)
      clear hs5 hk5
      have b2 : b ≤ 255 := by omega
      cases few with
      | false =>
        go_wp2_with (at_builtin; refine wpList_append_own _ rfl _ _ 22 rfl W.heap.size 5 i0 (.int .u8 0) 1 1 Try.underlying22 Hi.out hz0 hz1 hz2 rfl (by decide) _ j _ rfl (O5.out.alloc _) ⟨w5.heap.size, 0, none⟩ 1 1 [.int .u8 b] rfl rfl ?c1 ?c2 ?c3 ?c4 ?c5 ?_)
        case c1 => exact new_cell _ _ _
        case c2 => simp [Value.oneCell']
        case c3 => unfold maxLen; omega
        case c4 => omega
        case c5 => have := HZ5.out; simp; omega
        intro v7 w7 hown7 hgrow7 hnil7
        have LB := ((Below.refl W.heap.size w5).alloc (by have := HZ5.out; omega) (.cells #[.int .u8 b] 5)).grown hgrow7 (by have := HZ5.out; simp; omega) (fun g e => (O5.out.lt g e).1)
        have S7 := Lib.hid (S5.out.below HG.out LB)
        have K7 := Lib.hid (K5.out.trans (Keep.of _ LB))
        have O7 := Lib.hid (show w7.ownsRow W.heap.size 5 1 v7 (j + 1) ((l ++ [b]).map (Value.int .u8)) by rw [List.map_append]; exact hown7)
        have HZ7 : Hid (W.heap.size < w7.heap.size) := Lib.hid (by have := HZ5.out; have := LB.size; omega)
        clear LB hgrow7 hnil7
        obtain ⟨a7, c7, hv7⟩ := owns_slc hown7
        subst hv7
        clear hown7
        go_wp2_with fail
        go_roundw
        case rel => exact ⟨k - 1, j + 1, at5, l ++ [b], by omega, by congr 1; omega, by omega, ⟨_, _, rfl⟩, fun h => absurd h (by omega), by rw [List.length_append, HL.out]; rfl, (fun z hz => by
          rcases List.mem_append.1 hz with hz | hz
          · exact HLR.out z hz
          · rw [List.mem_singleton.1 hz]; omega), O7.out, S7.out, HZ7.out, K7.out⟩
        case measure => simp [intOf]; omega
      | true =>
        go_wp2_with fail
        refine (H3.out at5 (by omega) _ S5.out).mono ?_
        rintro x w6 ⟨b', at6, rfl, b0', b1', ha6, hs6, hk6⟩
        have S6 := Lib.hid hs6
        have K6 := Lib.hid (K5.out.trans (hk6.mono K5.out.size))
        have O6 := Lib.hid (owns_keep HG.out O5.out hk6)
        have HZ6 : Hid (W.heap.size < w6.heap.size) := Lib.hid (by have := HZ5.out; have := hk6.size; omega)
        clear hs6 hk6
        have b2' : b' ≤ 255 := by omega
        go_wp2_with (at_builtin; refine wpList_append_own _ rfl _ _ 22 rfl W.heap.size 5 i0 (.int .u8 0) 1 1 Try.underlying22 Hi.out hz0 hz1 hz2 rfl (by decide) _ j _ rfl (O6.out.alloc _) ⟨w6.heap.size, 0, none⟩ 1 1 [.int .u8 b'] rfl rfl ?c1 ?c2 ?c3 ?c4 ?c5 ?_)
        case c1 => exact new_cell _ _ _
        case c2 => simp [Value.oneCell']
        case c3 => unfold maxLen; omega
        case c4 => omega
        case c5 => have := HZ6.out; simp; omega
        intro v7 w7 hown7 hgrow7 hnil7
        have LB := ((Below.refl W.heap.size w6).alloc (by have := HZ6.out; omega) (.cells #[.int .u8 b'] 5)).grown hgrow7 (by have := HZ6.out; simp; omega) (fun g e => (O6.out.lt g e).1)
        have S7 := Lib.hid (S6.out.below HG.out LB)
        have K7 := Lib.hid (K6.out.trans (Keep.of _ LB))
        have O7 := Lib.hid (show w7.ownsRow W.heap.size 5 1 v7 (j + 1) ((l ++ [b']).map (Value.int .u8)) by rw [List.map_append]; exact hown7)
        have HZ7 : Hid (W.heap.size < w7.heap.size) := Lib.hid (by have := HZ6.out; have := LB.size; omega)
        clear LB hgrow7 hnil7
        obtain ⟨a7, c7, hv7⟩ := owns_slc hown7
        subst hv7
        clear hown7
        go_wp2_with fail
        go_roundw
        case rel => exact ⟨k - 1, j + 1, at6, l ++ [b'], by omega, by congr 1; omega, by omega, ⟨_, _, rfl⟩, fun h => absurd h (by omega), by rw [List.length_append, HL.out]; rfl, (fun z hz => by
          rcases List.mem_append.1 hz with hz | hz
          · exact HLR.out z hz
          · rw [List.mem_singleton.1 hz]; omega), O7.out, S7.out, HZ7.out, K7.out⟩
        case measure => simp [intOf]; omega
    · obtain rfl : k = 0 := by omega
      go_wp2_with fail
      go_ret
      by_cases hj : j = 0
      · have e := HJ0.out hj
        subst hj
        cases e
        obtain rfl : l = [] := List.eq_nil_of_length_eq_zero HL.out
        exact ⟨W.heap.size, 0, _, [], at4, rfl, ⟨rfl, Or.inl rfl⟩, HZ4.out, by omega, by simp, by omega, S4.out, K4.out⟩
      · obtain ⟨blk, rfl, hb⟩ := ownsPtrB O4.out (by omega)
        obtain ⟨a', cap', e, hrd⟩ := Rd.owned O4.out
        cases e
        have hlt : blk < wr.heap.size := by
          rcases hrd.2 with h0 | ⟨b', o', e', hb', _⟩
          · omega
          · cases e'; exact hb'
        exact ⟨blk, j, _, l, at4, rfl, hrd, hlt, by omega, HLR.out, by omega, S4.out, K4.out⟩
theorem z32_byteB : ∀ z ∈ z32, (0 : Int) ≤ z ∧ z ≤ 255 := by decide
theorem hashK_range (tag : Int) (l : List Int) : ∀ z ∈ hashK tag l, 0 ≤ z ∧ z ≤ 255 := keyS_range _
set_option maxRecDepth 100000 in
set_option maxHeartbeats 8000000 in
theorem any_src (g at' : Nat) (hat : at' ≤ 800000) (W : World) (hs : Src g at' W) :
    Calls Try.prog 59 #[.pointer (some ⟨g, 0, none⟩)] W fun x w' => ∃ (key : List Int) (at2 : Nat), x = .returned (.agg (ints .u8 key)) ∧ L32 key ∧ at2 ≤ at' + 80 ∧ Src g at2 w' ∧ Keep W.heap.size (· = g) W w' := by
  have Hz := Lib.hid z32_ints
  have HG := Lib.hid hs.lt
  have B2 := Lib.hid (((Below.refl W.heap.size W).alloc (Nat.le_refl _) (.cells (ints .u8 z32) 28)).alloc (by simp) (.cells (ints .u8 z32) 28))
  have A2 := Lib.hid (heap_alloc2_old W (.cells (ints .u8 z32) 28) (.cells (ints .u8 z32) 28))
  have K2 := Lib.hid (heap_alloc2_new W (.cells (ints .u8 z32) 28) (.cells (ints .u8 z32) 28))
  obtain ⟨W2, hW2⟩ : ∃ W2, (W.alloc (.cells (ints .u8 z32) 28)).alloc (.cells (ints .u8 z32) 28) = W2 := ⟨_, rfl⟩
  have HSZ : Hid (W2.heap.size = W.heap.size + 1 + 1) := Lib.hid (by rw [← hW2]; simp)
  rw [hW2] at B2 A2 K2
  have B3 := Lib.hid (Below.setRow (g := W.heap.size + 1) B2.out (by omega) (ints .u8 z32))
  have A3 := Lib.hid ((setRow_other W2 (W.heap.size + 1) W.heap.size (ints .u8 z32) (by omega)).trans A2.out)
  have K3 := Lib.hid (setRow_heap _ _ (ints .u8 z32) (ints .u8 z32) _ _ K2.out)
  obtain ⟨W3, hW3⟩ : ∃ W3, W2.setRow (W.heap.size + 1) (ints .u8 z32) = W3 := ⟨_, rfl⟩
  have HS3 : Hid (W3.heap.size = W.heap.size + 1 + 1) := Lib.hid (by rw [← hW3, ← HSZ.out]; simp)
  rw [hW3] at B3 A3 K3
  have S3 := Lib.hid (hs.below HG.out B3.out)
  have Hp := Lib.hid (fun (n : Int) (h1 : 1 ≤ n) (h2 : n ≤ 1000) at2 (h : at2 ≤ 900000) U hU => pick_src g at2 n h1 (by omega) (by omega) U hU)
  have Hd := Lib.hid (fun at2 (h : at2 ≤ 900000) U hU => data_src g at2 4 (by omega) h U hU)
  clear hs
  rw [Hz.out] at hW2
  go_enter Try.func59, Try.ntmps59
  go_wp2_with (refine wpList_store_row rfl 28 (.tmp 3) _ rfl (W.heap.size + 1) (ints .u8 z32) rfl (by rw [Hz.out]; rfl) 28 (ints .u8 z32) K2.out (by kernel_rfl) rfl (ints_one _ _) ?_; rw [hW3])
  clear hW2 hW3
  refine (Hp.out 3 (by omega) (by omega) at' (by omega) _ S3.out).mono ?_
  rintro x w4 ⟨r, at4, rfl, r0, r1, ha4, hs4, hk4⟩
  have S4 := Lib.hid hs4
  have Q4 := Lib.hid ((Keep.of (· = g) B3.out).trans (hk4.mono B3.out.size))
  have A4 := Lib.hid (hk4.hold (g := W.heap.size) (by have := HG.out; omega) A3.out)
  have K4 := Lib.hid (hk4.hold (g := W.heap.size + 1) (by have := HG.out; omega) K3.out)
  clear hs4 hk4
  have hr : r = 0 ∨ r = 1 ∨ r = 2 := by omega
  clear r0 r1
  rcases hr with rfl | rfl | rfl
  · go_wp2_with fail
    refine (Hp.out 3 (by omega) (by omega) at4 (by omega) _ S4.out).mono ?_
    rintro x w5 ⟨t, at5, rfl, t0, t1, ha5, hs5, hk5⟩
    have S5 := Lib.hid hs5
    have Q5 := Lib.hid (Q4.out.trans (hk5.mono Q4.out.size))
    have A5 := Lib.hid (hk5.hold (g := W.heap.size) (by have := HG.out; omega) A4.out)
    clear hs5 hk5
    have t2 : t ≤ 255 := by omega
    go_wp2_with fail
    refine (Hd.out at5 (by omega) _ S5.out).mono ?_
    rintro x w6 ⟨b, n, c, l, at6, rfl, hrd, hb, hn, hlr, ha6, hs6, hk6⟩
    have S6 := Lib.hid hs6
    have Q6 := Lib.hid (Q5.out.trans (hk6.mono Q5.out.size))
    have A6 := Lib.hid (hk6.hold (g := W.heap.size) (by have := HG.out; omega) A5.out)
    have Hh := Lib.hid (hash_spec t b 0 n c l t0 t2 hlr (by omega) w6 hrd.1 hb (fun j hj => by
      rcases hrd.2 with h0 | ⟨b', o', e, _, hc⟩
      · omega
      · cases e
        exact hc j hj))
    have HV : Hid (L32 (hashK t l)) := Lib.hid ⟨hashK_len t l, hashK_range t l⟩
    generalize hashK t l = V at Hh HV
    clear hs6 hk6 hrd hlr hb
    go_wp2_with fail
    refine Hh.out.mono ?_
    rintro x w7 ⟨rfl, hb7⟩
    have S7 := Lib.hid (S6.out.below S6.out.lt hb7)
    have Q7 := Lib.hid (keep_below Q6.out hb7 Q6.out.size)
    have A7 := Lib.hid (keep_block A6.out hb7)
    clear hb7
    go_wp2_with (refine wpList_store_row rfl 28 (.tmp 2) _ rfl W.heap.size (ints .u8 V) rfl rfl 28 (ints .u8 z32) A7.out (by rw [ints_size, HV.out.1]; exact sizeKey) (by rw [ints_size, ints_size, HV.out.1]; rfl) (ints_one _ _) ?_)
    have E := Below.setRow (g := W.heap.size) (Below.refl W.heap.size w7) (Nat.le_refl _) (ints .u8 V)
    refine bodyPost_ret (results_cell_row rfl _ _ W.heap.size 28 (ints .u8 V) (0, 0) _ rfl (setRow_heap _ _ (ints .u8 z32) _ _ _ A7.out) Try.underlying28 rfl (by rw [ints_size, HV.out.1]; exact sizeKey)) rfl ⟨V, at6, rfl, HV.out, by omega, S7.out.below HG.out E, Q7.out.trans (Keep.of _ E)⟩
  · go_wp2_with fail
    refine (Hp.out 32 (by omega) (by omega) at4 (by omega) _ S4.out).mono ?_
    rintro x w5 ⟨t, at5, rfl, t0, t1, ha5, hs5, hk5⟩
    obtain ⟨i, rfl⟩ := Int.eq_ofNat_of_zero_le t0
    have S5 := Lib.hid hs5
    have Q5 := Lib.hid (Q4.out.trans (hk5.mono Q4.out.size))
    have A5 := Lib.hid (hk5.hold (g := W.heap.size) (by have := HG.out; omega) A4.out)
    have K5 := Lib.hid (hk5.hold (g := W.heap.size + 1) (by have := HG.out; omega) K4.out)
    clear hs5 hk5
    go_wp2_with fail
    refine (Hp.out 256 (by omega) (by omega) at5 (by omega) _ S5.out).mono ?_
    rintro x w6 ⟨v, at6, rfl, v0, v1, ha6, hs6, hk6⟩
    have S6 := Lib.hid hs6
    have Q6 := Lib.hid (Q5.out.trans (hk6.mono Q5.out.size))
    have A6 := Lib.hid (hk6.hold (g := W.heap.size) (by have := HG.out; omega) A5.out)
    have K6 := Lib.hid (hk6.hold (g := W.heap.size + 1) (by have := HG.out; omega) K5.out)
    clear hs6 hk6
    have v2 : v ≤ 255 := by omega
    have f6 : w6.frozen? ⟨W.heap.size + 1, i, none⟩ = false := frozen_of_row w6 (W.heap.size + 1) i _ _ K6.out
    have c6 : w6.cell? ⟨W.heap.size + 1, i, none⟩ = some (.int .u8 (z32[i]?.getD 0)) := (cell_of_row w6 (W.heap.size + 1) i _ _ _ K6.out).trans (ints_get .u8 z32 i (by show i < 32; omega))
    have LB := Below.setCell (p := ⟨W.heap.size + 1, i, none⟩) (Below.refl W.heap.size w6) (show W.heap.size ≤ W.heap.size + 1 by omega) (.int .u8 v)
    have K7 := Lib.hid (by have := heap_setCell_same w6 (W.heap.size + 1) i _ _ (.int .u8 v) K6.out; rw [ints_set] at this; exact this)
    have A7 := Lib.hid ((heap_setCell_other w6 ⟨W.heap.size + 1, i, none⟩ W.heap.size (.int .u8 v) (show W.heap.size ≠ W.heap.size + 1 by omega)).trans A6.out)
    have S7 := Lib.hid (S6.out.below HG.out LB)
    have Q7 := Lib.hid (Q6.out.trans (Keep.of _ LB))
    have HV : Hid (L32 (z32.set i v)) := Lib.hid ⟨by rw [List.length_set]; rfl, fun z hz => by
      rcases List.mem_or_eq_of_mem_set hz with hz | rfl
      · exact z32_byteB z hz
      · omega⟩
    generalize z32.set i v = V at K7 HV
    clear LB
    go_wp2_with (first | (refine wpList_load_row rfl 28 (.tmp 3) rfl (W.heap.size + 1) rfl 28 (ints .u8 V) (0, 0) _ K7.out Try.underlying28 rfl (by rw [ints_size, HV.out.1]; exact sizeKey) ?_) | (refine wpList_store_row rfl 28 (.tmp 2) _ rfl W.heap.size (ints .u8 V) rfl rfl 28 (ints .u8 z32) A7.out (by rw [ints_size, HV.out.1]; exact sizeKey) (by rw [ints_size, ints_size, HV.out.1]; rfl) (ints_one _ _) ?_))
    have E := Below.setRow (g := W.heap.size) (Below.refl W.heap.size (w6.setCell ⟨W.heap.size + 1, i, none⟩ (.int .u8 v))) (Nat.le_refl _) (ints .u8 V)
    refine bodyPost_ret (results_cell_row rfl _ _ W.heap.size 28 (ints .u8 V) (0, 0) _ rfl (setRow_heap _ _ (ints .u8 z32) _ _ _ A7.out) Try.underlying28 rfl (by rw [ints_size, HV.out.1]; exact sizeKey)) rfl ⟨V, at6, rfl, HV.out, by omega, S7.out.below HG.out E, Q7.out.trans (Keep.of _ E)⟩
  · go_wp2_with fail
    go_loopw [4] (fun iv wr => ∃ (k at5 : Nat) (V : List Int), k ≤ 32 ∧ iv = .int .i64 (k : Int) ∧ at5 ≤ at' + 2 + 2 * k ∧ L32 V ∧ wr.heap[W.heap.size + 1]? = some (.cells (ints .u8 V) 28) ∧ wr.heap[W.heap.size]? = some (.cells (ints .u8 z32) 28) ∧ Src g at5 wr ∧ Keep W.heap.size (· = g) W wr ∧ W.heap.size + 1 < wr.heap.size) (fun iv _ => 32 - (intOf iv).toNat)
    case atStart => exact ⟨0, at4, z32, by omega, rfl, by omega, ⟨rfl, z32_byteB⟩, K4.out, A4.out, S4.out, Q4.out, (Array.getElem?_eq_some_iff.1 K4.out).1⟩
    case round =>
      clear A2 A3 A4 K2 K3 K4 S3 S4 Q4 B2 B3
      obtain ⟨k, at5, V, hk, rfl, ha5, hV, hK, hA, hs5, hq5, hsz⟩ := hrel
      have HV := Lib.hid hV
      have K5 := Lib.hid hK
      have A5 := Lib.hid hA
      have S5 := Lib.hid hs5
      have Q5 := Lib.hid hq5
      have HZ := Lib.hid hsz
      clear hV hK hA hs5 hq5 hsz
      by_cases hlt : k < 32
      · have k1 : (k : Int) < 32 := by omega
        have k0 : (0 : Int) ≤ (k : Int) := by omega
        go_wp2_with fail
        refine (Hp.out 256 (by omega) (by omega) at5 (by omega) _ S5.out).mono ?_
        rintro x w6 ⟨v, at6, rfl, v0, v1, ha6, hs6, hk6⟩
        have S6 := Lib.hid hs6
        have Q6 := Lib.hid (Q5.out.trans (hk6.mono Q5.out.size))
        have A6 := Lib.hid (hk6.hold (g := W.heap.size) (by have := HG.out; omega) A5.out)
        have K6 := Lib.hid (hk6.hold (g := W.heap.size + 1) (by have := HG.out; omega) K5.out)
        have HZ6 : Hid (W.heap.size + 1 < w6.heap.size) := Lib.hid (by have := HZ.out; have := hk6.size; omega)
        clear hs6 hk6
        have v2 : v ≤ 255 := by omega
        have f6 : w6.frozen? ⟨W.heap.size + 1, k, none⟩ = false := frozen_of_row w6 (W.heap.size + 1) k _ _ K6.out
        have c6 : w6.cell? ⟨W.heap.size + 1, k, none⟩ = some (.int .u8 (V[k]?.getD 0)) := (cell_of_row w6 (W.heap.size + 1) k _ _ _ K6.out).trans (ints_get .u8 V k (by rw [HV.out.1]; omega))
        have LB := Below.setCell (p := ⟨W.heap.size + 1, k, none⟩) (Below.refl W.heap.size w6) (show W.heap.size ≤ W.heap.size + 1 by omega) (.int .u8 v)
        have K7 := Lib.hid (by have := heap_setCell_same w6 (W.heap.size + 1) k _ _ (.int .u8 v) K6.out; rw [ints_set] at this; exact this)
        have A7 := Lib.hid ((heap_setCell_other w6 ⟨W.heap.size + 1, k, none⟩ W.heap.size (.int .u8 v) (show W.heap.size ≠ W.heap.size + 1 by omega)).trans A6.out)
        have S7 := Lib.hid (S6.out.below HG.out LB)
        have Q7 := Lib.hid (Q6.out.trans (Keep.of _ LB))
        have HV7 : Hid (L32 (V.set k v)) := Lib.hid ⟨by rw [List.length_set]; exact HV.out.1, fun z hz => by
          rcases List.mem_or_eq_of_mem_set hz with hz | rfl
          · exact HV.out.2 z hz
          · omega⟩
        have HZ7 := Lib.hid (Nat.lt_of_lt_of_le HZ6.out LB.size)
        clear LB
        go_wp2_with fail
        go_roundw
        case rel => exact ⟨k + 1, at6, V.set k v, by omega, by go_num, by omega, HV7.out, K7.out, A7.out, S7.out, Q7.out, HZ7.out⟩
        case measure => simp [intOf]; omega
      · obtain rfl : k = 32 := by omega
        go_wp2_with (first | (refine wpList_load_row rfl 28 (.tmp 3) rfl (W.heap.size + 1) rfl 28 (ints .u8 V) (0, 0) _ K5.out Try.underlying28 rfl (by rw [ints_size, HV.out.1]; exact sizeKey) ?_) | (refine wpList_store_row rfl 28 (.tmp 2) _ rfl W.heap.size (ints .u8 V) rfl rfl 28 (ints .u8 z32) A5.out (by rw [ints_size, HV.out.1]; exact sizeKey) (by rw [ints_size, ints_size, HV.out.1]; rfl) (ints_one _ _) ?_))
        have E := Below.setRow (g := W.heap.size) (Below.refl W.heap.size wr) (Nat.le_refl _) (ints .u8 V)
        refine bodyPost_ret (results_cell_row rfl _ _ W.heap.size 28 (ints .u8 V) (0, 0) _ rfl (setRow_heap _ _ (ints .u8 z32) _ _ _ A5.out) Try.underlying28 rfl (by rw [ints_size, HV.out.1]; exact sizeKey)) rfl ⟨V, at5, rfl, HV.out, by omega, S5.out.below HG.out E, Q5.out.trans (Keep.of _ E)⟩
set_option maxRecDepth 100000 in
set_option maxHeartbeats 8000000 in
theorem keys_src (a : Option Addr) (n c : Nat) (l : List Int) (most : Nat) (hn : n ≤ 1048576) (hl : ∀ z ∈ l, 0 ≤ z ∧ z ≤ 255) (hm : most ≤ 100) (W : World) (hr : Rd .u8 W a n l) :
    Calls Try.prog 16 #[.slice a n c, .int .i64 (most : Int)] W fun x w' => ∃ (v : Value) (m : Nat) (fl : List Int), x = .returned v ∧ w'.ownsRow W.heap.size 28 32 v m (fl.map (Value.int .u8)) ∧ m ≤ most ∧ fl.length = 32 * m ∧ (∀ z ∈ fl, 0 ≤ z ∧ z ≤ 255) ∧ Below W.heap.size W w' := by
  obtain ⟨i0, z0, hi, hz0, hz1, hz2, hzs, hzc⟩ := keyParts
  have Hi := Lib.hid hi
  have Hf := Lib.hid (from_src a n c l hn hl W hr)
  have m0 : (0 : Int) ≤ (most : Int) := by omega
  have m1 : (most : Int) ≤ 100 := by omega
  have Hp := Lib.hid (fun U hU => pick_src W.heap.size 0 ((most : Int) + 1) (by omega) (by omega) (by omega) U hU)
  have Ha := Lib.hid (fun at2 (h : at2 ≤ 700000) U hU => any_src W.heap.size at2 (by omega) U hU)
  clear hr hi
  go_enter Try.func16, Try.ntmps16
  go_wp2_with fail
  refine Hf.out.mono ?_
  rintro x w1 ⟨rfl, hs1, hb1⟩
  have HL1 := Lib.hid hs1.lt
  have LB := (Below.refl w1.heap.size w1).alloc (Nat.le_refl _) (.cells #[] 28)
  have S2 := Lib.hid (hs1.below hs1.lt LB)
  have O2 := Lib.hid (owns_base (show W.heap.size + 1 ≤ w1.heap.size by have := hs1.lt; omega) (owns_empty w1 28 32))
  have B2 := Lib.hid (below_call hb1 hb1.size LB)
  have HL2 : Hid (W.heap.size < (w1.alloc (.cells #[] 28)).heap.size) := Lib.hid (Nat.lt_of_lt_of_le hs1.lt LB.size)
  clear hs1 hb1 LB
  go_wp2_with fail
  refine (Hp.out _ S2.out).mono ?_
  rintro x w3 ⟨r, at3, rfl, r0, r1, ha3, hs3, hk3⟩
  obtain ⟨K, rfl⟩ := Int.eq_ofNat_of_zero_le r0
  have S3 := Lib.hid hs3
  have B3 := Lib.hid (B2.out.trans (hk3.below (C := W.heap.size) (Nat.le_of_lt HL2.out) (fun k hk => Nat.le_of_eq hk.symm)))
  have O3 := Lib.hid (owns_keep (Nat.lt_succ_self _) O2.out hk3)
  have HL3 : Hid (W.heap.size < w3.heap.size) := Lib.hid (Nat.lt_of_lt_of_le HL2.out hk3.size)
  have HK : K ≤ most := by omega
  clear hs3 hk3 r0 r1
  go_wp2_with fail
  go_loopw [6, 7] (fun ov kv wr => ∃ (k j at4 : Nat) (fl : List Int), k + j = K ∧ kv = .int .i64 (k : Int) ∧ at4 ≤ 2 + 80 * j ∧ (∃ a c, ov = .slice a j c) ∧ fl.length = 32 * j ∧ (∀ z ∈ fl, 0 ≤ z ∧ z ≤ 255) ∧ wr.ownsRow (W.heap.size + 1) 28 32 ov j (fl.map (Value.int .u8)) ∧ Src W.heap.size at4 wr ∧ W.heap.size < wr.heap.size ∧ Below W.heap.size W wr) (fun _ kv _ => (intOf kv).toNat)
  case atStart => exact ⟨K, 0, at3, [], by omega, rfl, by omega, ⟨_, _, rfl⟩, rfl, by simp, O3.out, S3.out, HL3.out, B3.out⟩
  case round =>
    clear O2 O3 S2 S3 B2 B3 Hf Hp HL1 HL2 HL3
    obtain ⟨k, j, at4, fl, hkj, rfl, ha4, ⟨a', c', rfl⟩, hfl, hfr, hown, hs4, hlt4, hb4⟩ := hrel
    have O4 := Lib.hid hown
    have S4 := Lib.hid hs4
    have B4 := Lib.hid hb4
    have HFL := Lib.hid hfl
    have HFR := Lib.hid hfr
    have HL4 := Lib.hid hlt4
    clear hown hs4 hb4 hfl hfr hlt4
    by_cases hk : 0 < k
    · have k1 : (0 : Int) < (k : Int) := by omega
      go_wp2_with fail
      refine (Ha.out at4 (by omega) _ S4.out).mono ?_
      rintro x w5 ⟨key, at5, rfl, hkey, ha5, hs5, hk5⟩
      have S5 := Lib.hid hs5
      have B5 := Lib.hid (B4.out.trans (hk5.below (C := W.heap.size) (Nat.le_of_lt HL4.out) (fun k hk => Nat.le_of_eq hk.symm)))
      have O5 := Lib.hid (owns_keep (Nat.lt_succ_self _) O4.out hk5)
      have HL5 : Hid (W.heap.size < w5.heap.size) := Lib.hid (Nat.lt_of_lt_of_le HL4.out hk5.size)
      have HKY := Lib.hid hkey
      clear hs5 hk5 hkey
      go_wp2_with (first | (refine wpList_buildSlice_one rfl 24 28 _ rfl Try.underlying24 Hi.out hz0 (ints .u8 key) rfl (by rw [ints_size, HKY.out.1, hz1]) (by rw [hz1]; decide) (by rw [hz1]; decide) ?_) | (at_builtin; refine wpList_append_own _ rfl _ _ 24 rfl (W.heap.size + 1) 28 i0 z0 32 32 Try.underlying24 Hi.out hz0 hz1 hz2 hzs (by decide) _ j _ rfl (O5.out.alloc _) ⟨w5.heap.size, 0, none⟩ 1 1 (key.map (Value.int .u8)) rfl (by rw [List.length_map, HKY.out.1]) ?c1 ?c2 ?c3 ?c4 ?c5 ?_))
      case c1 =>
        intro p u hu
        rw [addr_add]
        have hg := heap_alloc_last w5 (.cells (ints .u8 key) 28)
        rw [Nat.zero_add, cell_of_row _ w5.heap.size p _ _ _ hg, ← hu]
        simp [ints]
      case c2 =>
        intro u hu
        obtain ⟨z, _, rfl⟩ := List.mem_map.1 hu
        rfl
      case c3 => unfold maxLen; omega
      case c4 => omega
      case c5 => have := HL5.out; simp; omega
      intro v6 w6 hown6 hgrow6 hnil6
      have LB := ((Below.refl (W.heap.size + 1) w5).alloc (by have := HL5.out; omega) (.cells (ints .u8 key) 28)).grown hgrow6 (by have := HL5.out; simp; omega) (fun g e => (O5.out.lt g e).1)
      have S6 := Lib.hid (S5.out.below (Nat.lt_succ_self _) LB)
      have B6 := Lib.hid (B5.out.trans (LB.mono (Nat.le_succ _)))
      have O6 := Lib.hid (show w6.ownsRow (W.heap.size + 1) 28 32 v6 (j + 1) ((fl ++ key).map (Value.int .u8)) by rw [List.map_append]; exact hown6)
      have HL6 : Hid (W.heap.size < w6.heap.size) := Lib.hid (Nat.lt_of_lt_of_le HL5.out LB.size)
      clear LB hgrow6 hnil6
      obtain ⟨a6, c6, hv6⟩ := owns_slc hown6
      subst hv6
      clear hown6
      go_wp2_with fail
      go_roundw
      case rel => exact ⟨k - 1, j + 1, at5, fl ++ key, by omega, by congr 1; omega, by omega, ⟨_, _, rfl⟩, by rw [List.length_append, HFL.out, HKY.out.1]; omega, (fun z hz => by
        rcases List.mem_append.1 hz with hz | hz
        · exact HFR.out z hz
        · exact HKY.out.2 z hz), O6.out, S6.out, HL6.out, B6.out⟩
      case measure => simp [intOf]; omega
    · obtain rfl : k = 0 := by omega
      go_wp2_with fail
      go_ret
      exact ⟨_, j, fl, rfl, owns_base (Nat.le_succ _) O4.out, by omega, HFL.out, HFR.out, B4.out⟩
end Go.Proofs.Ytcbcfjflaplkoaa
namespace Go.Proofs.Ytcbcfjflaplkoaa
open Go.ChangeShapes Go.WideShapes Go.ChangeAt Go.RowKit
set_option linter.unusedVariables false
set_option linter.unusedSimpArgs false
theorem sizeU8L : (Try.prog.info? 5).map (·.size) = some 1 := by kernel_rfl
theorem neqKeyL (a b : List Int) (ha : a.length = 32) (hb : b.length = 32) (W : World) : (binOp .neq 28 (.agg (ints .u8 a)) (.agg (ints .u8 b))).run Try.prog W = .ok (.bool (!decide (a = b))) W := by
  rw [run_neq_struct, run_equalIn_ints Try.underlying28 Try.underlying5 sizeU8L a b ha hb 9998 W]
  rfl
set_option maxRecDepth 100000 in
set_option maxHeartbeats 2000000 in
theorem lists_same (a b : Option Addr) (n ca cb : Nat) (fl : List Int) (hn : n ≤ 1048576) (w : World) (hr : RdK w a n fl) (hs : RdK w b n fl) :
    Calls Try.prog 81 #[.slice a n ca, .slice b n cb] w fun e w' => e = .returned (.bool true) ∧ Below w.heap.size w w' := by
  have HR := Lib.hid hr
  have HS := Lib.hid hs
  clear hr hs
  go_enter Try.func81, Try.ntmps81
  go_wp2_with fail
  go_loopw [5] (fun i wr => ∃ k : Nat, k ≤ n ∧ i = .int .i64 k ∧ Below w.heap.size w wr) (fun i _ => n - (intOf i).toNat)
  case atStart => exact ⟨0, by omega, rfl, Below.refl _ _⟩
  case round =>
    obtain ⟨k, hk, rfl, hb⟩ := hrel
    have HB := Lib.hid hb
    clear hb
    by_cases hlt : k < n
    · obtain ⟨b1, o1, rfl⟩ := HR.out.form (show 0 < n by omega)
      obtain ⟨b2, o2, rfl⟩ := HS.out.form (show 0 < n by omega)
      have i0 : (0 : Int) ≤ (k : Int) := by omega
      have i1 : (k : Int) < (n : Int) := by omega
      have Hr1 := Lib.hid ((HR.out.below HB.out).key k hlt)
      have Hr2 := Lib.hid ((HS.out.below HB.out).key k hlt)
      have Hkl := Lib.hid (keyAt_len HR.out.1 hlt)
      have Heq : ∀ U, (binOp .neq 28 (.agg (ints .u8 (keyAt fl k))) (.agg (ints .u8 (keyAt fl k)))).run Try.prog U = .ok (.bool false) U := fun U => (neqKeyL (keyAt fl k) (keyAt fl k) Hkl.out Hkl.out U).trans (by simp)
      generalize keyAt fl k = key at Hr1 Hr2 Hkl Heq
      go_upto_region 6 with fail
      refine wp_region_held_drew (S := Below (wr).heap.size (wr)) (by kernel_rfl) ((Below.refl _ _).drew) (fun hS => ?_)
      refine take_at (i := 0) (v := .slice (some ⟨b1, o1, none⟩) n ca) rfl rfl (by kernel_rfl) (by kernel_rfl) (by kernel_rfl) (fun _ _ _ h => h) (Or.inl ⟨by rfl, fun U hU => by go_simp⟩) hS ?_
      try simp only [List.setIfInBounds_toArray, List.set_cons_zero, List.set_cons_succ]
      refine take_at (i := 1) (v := .int .i64 (k : Int)) rfl rfl (by kernel_rfl) (by kernel_rfl) (by kernel_rfl) (fun _ _ _ h => h) (Or.inl ⟨by rfl, fun U hU => by go_simp⟩) hS ?_
      try simp only [List.setIfInBounds_toArray, List.set_cons_zero, List.set_cons_succ]
      refine take_at (i := 2) (v := .pointer (some ⟨b1, o1 + k * 32, none⟩)) rfl rfl (by kernel_rfl) (by kernel_rfl) (by kernel_rfl) (fun _ _ _ h => h) (Or.inl ⟨by rfl, fun U hU => by go_simp⟩) hS ?_
      try simp only [List.setIfInBounds_toArray, List.set_cons_zero, List.set_cons_succ]
      refine take_at (i := 3) (v := .agg (ints .u8 key)) rfl rfl (by kernel_rfl) (by kernel_rfl) (by kernel_rfl) (fun _ _ _ h => h) (yieldsIf_load_mid (by rfl) 28 _ rfl b1 (o1 + k * 32) rfl (key.map (Value.int .u8)) _ (fun U hU => rangeAt_below Hr1.out hU) Try.underlying28 rfl (by rw [List.length_map, Hkl.out]; exact sizeKey)) hS ?_
      try simp only [List.setIfInBounds_toArray, List.set_cons_zero, List.set_cons_succ]
      refine take_at (i := 4) (v := .slice (some ⟨b2, o2, none⟩) n cb) rfl rfl (by kernel_rfl) (by kernel_rfl) (by kernel_rfl) (fun _ _ _ h => h) (Or.inl ⟨by rfl, fun U hU => by go_simp⟩) hS ?_
      try simp only [List.setIfInBounds_toArray, List.set_cons_zero, List.set_cons_succ]
      refine take_at (i := 5) (v := .int .i64 (k : Int)) rfl rfl (by kernel_rfl) (by kernel_rfl) (by kernel_rfl) (fun _ _ _ h => h) (Or.inl ⟨by rfl, fun U hU => by go_simp⟩) hS ?_
      try simp only [List.setIfInBounds_toArray, List.set_cons_zero, List.set_cons_succ]
      refine take_at (i := 6) (v := .pointer (some ⟨b2, o2 + k * 32, none⟩)) rfl rfl (by kernel_rfl) (by kernel_rfl) (by kernel_rfl) (fun _ _ _ h => h) (Or.inl ⟨by rfl, fun U hU => by go_simp⟩) hS ?_
      try simp only [List.setIfInBounds_toArray, List.set_cons_zero, List.set_cons_succ]
      refine take_at (i := 7) (v := .agg (ints .u8 key)) rfl rfl (by kernel_rfl) (by kernel_rfl) (by kernel_rfl) (fun _ _ _ h => h) (yieldsIf_load_mid (by rfl) 28 _ rfl b2 (o2 + k * 32) rfl (key.map (Value.int .u8)) _ (fun U hU => rangeAt_below Hr2.out hU) Try.underlying28 rfl (by rw [List.length_map, Hkl.out]; exact sizeKey)) hS ?_
      try simp only [List.setIfInBounds_toArray, List.set_cons_zero, List.set_cons_succ]
      refine take_at (i := 8) (v := .bool false) rfl rfl (by kernel_rfl) (by kernel_rfl) (by kernel_rfl) (fun _ _ _ h => h) (Or.inl ⟨by rfl, fun U hU => by go_simp⟩) hS ?_
      try simp only [List.setIfInBounds_toArray, List.set_cons_zero, List.set_cons_succ]
      refine wpAnyH_done (by kernel_rfl) ?_ _
      have HS2 := Lib.hid (HB.out.trans (hS.mono HB.out.size))
      clear hS
      go_wp2_with fail
      go_roundw
      case rel => exact ⟨k + 1, by omega, by go_num, HS2.out⟩
      case measure => simp [intOf]; omega
    · obtain rfl : k = n := by omega
      go_wp2_with fail
      go_ret
      exact ⟨rfl, HB.out⟩
theorem same_keys (a b : Option Addr) (n ca cb : Nat) (fl : List Int) (hn : n ≤ 1048576) (w : World) (hr : RdK w a n fl) (hs : RdK w b n fl) :
    Calls Try.prog 28 #[.slice a n ca, .slice b n cb] w fun e w' => e = .returned (.bool true) ∧ Below w.heap.size w w' := by
  have H := Lib.hid (lists_same a b n ca cb fl hn w hr hs)
  clear hr hs
  go_enter Try.func28, Try.ntmps28
  go_wp2_with fail
  refine H.out.mono ?_
  rintro x w1 ⟨rfl, hb⟩
  go_wp2
  go_ret
  exact ⟨rfl, hb⟩
theorem long_no (a b : Option Addr) (n m ca cb : Nat) (h : n ≤ 3000 ∧ m ≤ 3000) (w : World) :
    Calls Try.prog 15 #[.slice a n ca, .slice b m cb] w fun e w' => e = .returned (.bool false) ∧ w = w' := by
  have k1 : ¬ (3000 : Int) < (n : Int) := by omega
  have k2 : ¬ (3000 : Int) < (m : Int) := by omega
  go_enter Try.func15, Try.ntmps15
  go_wp2
  go_ret
  exact ⟨rfl, rfl⟩
theorem long_yes (a b : Option Addr) (n m ca cb : Nat) (h : ¬ (n ≤ 3000 ∧ m ≤ 3000)) (w : World) :
    Calls Try.prog 15 #[.slice a n ca, .slice b m cb] w fun e w' => e = .returned (.bool true) ∧ w = w' := by
  by_cases h1 : n ≤ 3000
  · have k1 : ¬ (3000 : Int) < (n : Int) := by omega
    have k2 : (3000 : Int) < (m : Int) := by omega
    go_enter Try.func15, Try.ntmps15
    go_wp2
    go_ret
    exact ⟨rfl, rfl⟩
  · have k1 : (3000 : Int) < (n : Int) := by omega
    go_enter Try.func15, Try.ntmps15
    go_wp2
    go_ret
    exact ⟨rfl, rfl⟩
end Go.Proofs.Ytcbcfjflaplkoaa
namespace Go.Proofs.Ytcbcfjflaplkoaa
open Go.ChangeShapes Go.WideShapes Go.ChangeAt Go.RowKit
set_option linter.unusedVariables false
set_option linter.unusedSimpArgs false
/-- The keys of the greatest parts of the n leaves from b on that have none of those from i to j, counted from b. -/
def rg (kf : Nat → List Int) (b n : Nat) (i j : Int) : List Int :=
  if j ≤ 0 ∨ (n : Int) ≤ i then tkey kf b n
  else if h : n ≤ 1 ∨ (i ≤ 0 ∧ (n : Int) ≤ j) then []
  else rg kf b (half n) i j ++ rg kf (b + half n) (n - half n) (i - (half n : Nat)) (j - (half n : Nat))
termination_by n
decreasing_by
  · exact half_lt (by omega)
  · have := half_pos n; have := half_lt (n := n) (by omega); omega
/-- How many there are. -/
def rgN (n : Nat) (i j : Int) : Nat :=
  if j ≤ 0 ∨ (n : Int) ≤ i then 1
  else if h : n ≤ 1 ∨ (i ≤ 0 ∧ (n : Int) ≤ j) then 0
  else rgN (half n) i j + rgN (n - half n) (i - (half n : Nat)) (j - (half n : Nat))
termination_by n
decreasing_by
  · exact half_lt (by omega)
  · have := half_pos n; have := half_lt (n := n) (by omega); omega
theorem rg_miss {kf : Nat → List Int} {b n : Nat} {i j : Int} (h : j ≤ 0 ∨ (n : Int) ≤ i) : rg kf b n i j = tkey kf b n := by rw [rg, if_pos h]
theorem rg_in {kf : Nat → List Int} {b n : Nat} {i j : Int} (h : ¬ (j ≤ 0 ∨ (n : Int) ≤ i)) (h2 : n ≤ 1 ∨ (i ≤ 0 ∧ (n : Int) ≤ j)) : rg kf b n i j = [] := by rw [rg, if_neg h, dif_pos h2]
theorem rg_two {kf : Nat → List Int} {b n : Nat} {i j : Int} (h : ¬ (j ≤ 0 ∨ (n : Int) ≤ i)) (h2 : ¬ (n ≤ 1 ∨ (i ≤ 0 ∧ (n : Int) ≤ j))) : rg kf b n i j = rg kf b (half n) i j ++ rg kf (b + half n) (n - half n) (i - (half n : Nat)) (j - (half n : Nat)) := by rw [rg, if_neg h, dif_neg h2]
theorem rgN_miss {n : Nat} {i j : Int} (h : j ≤ 0 ∨ (n : Int) ≤ i) : rgN n i j = 1 := by rw [rgN, if_pos h]
theorem rgN_in {n : Nat} {i j : Int} (h : ¬ (j ≤ 0 ∨ (n : Int) ≤ i)) (h2 : n ≤ 1 ∨ (i ≤ 0 ∧ (n : Int) ≤ j)) : rgN n i j = 0 := by rw [rgN, if_neg h, dif_pos h2]
theorem rgN_two {n : Nat} {i j : Int} (h : ¬ (j ≤ 0 ∨ (n : Int) ≤ i)) (h2 : ¬ (n ≤ 1 ∨ (i ≤ 0 ∧ (n : Int) ≤ j))) : rgN n i j = rgN (half n) i j + rgN (n - half n) (i - (half n : Nat)) (j - (half n : Nat)) := by rw [rgN, if_neg h, dif_neg h2]
theorem rgN_le : ∀ (n : Nat) (i j : Int), 1 ≤ n → rgN n i j ≤ n := by
  intro n
  induction n using Nat.strongRecOn with
  | _ n ih =>
    intro i j h1
    by_cases h : j ≤ 0 ∨ (n : Int) ≤ i
    · rw [rgN_miss h]; exact h1
    · by_cases h2 : n ≤ 1 ∨ (i ≤ 0 ∧ (n : Int) ≤ j)
      · rw [rgN_in h h2]; exact Nat.zero_le _
      · have a1 := half_pos n
        have a2 := half_lt (n := n) (by omega)
        have := ih (half n) a2 i j a1
        have := ih (n - half n) (by omega) (i - (half n : Nat)) (j - (half n : Nat)) (by omega)
        rw [rgN_two h h2]
        omega
theorem rg_congr {kf kg : Nat → List Int} : ∀ (n b c : Nat) (i j : Int), 1 ≤ n → (∀ k, k < n → kf (b + k) = kg (c + k)) → rg kf b n i j = rg kg c n i j := by
  intro n
  induction n using Nat.strongRecOn with
  | _ n ih =>
    intro b c i j h1 hk
    by_cases h : j ≤ 0 ∨ (n : Int) ≤ i
    · rw [rg_miss h, rg_miss h]; exact tkey_congr n b c h1 hk
    · by_cases h2 : n ≤ 1 ∨ (i ≤ 0 ∧ (n : Int) ≤ j)
      · rw [rg_in h h2, rg_in h h2]
      · have a1 := half_pos n
        have a2 := half_lt (n := n) (by omega)
        rw [rg_two h h2, rg_two h h2, ih _ a2 b c i j a1 (fun k hk2 => hk k (by omega)), ih _ (by omega) (b + half n) (c + half n) _ _ (by omega) (fun k hk2 => by rw [Nat.add_assoc, Nat.add_assoc]; exact hk _ (by omega))]
theorem rg_len {kf : Nat → List Int} : ∀ (n b : Nat) (i j : Int), 1 ≤ n → (∀ k, k < n → (kf (b + k)).length = 32) → (rg kf b n i j).length = 32 * rgN n i j := by
  intro n
  induction n using Nat.strongRecOn with
  | _ n ih =>
    intro b i j h1 hk
    by_cases h : j ≤ 0 ∨ (n : Int) ≤ i
    · rw [rg_miss h, rgN_miss h]; exact tkey_len h1 hk
    · by_cases h2 : n ≤ 1 ∨ (i ≤ 0 ∧ (n : Int) ≤ j)
      · rw [rg_in h h2, rgN_in h h2]; rfl
      · have a1 := half_pos n
        have a2 := half_lt (n := n) (by omega)
        rw [rg_two h h2, rgN_two h h2, List.length_append, ih _ a2 b i j a1 (fun k hk2 => hk k (by omega)), ih _ (by omega) (b + half n) _ _ (by omega) (fun k hk2 => by rw [Nat.add_assoc]; exact hk _ (by omega))]
        omega
/-- As the program goes: down to single leaves, and in places of the whole. -/
theorem rg_inner {kf : Nat → List Int} : ∀ (n b : Nat) (i j : Int), 1 ≤ n → i ≤ 0 → (n : Int) ≤ j → rg kf b n i j = [] := by
  intro n b i j h1 h2 h3
  exact rg_in (by omega) (Or.inr ⟨h2, h3⟩)
theorem rg_down {kf : Nat → List Int} {b n : Nat} {i j : Int} (h : ¬ (j ≤ 0 ∨ (n : Int) ≤ i)) (h2 : 1 < n) : rg kf b n i j = rg kf b (half n) i j ++ rg kf (b + half n) (n - half n) (i - (half n : Nat)) (j - (half n : Nat)) := by
  have a1 := half_pos n
  have a2 := half_lt (n := n) (by omega)
  by_cases h3 : i ≤ 0 ∧ (n : Int) ≤ j
  · rw [rg_in h (Or.inr h3), rg_inner (half n) b i j a1 h3.1 (by omega), rg_inner (n - half n) _ _ _ (by omega) (by omega) (by omega)]
    rfl
  · exact rg_two h (by omega)
theorem rgN_down {n : Nat} {i j : Int} (h : ¬ (j ≤ 0 ∨ (n : Int) ≤ i)) (h2 : 1 < n) : rgN n i j = rgN (half n) i j + rgN (n - half n) (i - (half n : Nat)) (j - (half n : Nat)) := by
  have a1 := half_pos n
  have a2 := half_lt (n := n) (by omega)
  by_cases h3 : i ≤ 0 ∧ (n : Int) ≤ j
  · rw [rgN_in h (Or.inr h3), rgN_in (n := half n) (i := i) (j := j) (by omega) (Or.inr (by omega)), rgN_in (n := n - half n) (by omega) (Or.inr (by omega))]
  · exact rgN_two h (by omega)
theorem owns_one {w : World} {t : TypeId} {size : Nat} (c : Array Value) (hc : c.size = size) : (w.alloc (.cells c t)).ownsRow w.heap.size t size (.slice (some ⟨w.heap.size, 0, none⟩) 1 1) 1 c.toList :=
  ⟨by simp [hc], Or.inr ⟨w.heap.size, 1, c, rfl, Nat.le_refl _, heap_alloc_last _ _, Nat.le_refl _, by unfold maxLen; omega, by omega, by rw [List.take_of_length_le (by simp [hc])]⟩⟩
/-- One row of one's own put behind another one. -/
theorem run_append_rows {P : Program} {w : World} {base base2 : Nat} (t ty e : TypeId) (i : TypeInfo) (z : Value) (size bytes : Nat) (ht : P.underlying t = some (.slice e)) (hi : P.info? e = some i) (hz : i.zero = some z)
    (hsize : i.size = size) (hby : i.bytes = bytes) (hzs : z.cells.size = size) (hsz : 0 < size) (v : Value) (n : Nat) (xs : List Value) (hown : w.ownsRow base e size v n xs)
    (u : Value) (m : Nat) (ys : List Value) (hown2 : w.ownsRow base2 e size u m ys) (h1 : ∀ y ∈ ys, y.oneCell' = true) (h63 : n + m ≤ maxLen) (hbytes : (n + m) * bytes ≤ 140737488355328) (hbase : base ≤ w.heap.size) :
    ∃ v' w', (Builtin.append_ #[t, t] ty #[v, u]).run P w = .ok v' w' ∧ w'.ownsRow base e size v' (n + m) (xs ++ ys) ∧ w.grownBy w' v.ownBlock := by
  rcases hown2.2 with ⟨rfl, hm⟩ | ⟨g, cap, cur, rfl, hb, hh, hnc, hcm, hcs, htake⟩
  · subst hm
    have hy : ys = [] := List.eq_nil_of_length_eq_zero (by simpa using hown2.1)
    subst hy
    exact ⟨v, w, run_append_zero t ty e i size ht hi v n xs hown none 0, by simpa using hown, ⟨rfl, rfl, rfl, Nat.le_refl _, fun _ _ _ => rfl⟩⟩
  · obtain ⟨v', w', hr, h2, h3, _⟩ := run_append_own (P := P) w base t ty e i z size bytes ht hi hz hsize hby hzs hsz v n xs hown ⟨g, 0, none⟩ m cap ys hown2.1 (hown2.cells (g := g) rfl) h1 h63 hbytes hbase
    exact ⟨v', w', hr, h2, h3⟩
theorem wp_append_rows {P : Program} {w : World} {o : Oper} {a : Act} {K : Act → World → Prop} {Q : Exit → Act → World → Prop} {base base2 : Nat} (s x : Operand) (t : TypeId)
    (ho : o.op = .call { callee := .builtin .append, args := #[s, x], argTypes := #[t, t] }) (e : TypeId) (i : TypeInfo) (z : Value) (size bytes : Nat) (ht : P.underlying t = some (.slice e)) (hi : P.info? e = some i) (hz : i.zero = some z)
    (hsize : i.size = size) (hby : i.bytes = bytes) (hzs : z.cells.size = size) (hsz : 0 < size) (v : Value) (n : Nat) (xs : List Value) (hs : a.eval s = v) (hown : w.ownsRow base e size v n xs)
    (u : Value) (m : Nat) (ys : List Value) (hx : a.eval x = u) (hown2 : w.ownsRow base2 e size u m ys) (h1 : ∀ y ∈ ys, y.oneCell' = true) (h63 : n + m ≤ maxLen) (hbytes : (n + m) * bytes ≤ 140737488355328) (hbase : base ≤ w.heap.size)
    (h : ∀ v' w', w'.ownsRow base e size v' (n + m) (xs ++ ys) → w.grownBy w' v.ownBlock → K (a.put o.dst v') w') : o.wp P a w K Q := by
  obtain ⟨v', w', hr, h2, h3⟩ := run_append_rows (P := P) t o.type e i z size bytes ht hi hz hsize hby hzs hsz v n xs hown u m ys hown2 h1 h63 hbytes hbase
  unfold Oper.wp execOp
  simp only [ho, resolve, invoke, builtin, Sem.run_bind, Sem.run_pure, Result.andThen_ok, List.map_toArray, List.map_cons, List.map_nil, hs, hx, hr]
  exact h v' w' h2 h3
end Go.Proofs.Ytcbcfjflaplkoaa
namespace Go.Proofs.Ytcbcfjflaplkoaa
open Go.ChangeShapes Go.WideShapes Go.ChangeAt Go.RowKit
set_option linter.unusedVariables false
set_option linter.unusedSimpArgs false
theorem owns_key {w : World} (K : List Int) (h : K.length = 32) : (w.alloc (.cells (ints .u8 K) 28)).ownsRow w.heap.size 28 32 (.slice (some ⟨w.heap.size, 0, none⟩) 1 1) 1 (K.map (Value.int .u8)) := by
  have := owns_one (w := w) (t := 28) (size := 32) (ints .u8 K) (by rw [ints_size, h])
  simpa [ints] using this
set_option maxRecDepth 100000 in
set_option maxHeartbeats 8000000 in
theorem range_spec : ∀ (n : Nat) (b off cap : Nat) (i j : Int) (fl : List Int) (w : World), 1 ≤ n → n ≤ 1048576 → n ≤ cap → cap ≤ maxLen → (n : Int) - 2097152 ≤ i → i ≤ 2097152 → (n : Int) - 2097152 ≤ j → j ≤ 2097152 → (∀ z ∈ fl, 0 ≤ z ∧ z ≤ 255) → RdK w (some ⟨b, off, none⟩) n fl →
    Calls Try.prog 89 #[.slice (some ⟨b, off, none⟩) n cap, .int .i64 i, .int .i64 j] w fun e w' => ∃ v, e = .returned v ∧ w'.ownsRow w.heap.size 28 32 v (rgN n i j) ((rg (keyAt fl) 0 n i j).map (Value.int .u8)) ∧ Below w.heap.size w w' := by
  intro n
  induction n using Nat.strongRecOn with
  | _ n ih =>
    intro b off cap i j fl w h1 hn hc hm hi1 hi2 hj1 hj2 fb hr
    obtain ⟨i0, z0, hi0, hz0, hz1, hz2, hzs, hzc⟩ := keyParts
    have Hi := Lib.hid hi0
    clear hi0 hzc
    have cn : (1 : Int) ≤ (n : Int) := by omega
    have cn2 : (n : Int) ≤ 1048576 := by omega
    by_cases h : j ≤ 0 ∨ (n : Int) ≤ i
    · rw [rgN_miss h, rg_miss h]
      have Hk := Lib.hid (key_spec n b off cap fl w h1 hn hc hm fb hr)
      have HKL := Lib.hid (tkey_len (kf := keyAt fl) (b := 0) (n := n) h1 (fun k hk => keyAt_len hr.1 (by omega)))
      clear ih hr fb
      generalize tkey (keyAt fl) 0 n = K at Hk HKL ⊢
      by_cases h3 : j ≤ 0
      · go_enter Try.func89, Try.ntmps89
        go_wp2_with fail
        refine Hk.out.mono ?_
        rintro e w1 ⟨rfl, hb⟩
        have B1 := Lib.hid hb
        clear hb
        go_wp2_with (refine wpList_buildSlice_one rfl 24 28 _ rfl Try.underlying24 Hi.out hz0 (ints .u8 K) rfl (by rw [ints_size, HKL.out, hz1]) (by rw [hz1]; decide) (by rw [hz1]; decide) ?_)
        go_ret
        exact ⟨_, rfl, owns_base B1.out.size (owns_key K HKL.out), B1.out.alloc B1.out.size _⟩
      · have h4 : (n : Int) ≤ i := by omega
        go_enter Try.func89, Try.ntmps89
        go_wp2_with fail
        refine Hk.out.mono ?_
        rintro e w1 ⟨rfl, hb⟩
        have B1 := Lib.hid hb
        clear hb
        go_wp2_with (refine wpList_buildSlice_one rfl 24 28 _ rfl Try.underlying24 Hi.out hz0 (ints .u8 K) rfl (by rw [ints_size, HKL.out, hz1]) (by rw [hz1]; decide) (by rw [hz1]; decide) ?_)
        go_ret
        exact ⟨_, rfl, owns_base B1.out.size (owns_key K HKL.out), B1.out.alloc B1.out.size _⟩
    · by_cases h2 : n ≤ 1 ∨ (i ≤ 0 ∧ (n : Int) ≤ j)
      · rw [rgN_in h h2, rg_in h h2]
        have O1 := Lib.hid (owns_empty w 28 32)
        have B1 := Lib.hid ((Below.refl w.heap.size w).alloc (Nat.le_refl _) (.cells #[] 28))
        have h3 : ¬ j ≤ 0 := by omega
        have h4 : ¬ (n : Int) ≤ i := by omega
        clear ih hr fb
        by_cases h5 : n = 1
        · subst h5
          go_enter Try.func89, Try.ntmps89
          go_wp2_with fail
          go_ret
          exact ⟨_, rfl, O1.out, B1.out⟩
        · have h6 : i ≤ 0 := by omega
          have h7 : (n : Int) ≤ j := by omega
          have h8 : ¬ (n : Int) = 1 := by omega
          go_enter Try.func89, Try.ntmps89
          go_wp2_with fail
          go_ret
          exact ⟨_, rfl, O1.out, B1.out⟩
      · have h3 : ¬ j ≤ 0 := by omega
        have h4 : ¬ (n : Int) ≤ i := by omega
        have h5 : ¬ (n : Int) = 1 := by omega
        have j0 : 0 < j := by omega
        have i0' : i < (n : Int) := by omega
        rw [rgN_two h h2, rg_two h h2]
        have hm1 := half_pos n
        have hm2 := half_lt (n := n) (by omega)
        have Hhalf := Lib.hid (fun W => half_spec n (by omega) hn W)
        have HA := Lib.hid (fun W (hB : Below w.heap.size w W) => by
          have := ih (half n) hm2 b off cap i j (fl.take (32 * half n)) W (by omega) (by omega) (by omega) hm (by omega) (by omega) (by omega) (by omega) (fun z hz => fb z (List.mem_of_mem_take hz)) ((hr.below hB).take (by omega))
          rwa [rg_congr (kf := keyAt (fl.take (32 * half n))) (kg := keyAt fl) (half n) 0 0 i j (by omega) (fun k hk => by rw [Nat.zero_add]; exact keyAt_take hk)] at this)
        have HB := Lib.hid (fun W (hB : Below w.heap.size w W) => by
          have := ih (n - half n) (by omega) b (off + half n * 32) (cap - half n) (i - (half n : Nat)) (j - (half n : Nat)) (fl.drop (32 * half n)) W (by omega) (by omega) (by omega) (by omega) (by omega) (by omega) (by omega) (by omega) (fun z hz => fb z (List.mem_of_mem_drop hz)) ((hr.below hB).drop (by omega))
          rwa [rg_congr (kf := keyAt (fl.drop (32 * half n))) (kg := keyAt fl) (n - half n) 0 (0 + half n) _ _ (by omega) (fun k hk => by rw [keyAt_drop, Nat.zero_add, Nat.zero_add])] at this)
        have HD := Lib.hid (show rgN (half n) i j + rgN (n - half n) (i - (half n : Nat)) (j - (half n : Nat)) ≤ 1048576 by
          have := rgN_le (half n) i j (by omega)
          have := rgN_le (n - half n) (i - (half n : Nat)) (j - (half n : Nat)) (by omega)
          omega)
        clear ih hr fb
        generalize rgN (half n) i j = d1 at HA HD ⊢
        generalize rgN (n - half n) (i - (half n : Nat)) (j - (half n : Nat)) = d2 at HB HD ⊢
        generalize rg (keyAt fl) 0 (half n) i j = A at HA ⊢
        generalize rg (keyAt fl) (0 + half n) (n - half n) (i - (half n : Nat)) (j - (half n : Nat)) = B at HB ⊢
        generalize half n = m at hm1 hm2 Hhalf HA HB
        have k2 : (m : Int) < (n : Int) := by omega
        have k3 : (m : Int) < (cap : Int) := by omega
        have k4 : m < n := by omega
        have k5 : (n : Int) ≤ (cap : Int) := by omega
        have k6 : m < cap := by omega
        have k7 : ¬ cap = m := by omega
        have k8 : ¬ n < m := by omega
        have k10 : ¬ cap < m := by omega
        have k9 : (0 : Int) ≤ (m : Int) := by omega
        have k12 : (m : Int) ≤ 1048576 := by omega
        unfold maxLen at hm
        by_cases h6 : i ≤ 0
        · have h7 : ¬ (n : Int) ≤ j := by omega
          go_enter Try.func89, Try.ntmps89
          go_wp2_with fail
          refine (Hhalf.out _).mono ?_
          rintro e w1 ⟨rfl, rfl⟩
          go_wp2_with fail
          refine wp_region_held_drew (S := fun _ => True) (by kernel_rfl) trivial (fun hS => ?_)
          have C0 := Lib.hid ((Below.refl w.heap.size w).drew)
          refine take_at (i := 0) (v := .slice (some ⟨b, off, none⟩) n cap) rfl rfl (by kernel_rfl) (by kernel_rfl) (by kernel_rfl) (fun _ _ _ h => h) (Or.inl ⟨by rfl, fun W hW => by go_simp⟩) hS ?_
          try simp only [List.setIfInBounds_toArray, List.set_cons_zero, List.set_cons_succ]
          refine take_at (i := 1) (v := .int .i64 (m : Int)) rfl rfl (by kernel_rfl) (by kernel_rfl) (by kernel_rfl) (fun _ _ _ h => h) (Or.inl ⟨by rfl, fun W hW => by go_simp⟩) hS ?_
          try simp only [List.setIfInBounds_toArray, List.set_cons_zero, List.set_cons_succ]
          refine take_at (i := 2) (v := .slice (some ⟨b, off, none⟩) m cap) rfl rfl (by kernel_rfl) (by kernel_rfl) (by kernel_rfl) (fun _ _ _ h => h) (Or.inl ⟨by rfl, fun W hW => by go_simp⟩) hS ?_
          try simp only [List.setIfInBounds_toArray, List.set_cons_zero, List.set_cons_succ]
          refine take_at (i := 3) (v := .int .i64 i) rfl rfl (by kernel_rfl) (by kernel_rfl) (by kernel_rfl) (fun _ _ _ h => h) (Or.inl ⟨by rfl, fun W hW => by go_simp⟩) hS ?_
          try simp only [List.setIfInBounds_toArray, List.set_cons_zero, List.set_cons_succ]
          refine take_at (i := 4) (v := .int .i64 j) rfl rfl (by kernel_rfl) (by kernel_rfl) (by kernel_rfl) (fun _ _ _ h => h) (Or.inl ⟨by rfl, fun W hW => by go_simp⟩) hS ?_
          try simp only [List.setIfInBounds_toArray, List.set_cons_zero, List.set_cons_succ]
          refine take_at (i := 6) (v := .slice (some ⟨b, off, none⟩) n cap) rfl rfl (by kernel_rfl) (by kernel_rfl) (by kernel_rfl) (fun _ _ _ h => h) (Or.inl ⟨by rfl, fun W hW => by go_simp⟩) hS ?_
          try simp only [List.setIfInBounds_toArray, List.set_cons_zero, List.set_cons_succ]
          refine take_at (i := 7) (v := .int .i64 (m : Int)) rfl rfl (by kernel_rfl) (by kernel_rfl) (by kernel_rfl) (fun _ _ _ h => h) (Or.inl ⟨by rfl, fun W hW => by go_simp⟩) hS ?_
          try simp only [List.setIfInBounds_toArray, List.set_cons_zero, List.set_cons_succ]
          refine take_at (i := 8) (v := .slice (some ⟨b, off + m * 32, none⟩) (n - m) (cap - m)) rfl rfl (by kernel_rfl) (by kernel_rfl) (by kernel_rfl) (fun _ _ _ h => h) (Or.inl ⟨by rfl, fun W hW => by go_simp⟩) hS ?_
          try simp only [List.setIfInBounds_toArray, List.set_cons_zero, List.set_cons_succ]
          refine take_at (i := 9) (v := .int .i64 i) rfl rfl (by kernel_rfl) (by kernel_rfl) (by kernel_rfl) (fun _ _ _ h => h) (Or.inl ⟨by rfl, fun W hW => by go_simp⟩) hS ?_
          try simp only [List.setIfInBounds_toArray, List.set_cons_zero, List.set_cons_succ]
          refine take_at (i := 10) (v := .int .i64 (m : Int)) rfl rfl (by kernel_rfl) (by kernel_rfl) (by kernel_rfl) (fun _ _ _ h => h) (Or.inl ⟨by rfl, fun W hW => by go_simp⟩) hS ?_
          try simp only [List.setIfInBounds_toArray, List.set_cons_zero, List.set_cons_succ]
          refine take_at (i := 11) (v := .int .i64 (i - (m : Int))) rfl rfl (by kernel_rfl) (by kernel_rfl) (by kernel_rfl) (fun _ _ _ h => h) (Or.inl ⟨by rfl, fun W hW => by go_simp; rw [IntKind.wrap_i64]; omega⟩) hS ?_
          try simp only [List.setIfInBounds_toArray, List.set_cons_zero, List.set_cons_succ]
          refine take_at (i := 12) (v := .int .i64 j) rfl rfl (by kernel_rfl) (by kernel_rfl) (by kernel_rfl) (fun _ _ _ h => h) (Or.inl ⟨by rfl, fun W hW => by go_simp⟩) hS ?_
          try simp only [List.setIfInBounds_toArray, List.set_cons_zero, List.set_cons_succ]
          refine take_at (i := 13) (v := .int .i64 (m : Int)) rfl rfl (by kernel_rfl) (by kernel_rfl) (by kernel_rfl) (fun _ _ _ h => h) (Or.inl ⟨by rfl, fun W hW => by go_simp⟩) hS ?_
          try simp only [List.setIfInBounds_toArray, List.set_cons_zero, List.set_cons_succ]
          refine take_at (i := 14) (v := .int .i64 (j - (m : Int))) rfl rfl (by kernel_rfl) (by kernel_rfl) (by kernel_rfl) (fun _ _ _ h => h) (Or.inl ⟨by rfl, fun W hW => by go_simp; rw [IntKind.wrap_i64]; omega⟩) hS ?_
          try simp only [List.setIfInBounds_toArray, List.set_cons_zero, List.set_cons_succ]
          refine wpAnyH_ready (rs := [5]) (by kernel_rfl) (by simp) ?_
          refine AllReadyH.cons rfl (fun K' hK => ?_) AllReadyH.nil
          rw [if_pos (by rfl)]
          go_simp
          refine (HA.out _ C0.out).mono ?_
          rintro e u1 ⟨v1, rfl, hown, hb⟩
          have C1 := Lib.hid (below_call C0.out C0.out.size hb)
          have O1 := Lib.hid (owns_base C0.out.size hown)
          clear hb hown
          refine hK.out _ _ trivial (fun hS => ?_)
          clear hK
          refine wpAnyH_ready (rs := [15]) (by kernel_rfl) (by simp) ?_
          refine AllReadyH.cons rfl (fun K' hK => ?_) AllReadyH.nil
          rw [if_pos (by rfl)]
          go_simp
          refine (HB.out _ C1.out).mono ?_
          rintro e u2 ⟨v2, rfl, hown, hb⟩
          have C2 := Lib.hid (below_call C1.out C1.out.size hb)
          have P2 := Lib.hid hown
          have O2 := Lib.hid (owns_below O1.out hb)
          clear hb hown
          refine hK.out _ _ trivial (fun hS => ?_)
          clear hK
          refine wpAnyH_ready (rs := [16]) (by kernel_rfl) (by simp) ?_
          refine AllReadyH.cons rfl (fun K' hK => ?_) AllReadyH.nil
          rw [if_pos (by rfl)]
          refine wp_append_rows _ _ 24 rfl 28 i0 z0 32 32 Try.underlying24 Hi.out hz0 hz1 hz2 hzs (by decide) v1 d1 _ rfl O2.out v2 d2 _ rfl P2.out ?c1 ?c2 ?c3 ?c4 ?_
          case c1 =>
            intro u hu
            obtain ⟨z, _, rfl⟩ := List.mem_map.1 hu
            rfl
          case c2 => have := HD.out; unfold maxLen; omega
          case c3 => have := HD.out; omega
          case c4 => exact C2.out.size
          intro v4 w4 hown4 hgrow4
          have O4 := Lib.hid hown4
          have C4 := Lib.hid (C2.out.grown hgrow4 C2.out.size (fun g e => (O2.out.lt g e).1))
          refine hK.out _ _ trivial (fun hS => ?_)
          clear hK hown4 hgrow4
          refine take_at (i := 17) (v := v4) rfl rfl (by kernel_rfl) (by kernel_rfl) (by kernel_rfl) (fun _ _ _ h => h) (Or.inl ⟨by rfl, fun W hW => by go_simp⟩) hS ?_
          try simp only [List.setIfInBounds_toArray, List.set_cons_zero, List.set_cons_succ]
          refine wpAnyH_done (by kernel_rfl) ?_ _
          clear hS
          go_wp2_with fail
          go_ret
          exact ⟨_, rfl, by rw [List.map_append]; exact O4.out, C4.out⟩
        · have h6' : 0 < i := by omega
          go_enter Try.func89, Try.ntmps89
          go_wp2_with fail
          refine (Hhalf.out _).mono ?_
          rintro e w1 ⟨rfl, rfl⟩
          go_wp2_with fail
          refine wp_region_held_drew (S := fun _ => True) (by kernel_rfl) trivial (fun hS => ?_)
          have C0 := Lib.hid ((Below.refl w.heap.size w).drew)
          refine take_at (i := 0) (v := .slice (some ⟨b, off, none⟩) n cap) rfl rfl (by kernel_rfl) (by kernel_rfl) (by kernel_rfl) (fun _ _ _ h => h) (Or.inl ⟨by rfl, fun W hW => by go_simp⟩) hS ?_
          try simp only [List.setIfInBounds_toArray, List.set_cons_zero, List.set_cons_succ]
          refine take_at (i := 1) (v := .int .i64 (m : Int)) rfl rfl (by kernel_rfl) (by kernel_rfl) (by kernel_rfl) (fun _ _ _ h => h) (Or.inl ⟨by rfl, fun W hW => by go_simp⟩) hS ?_
          try simp only [List.setIfInBounds_toArray, List.set_cons_zero, List.set_cons_succ]
          refine take_at (i := 2) (v := .slice (some ⟨b, off, none⟩) m cap) rfl rfl (by kernel_rfl) (by kernel_rfl) (by kernel_rfl) (fun _ _ _ h => h) (Or.inl ⟨by rfl, fun W hW => by go_simp⟩) hS ?_
          try simp only [List.setIfInBounds_toArray, List.set_cons_zero, List.set_cons_succ]
          refine take_at (i := 3) (v := .int .i64 i) rfl rfl (by kernel_rfl) (by kernel_rfl) (by kernel_rfl) (fun _ _ _ h => h) (Or.inl ⟨by rfl, fun W hW => by go_simp⟩) hS ?_
          try simp only [List.setIfInBounds_toArray, List.set_cons_zero, List.set_cons_succ]
          refine take_at (i := 4) (v := .int .i64 j) rfl rfl (by kernel_rfl) (by kernel_rfl) (by kernel_rfl) (fun _ _ _ h => h) (Or.inl ⟨by rfl, fun W hW => by go_simp⟩) hS ?_
          try simp only [List.setIfInBounds_toArray, List.set_cons_zero, List.set_cons_succ]
          refine take_at (i := 6) (v := .slice (some ⟨b, off, none⟩) n cap) rfl rfl (by kernel_rfl) (by kernel_rfl) (by kernel_rfl) (fun _ _ _ h => h) (Or.inl ⟨by rfl, fun W hW => by go_simp⟩) hS ?_
          try simp only [List.setIfInBounds_toArray, List.set_cons_zero, List.set_cons_succ]
          refine take_at (i := 7) (v := .int .i64 (m : Int)) rfl rfl (by kernel_rfl) (by kernel_rfl) (by kernel_rfl) (fun _ _ _ h => h) (Or.inl ⟨by rfl, fun W hW => by go_simp⟩) hS ?_
          try simp only [List.setIfInBounds_toArray, List.set_cons_zero, List.set_cons_succ]
          refine take_at (i := 8) (v := .slice (some ⟨b, off + m * 32, none⟩) (n - m) (cap - m)) rfl rfl (by kernel_rfl) (by kernel_rfl) (by kernel_rfl) (fun _ _ _ h => h) (Or.inl ⟨by rfl, fun W hW => by go_simp⟩) hS ?_
          try simp only [List.setIfInBounds_toArray, List.set_cons_zero, List.set_cons_succ]
          refine take_at (i := 9) (v := .int .i64 i) rfl rfl (by kernel_rfl) (by kernel_rfl) (by kernel_rfl) (fun _ _ _ h => h) (Or.inl ⟨by rfl, fun W hW => by go_simp⟩) hS ?_
          try simp only [List.setIfInBounds_toArray, List.set_cons_zero, List.set_cons_succ]
          refine take_at (i := 10) (v := .int .i64 (m : Int)) rfl rfl (by kernel_rfl) (by kernel_rfl) (by kernel_rfl) (fun _ _ _ h => h) (Or.inl ⟨by rfl, fun W hW => by go_simp⟩) hS ?_
          try simp only [List.setIfInBounds_toArray, List.set_cons_zero, List.set_cons_succ]
          refine take_at (i := 11) (v := .int .i64 (i - (m : Int))) rfl rfl (by kernel_rfl) (by kernel_rfl) (by kernel_rfl) (fun _ _ _ h => h) (Or.inl ⟨by rfl, fun W hW => by go_simp; rw [IntKind.wrap_i64]; omega⟩) hS ?_
          try simp only [List.setIfInBounds_toArray, List.set_cons_zero, List.set_cons_succ]
          refine take_at (i := 12) (v := .int .i64 j) rfl rfl (by kernel_rfl) (by kernel_rfl) (by kernel_rfl) (fun _ _ _ h => h) (Or.inl ⟨by rfl, fun W hW => by go_simp⟩) hS ?_
          try simp only [List.setIfInBounds_toArray, List.set_cons_zero, List.set_cons_succ]
          refine take_at (i := 13) (v := .int .i64 (m : Int)) rfl rfl (by kernel_rfl) (by kernel_rfl) (by kernel_rfl) (fun _ _ _ h => h) (Or.inl ⟨by rfl, fun W hW => by go_simp⟩) hS ?_
          try simp only [List.setIfInBounds_toArray, List.set_cons_zero, List.set_cons_succ]
          refine take_at (i := 14) (v := .int .i64 (j - (m : Int))) rfl rfl (by kernel_rfl) (by kernel_rfl) (by kernel_rfl) (fun _ _ _ h => h) (Or.inl ⟨by rfl, fun W hW => by go_simp; rw [IntKind.wrap_i64]; omega⟩) hS ?_
          try simp only [List.setIfInBounds_toArray, List.set_cons_zero, List.set_cons_succ]
          refine wpAnyH_ready (rs := [5]) (by kernel_rfl) (by simp) ?_
          refine AllReadyH.cons rfl (fun K' hK => ?_) AllReadyH.nil
          rw [if_pos (by rfl)]
          go_simp
          refine (HA.out _ C0.out).mono ?_
          rintro e u1 ⟨v1, rfl, hown, hb⟩
          have C1 := Lib.hid (below_call C0.out C0.out.size hb)
          have O1 := Lib.hid (owns_base C0.out.size hown)
          clear hb hown
          refine hK.out _ _ trivial (fun hS => ?_)
          clear hK
          refine wpAnyH_ready (rs := [15]) (by kernel_rfl) (by simp) ?_
          refine AllReadyH.cons rfl (fun K' hK => ?_) AllReadyH.nil
          rw [if_pos (by rfl)]
          go_simp
          refine (HB.out _ C1.out).mono ?_
          rintro e u2 ⟨v2, rfl, hown, hb⟩
          have C2 := Lib.hid (below_call C1.out C1.out.size hb)
          have P2 := Lib.hid hown
          have O2 := Lib.hid (owns_below O1.out hb)
          clear hb hown
          refine hK.out _ _ trivial (fun hS => ?_)
          clear hK
          refine wpAnyH_ready (rs := [16]) (by kernel_rfl) (by simp) ?_
          refine AllReadyH.cons rfl (fun K' hK => ?_) AllReadyH.nil
          rw [if_pos (by rfl)]
          refine wp_append_rows _ _ 24 rfl 28 i0 z0 32 32 Try.underlying24 Hi.out hz0 hz1 hz2 hzs (by decide) v1 d1 _ rfl O2.out v2 d2 _ rfl P2.out ?c1 ?c2 ?c3 ?c4 ?_
          case c1 =>
            intro u hu
            obtain ⟨z, _, rfl⟩ := List.mem_map.1 hu
            rfl
          case c2 => have := HD.out; unfold maxLen; omega
          case c3 => have := HD.out; omega
          case c4 => exact C2.out.size
          intro v4 w4 hown4 hgrow4
          have O4 := Lib.hid hown4
          have C4 := Lib.hid (C2.out.grown hgrow4 C2.out.size (fun g e => (O2.out.lt g e).1))
          refine hK.out _ _ trivial (fun hS => ?_)
          clear hK hown4 hgrow4
          refine take_at (i := 17) (v := v4) rfl rfl (by kernel_rfl) (by kernel_rfl) (by kernel_rfl) (fun _ _ _ h => h) (Or.inl ⟨by rfl, fun W hW => by go_simp⟩) hS ?_
          try simp only [List.setIfInBounds_toArray, List.set_cons_zero, List.set_cons_succ]
          refine wpAnyH_done (by kernel_rfl) ?_ _
          clear hS
          go_wp2_with fail
          go_ret
          exact ⟨_, rfl, by rw [List.map_append]; exact O4.out, C4.out⟩
end Go.Proofs.Ytcbcfjflaplkoaa
namespace Go.Proofs.Ytcbcfjflaplkoaa
open Go.ChangeShapes Go.WideShapes Go.ChangeAt Go.RowKit
set_option linter.unusedVariables false
set_option linter.unusedSimpArgs false
set_option maxRecDepth 100000 in
set_option maxHeartbeats 2000000 in
theorem span_implR (blk off n cap b e : Nat) (fl : List Int) (hb : b < e) (he : e ≤ n) (hn : n ≤ 1048576) (hc : n ≤ cap) (hm : cap ≤ maxLen) (fb : ∀ z ∈ fl, 0 ≤ z ∧ z ≤ 255) (w : World) (hr : RdK w (some ⟨blk, off, none⟩) n fl) :
    Calls Try.prog 72 #[.slice (some ⟨blk, off, none⟩) n cap, .agg (spanA b e), .func (.func 46) #[] #[]] w fun x w' => x = .returned (.agg (ints .u8 (tkey (keyAt fl) b (e - b)))) ∧ Below w.heap.size w w' := by
  have Hz := Lib.hid z32_ints
  have BW := Lib.hid (((Below.refl w.heap.size w).alloc (Nat.le_refl _) (.cells (spanA b e) 96)).alloc (by simp) (.cells (ints .u8 z32) 28))
  have GS := Lib.hid (heap_alloc2_old w (.cells (spanA b e) 96) (.cells (ints .u8 z32) 28))
  have GK := Lib.hid (heap_alloc2_new w (.cells (spanA b e) 96) (.cells (ints .u8 z32) 28))
  obtain ⟨W0, hW0⟩ : ∃ W0, (w.alloc (.cells (spanA b e) 96)).alloc (.cells (ints .u8 z32) 28) = W0 := ⟨_, rfl⟩
  rw [hW0] at BW GS GK
  have Hp := Lib.hid (part_impl blk off n (cap - b) b (e - b) fl (by omega) (by omega) hn fb W0 (hr.below BW.out))
  have Hvl := Lib.hid (tkey_len (kf := keyAt fl) (b := b) (n := e - b) (by omega) (fun j hj => keyAt_len hr.1 (by omega)))
  have cs0 : W0.cell? ⟨w.heap.size, 0, none⟩ = some (.int .i64 (b : Int)) := (cell_of_row W0 w.heap.size 0 _ _ _ GS.out).trans rfl
  have cs1 : W0.cell? ⟨w.heap.size, 1, none⟩ = some (.int .i64 (e : Int)) := (cell_of_row W0 w.heap.size 1 _ _ _ GS.out).trans rfl
  clear hr fb
  generalize tkey (keyAt fl) b (e - b) = V at Hp Hvl ⊢
  have d1 : (b : Int) < (e : Int) := by omega
  have d2 : (e : Int) ≤ (cap : Int) := by omega
  have d3 : (0 : Int) ≤ (b : Int) := by omega
  have d4 : ¬ cap = b := by omega
  have d5 : ¬ e < b := by omega
  have d6 : (e : Int) ≤ 1048576 := by omega
  have d7 : b ≤ e := by omega
  have d8 : e ≤ cap := by omega
  rw [Hz.out] at hW0
  unfold spanA at hW0 ⊢
  go_enter Try.func72, Try.ntmps72
  go_wp2_with fail
  clear hW0 cs0 cs1
  refine Hp.out.mono ?_
  rintro x w1 ⟨rfl, hb1⟩
  have G1 := Lib.hid (keep_block GK.out hb1)
  have B1 := Lib.hid (below_call BW.out BW.out.size hb1)
  clear hb1
  go_wp2_with (refine wpList_store_row rfl 28 _ _ rfl (w.heap.size + 1) (ints .u8 V) rfl rfl 28 (ints .u8 z32) G1.out (by rw [ints_size, Hvl.out]; exact sizeKey) (by rw [ints_size, ints_size, Hvl.out]; rfl) (ints_one _ _) ?_)
  refine bodyPost_ret (results_cell_row rfl _ _ (w.heap.size + 1) 28 (ints .u8 V) (0, 0) _ rfl (setRow_heap _ _ (ints .u8 z32) _ _ _ G1.out) Try.underlying28 rfl (by rw [ints_size, Hvl.out]; exact sizeKey)) rfl ⟨rfl, ?_⟩
  exact Below.setRow B1.out (by omega) _
set_option maxHeartbeats 1000000 in
theorem misses_yes (b e i j : Nat) (h : e ≤ i ∨ j ≤ b) (w : World) : Calls Try.prog 71 #[.agg #[.int .i64 (b : Int), .int .i64 (e : Int)], .agg #[.int .i64 (i : Int), .int .i64 (j : Int)]] w fun x w' => x = .returned (.bool true) ∧ Below w.heap.size w w' := by
  by_cases h1 : e ≤ i
  · have k1 : (e : Int) ≤ (i : Int) := by omega
    go_enter Try.func71, Try.ntmps71
    go_wp2
    go_ret
    exact ⟨rfl, ((Below.refl _ _).alloc (Nat.le_refl _) _).alloc (by simp) _⟩
  · have k1 : ¬ (e : Int) ≤ (i : Int) := by omega
    have k2 : (j : Int) ≤ (b : Int) := by omega
    go_enter Try.func71, Try.ntmps71
    go_wp2
    go_ret
    exact ⟨rfl, ((Below.refl _ _).alloc (Nat.le_refl _) _).alloc (by simp) _⟩
set_option maxHeartbeats 1000000 in
theorem misses_no (b e i j : Nat) (h : ¬ (e ≤ i ∨ j ≤ b)) (w : World) : Calls Try.prog 71 #[.agg #[.int .i64 (b : Int), .int .i64 (e : Int)], .agg #[.int .i64 (i : Int), .int .i64 (j : Int)]] w fun x w' => x = .returned (.bool false) ∧ Below w.heap.size w w' := by
  have k1 : ¬ (e : Int) ≤ (i : Int) := by omega
  have k2 : ¬ (j : Int) ≤ (b : Int) := by omega
  go_enter Try.func71, Try.ntmps71
  go_wp2
  go_ret
  exact ⟨rfl, ((Below.refl _ _).alloc (Nat.le_refl _) _).alloc (by simp) _⟩
/-- A step of the walk: what lies below base is kept, and so are all blocks that hold no keys, but the proof's box. -/
structure RStep (base pb : Nat) (W W' : World) : Prop where
  below : Below base W W'
  kept : ∀ (g : Nat) (c : Array Value) (ST : TypeId) (fr : Nat × Nat), g ≠ pb → 28 ≠ ST → W.heap[g]? = some (.cells c ST fr) → W'.heap[g]? = some (.cells c ST fr)
theorem RStep.refl (base pb : Nat) (W : World) : RStep base pb W W := ⟨Below.refl _ _, fun _ _ _ _ _ _ h => h⟩
theorem RStep.trans {base pb : Nat} {A B C : World} (h : RStep base pb A B) (k : RStep base pb B C) : RStep base pb A C := ⟨h.below.trans k.below, fun g c ST fr hg hT hh => k.kept g c ST fr hg hT (h.kept g c ST fr hg hT hh)⟩
theorem RStep.of {base pb : Nat} {A B : World} (hb : base ≤ A.heap.size) (h : Below A.heap.size A B) : RStep base pb A B := ⟨h.mono hb, fun g c ST fr _ _ hh => keep_block hh h⟩
theorem RStep.grow {base pb k size : Nat} {A B : World} {v : Value} {xs : List Value} (o : A.ownsRow base 28 size v k xs) (h : A.grownBy B v.ownBlock) (hb : base ≤ A.heap.size) : RStep base pb A B :=
  ⟨(Below.refl base A).grown h hb (fun g e => (o.lt g e).1), fun g c ST fr _ hT hh => (h.block g (Array.getElem?_eq_some_iff.1 hh).1 (fun e => owns_ne o hh hT e.symm)).trans hh⟩
theorem RStep.set {base pb : Nat} {A : World} (hp : base ≤ pb) (u : Value) : RStep base pb A (A.setCell ⟨pb, 0, none⟩ u) :=
  ⟨Below.setCell (Below.refl _ _) hp u, fun g c ST fr hg _ hh => (heap_setCell_other _ _ _ _ hg).trans hh⟩
/-- The variables of the closure. -/
structure REnv (w0 : World) (ib jb pb lb wb blk off N cap i j : Nat) (W : World) : Prop where
  bi : W.heap[ib]? = some (.cells #[.int .i64 (i : Int)] 2)
  bj : W.heap[jb]? = some (.cells #[.int .i64 (j : Int)] 2)
  bl : W.heap[lb]? = some (.cells #[.slice (some ⟨blk, off, none⟩) N cap] 24)
  bw : W.heap[wb]? = some (.cells #[.func (.func 70) #[] #[.pointer (some ⟨ib, 0, none⟩), .pointer (some ⟨jb, 0, none⟩), .pointer (some ⟨pb, 0, none⟩), .pointer (some ⟨lb, 0, none⟩), .pointer (some ⟨wb, 0, none⟩)]] 94)
  below : Below w0.heap.size w0 W
theorem REnv.step {w0 : World} {ib jb pb lb wb blk off N cap i j : Nat} {W U : World} (h : REnv w0 ib jb pb lb wb blk off N cap i j W) (n1 : ib ≠ pb) (n2 : jb ≠ pb) (n3 : lb ≠ pb) (n4 : wb ≠ pb) (k : RStep w0.heap.size pb W U) : REnv w0 ib jb pb lb wb blk off N cap i j U :=
  ⟨k.kept _ _ _ _ n1 (by decide) h.bi, k.kept _ _ _ _ n2 (by decide) h.bj, k.kept _ _ _ _ n3 (by decide) h.bl, k.kept _ _ _ _ n4 (by decide) h.bw, h.below.trans k.below⟩
set_option maxRecDepth 100000 in
set_option maxHeartbeats 8000000 in
theorem walkR_impl (w0 : World) (ib jb pb lb wb blk off N cap i j : Nat) (fl : List Int) (hN : N ≤ 1048575) (hc : N ≤ cap) (hm : cap ≤ maxLen) (fb : ∀ z ∈ fl, 0 ≤ z ∧ z ≤ 255) (hij : i < j) (hj : j ≤ N) (hr0 : RdK w0 (some ⟨blk, off, none⟩) N fl)
    (n1 : ib ≠ pb) (n2 : jb ≠ pb) (n3 : lb ≠ pb) (n4 : wb ≠ pb) (hpb : w0.heap.size ≤ pb) :
    ∀ (n b k : Nat) (v : Value) (pre : List Int) (W : World), 1 ≤ n → b + n ≤ N → k ≤ b → w0.heap.size ≤ W.heap.size → REnv w0 ib jb pb lb wb blk off N cap i j W → W.heap[pb]? = some (.cells #[v] 24) → W.ownsRow w0.heap.size 28 32 v k (pre.map (Value.int .u8)) →
      Calls Try.prog 70 #[.agg (spanA b (b + n)), .pointer (some ⟨ib, 0, none⟩), .pointer (some ⟨jb, 0, none⟩), .pointer (some ⟨pb, 0, none⟩), .pointer (some ⟨lb, 0, none⟩), .pointer (some ⟨wb, 0, none⟩)] W fun x w' => x = .returned (.tuple #[]) ∧ RStep w0.heap.size pb W w' ∧ ∃ v', w'.heap[pb]? = some (.cells #[v'] 24) ∧ w'.ownsRow w0.heap.size 28 32 v' (k + rgN n ((i : Int) - (b : Int)) ((j : Int) - (b : Int))) ((pre ++ rg (keyAt fl) b n ((i : Int) - (b : Int)) ((j : Int) - (b : Int))).map (Value.int .u8)) := by
  obtain ⟨i0, z0, hi0, hz0, hz1, hz2, hzs, hzc⟩ := keyParts
  have Hi := Lib.hid hi0
  clear hi0 hzc
  have HR0 := Lib.hid hr0
  have HFB := Lib.hid fb
  clear hr0 fb
  intro n
  induction n using Nat.strongRecOn with
  | _ n ih =>
    intro b k v pre W h1 hb hk hW hE hp hown
    have HE := Lib.hid hE
    have HP := Lib.hid hp
    have HO := Lib.hid hown
    have HLL := Lib.hid HR0.out.1
    clear hE hp hown
    have BW := Lib.hid ((Below.refl W.heap.size W).alloc (Nat.le_refl _) (.cells (spanA b (b + n)) 96))
    have GS := Lib.hid (heap_alloc_last W (.cells (spanA b (b + n)) 96))
    obtain ⟨W0, hW0⟩ : ∃ W0, W.alloc (.cells (spanA b (b + n)) 96) = W0 := ⟨_, rfl⟩
    have HSZ : Hid (W0.heap.size = W.heap.size + 1) := Lib.hid (by rw [← hW0]; simp)
    rw [hW0] at BW GS
    have S0 : Hid (RStep w0.heap.size pb W W0) := Lib.hid (RStep.of hW BW.out)
    have E0 := Lib.hid (HE.out.step n1 n2 n3 n4 S0.out)
    have P0 := Lib.hid (keep_block HP.out BW.out)
    have O0 := Lib.hid (owns_below HO.out BW.out)
    have HPS : Hid (W.heap.size ≠ pb) := Lib.hid (fun e => by have := (Array.getElem?_eq_some_iff.1 HP.out).1; omega)
    have ci := cell_of_one E0.out.bi
    have cj := cell_of_one E0.out.bj
    have e1 : ((i : Int) - ((b + half n : Nat) : Int)) = (i : Int) - (b : Int) - (half n : Nat) := by omega
    have e2 : ((j : Int) - ((b + half n : Nat) : Int)) = (j : Int) - (b : Int) - (half n : Nat) := by omega
    by_cases hmiss : b + n ≤ i ∨ j ≤ b
    · have Hms := Lib.hid (fun U => misses_yes b (b + n) i j hmiss U)
      rw [rgN_miss (by omega), rg_miss (by omega)]
      have HKL := Lib.hid (tkey_len (kf := keyAt fl) (b := b) (n := n) h1 (fun q hq => keyAt_len HLL.out (by omega)))
      have Hk := Lib.hid (fun (U : World) (h : Below w0.heap.size w0 U) => span_implR blk off N cap b (b + n) fl (by omega) hb (by omega) hc hm HFB.out U (HR0.out.below h))
      rw [show b + n - b = n by omega] at Hk
      clear ih
      generalize tkey (keyAt fl) b n = K at Hk HKL ⊢
      go_enter Try.func70, Try.ntmps70
      go_wp2_with (refine wpList_load_row rfl 96 (.tmp 6) rfl W.heap.size rfl 96 (spanA b (b + n)) (0, 0) _ GS.out Try.underlying96 rfl sizeSpan ?_)
      clear hW0 ci cj
      refine (Hms.out _).mono ?_
      rintro x w1 ⟨rfl, hb1⟩
      have S1 := Lib.hid (S0.out.trans (RStep.of (Nat.le_trans hW BW.out.size) hb1))
      have E1 := Lib.hid (HE.out.step n1 n2 n3 n4 S1.out)
      have P1 := Lib.hid (keep_block P0.out hb1)
      have O1 := Lib.hid (owns_below O0.out hb1)
      have G1 := Lib.hid (keep_block GS.out hb1)
      have Z1 : Hid (w0.heap.size ≤ w1.heap.size ∧ W.heap.size < w1.heap.size) := Lib.hid ⟨by have := hb1.size; have := HSZ.out; omega, by have := hb1.size; have := HSZ.out; omega⟩
      clear hb1 S0 E0 P0 O0 GS BW
      go_wp2_with fail
      refine wp_region_held_drew (S := fun U => U.heap[W.heap.size]? = some (.cells (spanA b (b + n)) 96) ∧ U.heap[lb]? = some (.cells #[.slice (some ⟨blk, off, none⟩) N cap] 24)) (by kernel_rfl) ⟨G1.out, E1.out.bl⟩ (fun hS => ?_)
      have D1 := Lib.hid (show w1.drew.heap[pb]? = some (.cells #[v] 24) ∧ w1.drew.ownsRow w0.heap.size 28 32 v k (pre.map (Value.int .u8)) ∧ RStep w0.heap.size pb w1 w1.drew ∧ Below w0.heap.size w0 w1.drew from ⟨P1.out, owns_below O1.out (Below.drew (Below.refl w1.heap.size w1)), RStep.of Z1.out.1 (Below.drew (Below.refl w1.heap.size w1)), Below.drew E1.out.below⟩)
      have DP := Lib.hid D1.out.1
      have SD := Lib.hid (S1.out.trans D1.out.2.2.1)
      have ZD : Hid (w0.heap.size ≤ w1.drew.heap.size) := Lib.hid Z1.out.1
      generalize w1.drew = WD at *
      refine take_at (i := 1) (v := .slice (some ⟨blk, off, none⟩) N cap) rfl rfl (by kernel_rfl) (by kernel_rfl) (by kernel_rfl) (fun _ _ _ h => h) (Or.inl ⟨by rfl, fun U hU => by
        have hc' := cell_of_one hU.2
        go_simp⟩) hS ?_
      try simp only [List.setIfInBounds_toArray, List.set_cons_zero, List.set_cons_succ]
      refine take_at (i := 2) (v := .agg (spanA b (b + n))) rfl rfl (by kernel_rfl) (by kernel_rfl) (by kernel_rfl) (fun _ _ _ h => h) (yields_row (by rfl) 96 _ rfl W.heap.size rfl (spanA b (b + n)) 96 _ (fun U hU => hU.1) Try.underlying96 rfl sizeSpan) hS ?_
      try simp only [List.setIfInBounds_toArray, List.set_cons_zero, List.set_cons_succ]
      refine wpAnyH_ready (rs := [0, 3]) (by kernel_rfl) (by simp) ?_
      refine AllReadyH.cons rfl (fun K' hK => ?_) (AllReadyH.cons rfl (fun K' hK => ?_) AllReadyH.nil)
      · rw [if_pos (by rfl)]
        have hcp := cell_of_one DP.out
        go_simp
        refine hK.out _ _ hS (fun hS => ?_)
        clear hK hcp
        refine wpAnyH_ready (rs := [3]) (by kernel_rfl) (by simp) ?_
        refine AllReadyH.cons rfl (fun K' hK => ?_) AllReadyH.nil
        rw [if_pos (by rfl)]
        go_simp
        refine (Hk.out _ D1.out.2.2.2).mono ?_
        rintro x u1 ⟨rfl, hb2⟩
        have P2 := Lib.hid (keep_block D1.out.1 hb2)
        have O2 := Lib.hid (owns_below D1.out.2.1 hb2)
        have S2 := Lib.hid (SD.out.trans (RStep.of ZD.out hb2))
        have Z2 : Hid (w0.heap.size ≤ u1.heap.size) := Lib.hid (Nat.le_trans ZD.out hb2.size)
        refine hK.out _ _ ⟨keep_block hS.1 hb2, keep_block hS.2 hb2⟩ (fun hS => ?_)
        clear hK hb2
        refine wpAnyH_ready (rs := [4]) (by kernel_rfl) (by simp) ?_
        refine AllReadyH.cons rfl (fun K' hK => ?_) AllReadyH.nil
        rw [if_pos (by rfl)]
        have LI := (Below.refl u1.heap.size u1).alloc (Nat.le_refl _) (.cells (ints .u8 K) 28)
        have P3 := Lib.hid (keep_block P2.out LI)
        have O3 := Lib.hid (owns_below O2.out LI)
        have S3 := Lib.hid (S2.out.trans (RStep.of Z2.out LI))
        have Z3 : Hid (w0.heap.size ≤ (u1.alloc (.cells (ints .u8 K) 28)).heap.size) := Lib.hid (Nat.le_trans Z2.out LI.size)
        refine wp_buildSlice_one (o := ⟨some 19, _, _, _, _, _⟩) 24 28 _ rfl Try.underlying24 Hi.out hz0 (ints .u8 K) rfl (by rw [ints_size, HKL.out, hz1]) (by rw [hz1]; decide) (by rw [hz1]; decide) ?_
        simp only [Act.put]
        refine hK.out _ _ ⟨keep_block hS.1 LI, keep_block hS.2 LI⟩ (fun hS => ?_)
        clear hK LI
        refine wpAnyH_ready (rs := [5]) (by kernel_rfl) (by simp) ?_
        refine AllReadyH.cons rfl (fun K' hK => ?_) AllReadyH.nil
        rw [if_pos (by rfl)]
        refine wp_append_own _ _ _ 24 rfl w0.heap.size 28 i0 z0 32 32 Try.underlying24 Hi.out hz0 hz1 hz2 hzs (by decide) v k _ rfl O3.out ⟨u1.heap.size, 0, none⟩ 1 1 (K.map (Value.int .u8)) rfl (by rw [List.length_map, HKL.out]) ?c1 ?c2 ?c3 ?c4 ?c5 ?_
        case c1 =>
          intro p u hu
          rw [addr_add, Nat.zero_add, cell_of_row _ u1.heap.size p _ _ _ (heap_alloc_last u1 (.cells (ints .u8 K) 28)), ← hu]
          simp [ints]
        case c2 =>
          intro u hu
          obtain ⟨z, _, rfl⟩ := List.mem_map.1 hu
          rfl
        case c3 => unfold maxLen; omega
        case c4 => omega
        case c5 => exact Z3.out
        intro v4 w4 hown4 hgrow4 hnil4
        obtain ⟨a4, c4, hv4⟩ := owns_slc hown4
        subst hv4
        have O4 := Lib.hid hown4
        have G4 := Lib.hid ((hgrow4.block pb (Array.getElem?_eq_some_iff.1 P3.out).1 (fun h => owns_ne O3.out P3.out (by decide) h.symm)).trans P3.out)
        have SG : RStep w0.heap.size pb (u1.alloc (.cells (ints .u8 K) 28)) w4 := RStep.grow O3.out hgrow4 Z3.out
        have S4 := Lib.hid (S3.out.trans SG)
        refine hK.out _ _ ⟨SG.kept _ _ _ _ HPS.out (by decide) hS.1, SG.kept _ _ _ _ n3 (by decide) hS.2⟩ (fun hS => ?_)
        clear hK hown4 hgrow4 hnil4 SG
        refine wpAnyH_ready (rs := [6]) (by kernel_rfl) (by simp) ?_
        refine AllReadyH.cons rfl (fun K' hK => ?_) AllReadyH.nil
        rw [if_pos (by rfl)]
        have cg := cell_of_one G4.out
        have cf := free_of_one G4.out
        go_simp
        have G5 := Lib.hid (one_setCell (u := .slice a4 (k + 1) c4) G4.out)
        have O5 := Lib.hid (owns_setCell1 (u := .slice a4 (k + 1) c4) (owns_ne O4.out G4.out (by decide)) O4.out)
        have S5 := Lib.hid (S4.out.trans (RStep.set hpb (.slice a4 (k + 1) c4)))
        refine hK.out _ _ ⟨(heap_setCell_other _ ⟨pb, 0, none⟩ _ _ HPS.out).trans hS.1, (heap_setCell_other _ ⟨pb, 0, none⟩ _ _ n3).trans hS.2⟩ (fun hS => ?_)
        clear hK
        refine wpAnyH_done (by kernel_rfl) ?_ _
        go_wp2_with fail
        refine bodyPost_end (results_none rfl _ _ _) rfl ⟨rfl, S5.out, _, G5.out, by rw [List.map_append]; exact O5.out⟩
      · rw [if_pos (by rfl)]
        go_simp
        refine (Hk.out _ D1.out.2.2.2).mono ?_
        rintro x u1 ⟨rfl, hb2⟩
        have P2 := Lib.hid (keep_block D1.out.1 hb2)
        have O2 := Lib.hid (owns_below D1.out.2.1 hb2)
        have S2 := Lib.hid (SD.out.trans (RStep.of ZD.out hb2))
        have Z2 : Hid (w0.heap.size ≤ u1.heap.size) := Lib.hid (Nat.le_trans ZD.out hb2.size)
        refine hK.out _ _ ⟨keep_block hS.1 hb2, keep_block hS.2 hb2⟩ (fun hS => ?_)
        clear hK hb2
        refine wpAnyH_ready (rs := [0, 4]) (by kernel_rfl) (by simp) ?_
        refine AllReadyH.cons rfl (fun K' hK => ?_) (AllReadyH.cons rfl (fun K' hK => ?_) AllReadyH.nil)
        · rw [if_pos (by rfl)]
          have hcp := cell_of_one P2.out
          go_simp
          refine hK.out _ _ hS (fun hS => ?_)
          clear hK hcp
          refine wpAnyH_ready (rs := [4]) (by kernel_rfl) (by simp) ?_
          refine AllReadyH.cons rfl (fun K' hK => ?_) AllReadyH.nil
          rw [if_pos (by rfl)]
          have LI := (Below.refl u1.heap.size u1).alloc (Nat.le_refl _) (.cells (ints .u8 K) 28)
          have P3 := Lib.hid (keep_block P2.out LI)
          have O3 := Lib.hid (owns_below O2.out LI)
          have S3 := Lib.hid (S2.out.trans (RStep.of Z2.out LI))
          have Z3 : Hid (w0.heap.size ≤ (u1.alloc (.cells (ints .u8 K) 28)).heap.size) := Lib.hid (Nat.le_trans Z2.out LI.size)
          refine wp_buildSlice_one (o := ⟨some 19, _, _, _, _, _⟩) 24 28 _ rfl Try.underlying24 Hi.out hz0 (ints .u8 K) rfl (by rw [ints_size, HKL.out, hz1]) (by rw [hz1]; decide) (by rw [hz1]; decide) ?_
          simp only [Act.put]
          refine hK.out _ _ ⟨keep_block hS.1 LI, keep_block hS.2 LI⟩ (fun hS => ?_)
          clear hK LI
          refine wpAnyH_ready (rs := [5]) (by kernel_rfl) (by simp) ?_
          refine AllReadyH.cons rfl (fun K' hK => ?_) AllReadyH.nil
          rw [if_pos (by rfl)]
          refine wp_append_own _ _ _ 24 rfl w0.heap.size 28 i0 z0 32 32 Try.underlying24 Hi.out hz0 hz1 hz2 hzs (by decide) v k _ rfl O3.out ⟨u1.heap.size, 0, none⟩ 1 1 (K.map (Value.int .u8)) rfl (by rw [List.length_map, HKL.out]) ?c1 ?c2 ?c3 ?c4 ?c5 ?_
          case c1 =>
            intro p u hu
            rw [addr_add, Nat.zero_add, cell_of_row _ u1.heap.size p _ _ _ (heap_alloc_last u1 (.cells (ints .u8 K) 28)), ← hu]
            simp [ints]
          case c2 =>
            intro u hu
            obtain ⟨z, _, rfl⟩ := List.mem_map.1 hu
            rfl
          case c3 => unfold maxLen; omega
          case c4 => omega
          case c5 => exact Z3.out
          intro v4 w4 hown4 hgrow4 hnil4
          obtain ⟨a4, c4, hv4⟩ := owns_slc hown4
          subst hv4
          have O4 := Lib.hid hown4
          have G4 := Lib.hid ((hgrow4.block pb (Array.getElem?_eq_some_iff.1 P3.out).1 (fun h => owns_ne O3.out P3.out (by decide) h.symm)).trans P3.out)
          have SG : RStep w0.heap.size pb (u1.alloc (.cells (ints .u8 K) 28)) w4 := RStep.grow O3.out hgrow4 Z3.out
          have S4 := Lib.hid (S3.out.trans SG)
          refine hK.out _ _ ⟨SG.kept _ _ _ _ HPS.out (by decide) hS.1, SG.kept _ _ _ _ n3 (by decide) hS.2⟩ (fun hS => ?_)
          clear hK hown4 hgrow4 hnil4 SG
          refine wpAnyH_ready (rs := [6]) (by kernel_rfl) (by simp) ?_
          refine AllReadyH.cons rfl (fun K' hK => ?_) AllReadyH.nil
          rw [if_pos (by rfl)]
          have cg := cell_of_one G4.out
          have cf := free_of_one G4.out
          go_simp
          have G5 := Lib.hid (one_setCell (u := .slice a4 (k + 1) c4) G4.out)
          have O5 := Lib.hid (owns_setCell1 (u := .slice a4 (k + 1) c4) (owns_ne O4.out G4.out (by decide)) O4.out)
          have S5 := Lib.hid (S4.out.trans (RStep.set hpb (.slice a4 (k + 1) c4)))
          refine hK.out _ _ ⟨(heap_setCell_other _ ⟨pb, 0, none⟩ _ _ HPS.out).trans hS.1, (heap_setCell_other _ ⟨pb, 0, none⟩ _ _ n3).trans hS.2⟩ (fun hS => ?_)
          clear hK
          refine wpAnyH_done (by kernel_rfl) ?_ _
          go_wp2_with fail
          refine bodyPost_end (results_none rfl _ _ _) rfl ⟨rfl, S5.out, _, G5.out, by rw [List.map_append]; exact O5.out⟩
        · rw [if_pos (by rfl)]
          have LI := (Below.refl u1.heap.size u1).alloc (Nat.le_refl _) (.cells (ints .u8 K) 28)
          have P3 := Lib.hid (keep_block P2.out LI)
          have O3 := Lib.hid (owns_below O2.out LI)
          have S3 := Lib.hid (S2.out.trans (RStep.of Z2.out LI))
          have Z3 : Hid (w0.heap.size ≤ (u1.alloc (.cells (ints .u8 K) 28)).heap.size) := Lib.hid (Nat.le_trans Z2.out LI.size)
          refine wp_buildSlice_one (o := ⟨some 19, _, _, _, _, _⟩) 24 28 _ rfl Try.underlying24 Hi.out hz0 (ints .u8 K) rfl (by rw [ints_size, HKL.out, hz1]) (by rw [hz1]; decide) (by rw [hz1]; decide) ?_
          simp only [Act.put]
          refine hK.out _ _ ⟨keep_block hS.1 LI, keep_block hS.2 LI⟩ (fun hS => ?_)
          clear hK LI
          refine wpAnyH_ready (rs := [0]) (by kernel_rfl) (by simp) ?_
          refine AllReadyH.cons rfl (fun K' hK => ?_) AllReadyH.nil
          rw [if_pos (by rfl)]
          have hcp := cell_of_one P3.out
          go_simp
          refine hK.out _ _ hS (fun hS => ?_)
          clear hK hcp
          refine wpAnyH_ready (rs := [5]) (by kernel_rfl) (by simp) ?_
          refine AllReadyH.cons rfl (fun K' hK => ?_) AllReadyH.nil
          rw [if_pos (by rfl)]
          refine wp_append_own _ _ _ 24 rfl w0.heap.size 28 i0 z0 32 32 Try.underlying24 Hi.out hz0 hz1 hz2 hzs (by decide) v k _ rfl O3.out ⟨u1.heap.size, 0, none⟩ 1 1 (K.map (Value.int .u8)) rfl (by rw [List.length_map, HKL.out]) ?c1 ?c2 ?c3 ?c4 ?c5 ?_
          case c1 =>
            intro p u hu
            rw [addr_add, Nat.zero_add, cell_of_row _ u1.heap.size p _ _ _ (heap_alloc_last u1 (.cells (ints .u8 K) 28)), ← hu]
            simp [ints]
          case c2 =>
            intro u hu
            obtain ⟨z, _, rfl⟩ := List.mem_map.1 hu
            rfl
          case c3 => unfold maxLen; omega
          case c4 => omega
          case c5 => exact Z3.out
          intro v4 w4 hown4 hgrow4 hnil4
          obtain ⟨a4, c4, hv4⟩ := owns_slc hown4
          subst hv4
          have O4 := Lib.hid hown4
          have G4 := Lib.hid ((hgrow4.block pb (Array.getElem?_eq_some_iff.1 P3.out).1 (fun h => owns_ne O3.out P3.out (by decide) h.symm)).trans P3.out)
          have SG : RStep w0.heap.size pb (u1.alloc (.cells (ints .u8 K) 28)) w4 := RStep.grow O3.out hgrow4 Z3.out
          have S4 := Lib.hid (S3.out.trans SG)
          refine hK.out _ _ ⟨SG.kept _ _ _ _ HPS.out (by decide) hS.1, SG.kept _ _ _ _ n3 (by decide) hS.2⟩ (fun hS => ?_)
          clear hK hown4 hgrow4 hnil4 SG
          refine wpAnyH_ready (rs := [6]) (by kernel_rfl) (by simp) ?_
          refine AllReadyH.cons rfl (fun K' hK => ?_) AllReadyH.nil
          rw [if_pos (by rfl)]
          have cg := cell_of_one G4.out
          have cf := free_of_one G4.out
          go_simp
          have G5 := Lib.hid (one_setCell (u := .slice a4 (k + 1) c4) G4.out)
          have O5 := Lib.hid (owns_setCell1 (u := .slice a4 (k + 1) c4) (owns_ne O4.out G4.out (by decide)) O4.out)
          have S5 := Lib.hid (S4.out.trans (RStep.set hpb (.slice a4 (k + 1) c4)))
          refine hK.out _ _ ⟨(heap_setCell_other _ ⟨pb, 0, none⟩ _ _ HPS.out).trans hS.1, (heap_setCell_other _ ⟨pb, 0, none⟩ _ _ n3).trans hS.2⟩ (fun hS => ?_)
          clear hK
          refine wpAnyH_done (by kernel_rfl) ?_ _
          go_wp2_with fail
          refine bodyPost_end (results_none rfl _ _ _) rfl ⟨rfl, S5.out, _, G5.out, by rw [List.map_append]; exact O5.out⟩
    · by_cases h2 : n = 1
      · have Hms := Lib.hid (fun U => misses_no b (b + n) i j hmiss U)
        rw [rgN_in (by omega) (Or.inl (by omega)), rg_in (by omega) (Or.inl (by omega))]
        have Hcnt := Lib.hid (fun U => count_impl b (b + n) (by omega) (by omega) U)
        rw [show b + n - b = 1 by omega] at Hcnt
        clear ih h2
        go_enter Try.func70, Try.ntmps70
        go_wp2_with (refine wpList_load_row rfl 96 (.tmp 6) rfl W.heap.size rfl 96 (spanA b (b + n)) (0, 0) _ GS.out Try.underlying96 rfl sizeSpan ?_)
        clear hW0 ci cj
        refine (Hms.out _).mono ?_
        rintro x w1 ⟨rfl, hb1⟩
        have S1 := Lib.hid (S0.out.trans (RStep.of (Nat.le_trans hW BW.out.size) hb1))
        have E1 := Lib.hid (HE.out.step n1 n2 n3 n4 S1.out)
        have P1 := Lib.hid (keep_block P0.out hb1)
        have O1 := Lib.hid (owns_below O0.out hb1)
        have G1 := Lib.hid (keep_block GS.out hb1)
        have Z1 : Hid (w0.heap.size ≤ w1.heap.size ∧ W.heap.size < w1.heap.size) := Lib.hid ⟨by have := hb1.size; have := HSZ.out; omega, by have := hb1.size; have := HSZ.out; omega⟩
        clear hb1 S0 E0 P0 O0 GS BW
        go_wp2_with (refine wpList_load_row rfl 96 (.tmp 6) rfl W.heap.size rfl 96 (spanA b (b + n)) (0, 0) _ G1.out Try.underlying96 rfl sizeSpan ?_)
        refine (Hcnt.out _).mono ?_
        rintro x w2 ⟨rfl, hb2⟩
        have S2 := Lib.hid (S1.out.trans (RStep.of Z1.out.1 hb2))
        have P2 := Lib.hid (keep_block P1.out hb2)
        have O2 := Lib.hid (owns_below O1.out hb2)
        clear hb2
        go_wp2_with fail
        refine bodyPost_end (results_none rfl _ _ _) rfl ⟨rfl, S2.out, _, P2.out, by simpa using O2.out⟩
      · have Hms := Lib.hid (fun U => misses_no b (b + n) i j hmiss U)
        rw [rgN_down (by omega) (by omega), rg_down (by omega) (by omega), ← Nat.add_assoc, ← List.append_assoc]
        have hm1 := half_pos n
        have hm2 := half_lt (n := n) (by omega)
        have Hcnt := Lib.hid (fun U => count_impl b (b + n) (by omega) (by omega) U)
        rw [show b + n - b = n by omega] at Hcnt
        have Hparts := Lib.hid (fun U => parts_impl b (b + n) (by omega) (by omega) U)
        rw [show b + n - b = n by omega] at Hparts
        have HD1 := Lib.hid (rgN_le (half n) ((i : Int) - (b : Int)) ((j : Int) - (b : Int)) hm1)
        have HL := Lib.hid (fun U v1 h3 h4 h5 h6 => ih (half n) hm2 b k v1 pre U hm1 (by omega) hk h3 h4 h5 h6)
        have HR := Lib.hid (fun U v1 pre1 k1 h2 h3 h4 h5 h6 => ih (n - half n) (by omega) (b + half n) k1 v1 pre1 U (by omega) (by omega) h2 h3 h4 h5 h6)
        rw [e1, e2, show b + half n + (n - half n) = b + n by omega] at HR
        clear ih e1 e2
        generalize rgN (half n) ((i : Int) - (b : Int)) ((j : Int) - (b : Int)) = d1 at HL HD1 ⊢
        generalize rgN (n - half n) ((i : Int) - (b : Int) - (half n : Nat)) ((j : Int) - (b : Int) - (half n : Nat)) = d2 at HR ⊢
        generalize rg (keyAt fl) b (half n) ((i : Int) - (b : Int)) ((j : Int) - (b : Int)) = A at HL ⊢
        generalize rg (keyAt fl) (b + half n) (n - half n) ((i : Int) - (b : Int) - (half n : Nat)) ((j : Int) - (b : Int) - (half n : Nat)) = B at HR ⊢
        generalize half n = m at hm1 hm2 Hparts HL HR HD1
        have k2 : (1 : Int) < (n : Int) := by omega
        go_enter Try.func70, Try.ntmps70
        go_wp2_with (refine wpList_load_row rfl 96 (.tmp 6) rfl W.heap.size rfl 96 (spanA b (b + n)) (0, 0) _ GS.out Try.underlying96 rfl sizeSpan ?_)
        clear hW0 ci cj
        refine (Hms.out _).mono ?_
        rintro x w1 ⟨rfl, hb1⟩
        have S1 := Lib.hid (S0.out.trans (RStep.of (Nat.le_trans hW BW.out.size) hb1))
        have E1 := Lib.hid (HE.out.step n1 n2 n3 n4 S1.out)
        have P1 := Lib.hid (keep_block P0.out hb1)
        have O1 := Lib.hid (owns_below O0.out hb1)
        have G1 := Lib.hid (keep_block GS.out hb1)
        have Z1 : Hid (w0.heap.size ≤ w1.heap.size ∧ W.heap.size < w1.heap.size) := Lib.hid ⟨by have := hb1.size; have := HSZ.out; omega, by have := hb1.size; have := HSZ.out; omega⟩
        clear hb1 S0 E0 P0 O0 GS BW
        go_wp2_with (refine wpList_load_row rfl 96 (.tmp 6) rfl W.heap.size rfl 96 (spanA b (b + n)) (0, 0) _ G1.out Try.underlying96 rfl sizeSpan ?_)
        refine (Hcnt.out _).mono ?_
        rintro x w2 ⟨rfl, hb2⟩
        have S2 := Lib.hid (S1.out.trans (RStep.of Z1.out.1 hb2))
        have P2 := Lib.hid (keep_block P1.out hb2)
        have O2 := Lib.hid (owns_below O1.out hb2)
        have G2 := Lib.hid (keep_block G1.out hb2)
        have Z2 : Hid (w0.heap.size ≤ w2.heap.size) := Lib.hid (Nat.le_trans Z1.out.1 hb2.size)
        clear hb2
        go_wp2_with (refine wpList_load_row rfl 96 (.tmp 6) rfl W.heap.size rfl 96 (spanA b (b + n)) (0, 0) _ G2.out Try.underlying96 rfl sizeSpan ?_)
        refine (Hparts.out _).mono ?_
        rintro x w3 ⟨rfl, hb3⟩
        have S3 := Lib.hid (S2.out.trans (RStep.of Z2.out hb3))
        have P3 := Lib.hid (keep_block P2.out hb3)
        have O3 := Lib.hid (owns_below O2.out hb3)
        have Z3 : Hid (w0.heap.size ≤ w3.heap.size) := Lib.hid (Nat.le_trans Z2.out hb3.size)
        have HPB3 : Hid (pb < w3.heap.size) := Lib.hid (Array.getElem?_eq_some_iff.1 P3.out).1
        clear hb3
        have L4 := laid2_below w3 #[.int .i64 0, .int .i64 0] (spanA b (b + m)) (spanA (b + m) (b + n)) 96
        have F4 := Lib.hid (laid2_fst w3 #[.int .i64 0, .int .i64 0] (spanA b (b + m)) (spanA (b + m) (b + n)) 96)
        have N4 := Lib.hid (laid2_snd w3 #[.int .i64 0, .int .i64 0] (spanA b (b + m)) (spanA (b + m) (b + n)) 96)
        have S4 := Lib.hid (S3.out.trans (RStep.of Z3.out L4))
        have P4 := Lib.hid (keep_block P3.out L4)
        have O4 := Lib.hid (owns_below O3.out L4)
        have Z4 := Lib.hid (Nat.le_trans Z3.out L4.size)
        have E4 := Lib.hid (HE.out.step n1 n2 n3 n4 S4.out)
        clear L4
        have cw := cell_of_one E4.out.bw
        go_wp2_with (first | (refine wpList_store_row rfl 96 (.tmp 7) _ rfl w3.heap.size (spanA b (b + m)) rfl rfl 96 #[.int .i64 0, .int .i64 0] (heap_alloc2_old _ _ _) sizeSpan rfl (spanA_one _ _) ?_) | (refine wpList_store_row rfl 96 (.tmp 8) _ rfl (w3.heap.size + 1) (spanA (b + m) (b + n)) rfl rfl 96 #[.int .i64 0, .int .i64 0] ((setRow_other _ _ _ _ (by omega)).trans (heap_alloc2_new _ _ _)) sizeSpan rfl (spanA_one _ _) ?_) | (refine wpList_load_row rfl 96 (.tmp 7) rfl w3.heap.size rfl 96 (spanA b (b + m)) (0, 0) _ F4.out Try.underlying96 rfl sizeSpan ?_))
        clear cw
        generalize ((((w3.alloc (.cells #[.int .i64 0, .int .i64 0] 96)).alloc (.cells #[.int .i64 0, .int .i64 0] 96)).setRow w3.heap.size (spanA b (b + m))).setRow (w3.heap.size + 1) (spanA (b + m) (b + n))) = W4 at F4 N4 S4 P4 O4 Z4 E4 ⊢
        refine (HL.out W4 v Z4.out E4.out P4.out O4.out).mono ?_
        rintro x w5 ⟨rfl, s5, v5, p5, o5⟩
        have S5 := Lib.hid (S4.out.trans s5)
        have P5 := Lib.hid p5
        have O5 := Lib.hid o5
        have N5 := Lib.hid (s5.kept _ _ _ _ (by have := HPB3.out; omega) (by decide) N4.out)
        have Z5 : Hid (w0.heap.size ≤ w5.heap.size) := Lib.hid (Nat.le_trans Z4.out s5.below.size)
        have E5 := Lib.hid (HE.out.step n1 n2 n3 n4 S5.out)
        clear s5 p5 o5
        have cw := cell_of_one E5.out.bw
        go_wp2_with (refine wpList_load_row rfl 96 (.tmp 8) rfl (w3.heap.size + 1) rfl 96 (spanA (b + m) (b + n)) (0, 0) _ N5.out Try.underlying96 rfl sizeSpan ?_)
        clear cw
        refine (HR.out w5 v5 (pre ++ A) (k + d1) (by have := HD1.out; omega) Z5.out E5.out P5.out O5.out).mono ?_
        rintro x w6 ⟨rfl, s6, v6, p6, o6⟩
        have S6 := Lib.hid (S5.out.trans s6)
        have P6 := Lib.hid p6
        have O6 := Lib.hid o6
        clear s6 p6 o6
        go_wp2_with fail
        refine bodyPost_end (results_none rfl _ _ _) rfl ⟨rfl, S6.out, _, P6.out, O6.out⟩
end Go.Proofs.Ytcbcfjflaplkoaa
namespace Go.Proofs.Ytcbcfjflaplkoaa
open Go.ChangeShapes Go.WideShapes Go.ChangeAt Go.RowKit
set_option linter.unusedVariables false
set_option linter.unusedSimpArgs false
theorem Keep.weaken {B : Nat} {X Y : Nat → Prop} {a b : World} (h : Keep B X a b) (hx : ∀ k, X k → Y k) : Keep B Y a b := ⟨h.os, h.tape, h.output, h.size, fun k hk hy => h.block k hk (fun hx' => hy (hx k hx'))⟩
/-- A reader lies in block r, its stack in block g: s tells how many keys are left, and whether it has been short. -/
structure Rdr (g r : Nat) (s : Nat × Bool) (fl : List Int) (W : World) : Prop where
  box : W.heap[r]? = some (.cells #[.pointer (some ⟨g, 0, none⟩), .bool s.2] 152)
  stk : Stk g s.1 fl W
  lt : g < r
theorem Rdr.below {g r : Nat} {s : Nat × Bool} {fl : List Int} {w w' : World} (h : Rdr g r s fl w) (hb : Below w.heap.size w w') : Rdr g r s fl w' := ⟨keep_block h.box hb, h.stk.below hb, h.lt⟩
theorem Rdr.above {g r : Nat} {s : Nat × Bool} {fl : List Int} {w w' : World} (h : Rdr g r s fl w) (hb : Below (r + 1) w w') : Rdr g r s fl w' := ⟨(hb.block r (by omega)).trans h.box, h.stk.above (hb.mono (by have := h.lt; omega)), h.lt⟩
set_option maxRecDepth 100000 in
set_option maxHeartbeats 1000000 in
theorem newReader_impl (a : Option Addr) (n cap : Nat) (fl : List Int) (hn : n ≤ 1048576) (w : World) (hr : RdK w a n fl) :
    Calls Try.prog 75 #[.slice a n cap] w fun x w' => ∃ g r, x = .returned (.pointer (some ⟨r, 0, none⟩)) ∧ Rdr g r (n, false) fl w' ∧ w.heap.size ≤ g ∧ r < w'.heap.size ∧ Below w.heap.size w w' := by
  have Hc := Lib.hid (stackof_impl a n cap fl hn w hr)
  clear hr
  go_enter Try.func75, Try.ntmps75
  go_wp2_with fail
  refine Hc.out.mono ?_
  rintro x w1 ⟨g, rfl, hs, h1, h2, hb⟩
  have S1 := Lib.hid hs
  have H1 := Lib.hid h1
  have H2 := Lib.hid h2
  have B1 := Lib.hid hb
  clear hs h1 h2 hb
  go_wp2_with fail
  go_ret
  exact ⟨g, w1.heap.size, rfl, ⟨heap_alloc_last _ _, S1.out.below ((Below.refl _ _).alloc (Nat.le_refl _) _), H2.out⟩, H1.out, by simp, B1.out.alloc B1.out.size _⟩
set_option maxRecDepth 100000 in
set_option maxHeartbeats 2000000 in
theorem next_some (g r n : Nat) (b : Bool) (fl : List Int) (h0 : 0 < n) (hn : n ≤ 1048576) (w : World) (hr : Rdr g r (n, b) fl w) :
    Calls Try.prog 78 #[.pointer (some ⟨r, 0, none⟩)] w fun x w' => x = .returned (.agg (ints .u8 (keyAt fl (n - 1)))) ∧ Rdr g r (n - 1, b) fl w' ∧ Keep w.heap.size (fun k => k = g ∨ k = r) w w' := by
  have Hz := Lib.hid z32_ints
  obtain ⟨hbx, hs, hlt⟩ := hr
  have HLT := Lib.hid hlt
  have HRL := Lib.hid (Array.getElem?_eq_some_iff.1 hbx).1
  have Hkl : Hid ((keyAt fl (n - 1)).length = 32) := Lib.hid (by
    obtain ⟨a, cap, _, h2, _⟩ := hs
    have := keyAt_len h2.1 (show n - 1 < n by omega)
    rwa [keyAt_take (fl := fl) (show n - 1 < n by omega)] at this)
  have BW := Lib.hid ((Below.refl w.heap.size w).alloc (Nat.le_refl _) (.cells (ints .u8 z32) 28))
  have G0 := Lib.hid (heap_alloc_last w (.cells (ints .u8 z32) 28))
  have R0 := Lib.hid (keep_block hbx BW.out)
  have S0 := Lib.hid (hs.below BW.out)
  obtain ⟨W0, hW0⟩ : ∃ W0, w.alloc (.cells (ints .u8 z32) 28) = W0 := ⟨_, rfl⟩
  rw [hW0] at BW G0 R0 S0
  have HSZ : Hid (W0.heap.size = w.heap.size + 1) := Lib.hid (by rw [← hW0]; simp)
  have Hp := Lib.hid (pop_some g n fl h0 hn W0 S0.out)
  have c0 : W0.cell? ⟨r, 0, none⟩ = some (.pointer (some ⟨g, 0, none⟩)) := (cell_of_row W0 r 0 _ _ _ R0.out).trans rfl
  clear hbx hs hlt
  generalize keyAt fl (n - 1) = key at Hkl Hp ⊢
  rw [Hz.out] at hW0
  go_enter Try.func78, Try.ntmps78
  go_wp2_with fail
  clear hW0 c0
  refine Hp.out.mono ?_
  rintro x w1 ⟨rfl, hs1, hk1⟩
  have S1 := Lib.hid hs1
  have K1 := Lib.hid hk1
  have G1 := Lib.hid (hk1.hold (g := w.heap.size) (fun e => by have h : w.heap.size = g := e; have := HLT.out; have := HRL.out; omega) G0.out)
  have R1 := Lib.hid (hk1.hold (g := r) (fun e => by have h : r = g := e; have := HLT.out; omega) R0.out)
  clear hs1 hk1
  have L2 := Lib.hid (laid_below w1 (ints .u8 z32) (ints .u8 key) 28)
  have K2 := Lib.hid (laid_new w1 (ints .u8 z32) (ints .u8 key) 28)
  have G2 := Lib.hid (laid_old (ints .u8 z32) (ints .u8 key) 28 G1.out)
  have R2 := Lib.hid (laid_old (ints .u8 z32) (ints .u8 key) 28 R1.out)
  have S2 := Lib.hid (S1.out.below L2.out)
  go_wp2_with (first | (refine wpList_store_row rfl 28 (.tmp 3) _ rfl w1.heap.size (ints .u8 key) rfl rfl 28 (ints .u8 z32) (by rw [Hz.out]; exact heap_alloc_last _ _) (by rw [ints_size, Hkl.out]; exact sizeKey) (by rw [ints_size, ints_size, Hkl.out]; rfl) (ints_one _ _) ?_) | (refine wpList_load_row rfl 28 (.tmp 3) rfl w1.heap.size rfl 28 (ints .u8 key) (0, 0) _ (by rw [← Hz.out]; exact K2.out) Try.underlying28 rfl (by rw [ints_size, Hkl.out]; exact sizeKey) ?_) | (refine wpList_store_row rfl 28 (.tmp 2) _ rfl w.heap.size (ints .u8 key) rfl rfl 28 (ints .u8 z32) (by rw [← Hz.out]; exact G2.out) (by rw [ints_size, Hkl.out]; exact sizeKey) (by rw [ints_size, ints_size, Hkl.out]; rfl) (ints_one _ _) ?_))
  refine bodyPost_ret (results_cell_row rfl _ _ w.heap.size 28 (ints .u8 key) (0, 0) _ rfl (setRow_heap _ _ (ints .u8 z32) _ _ _ (by rw [← Hz.out]; exact G2.out)) Try.underlying28 rfl (by rw [ints_size, Hkl.out]; exact sizeKey)) rfl ⟨rfl, ?_⟩
  rw [← Hz.out]
  have E := Lib.hid (Below.setRow (g := w.heap.size) (Below.refl w.heap.size ((w1.alloc (.cells (ints .u8 z32) 28)).setRow w1.heap.size (ints .u8 key))) (Nat.le_refl _) (ints .u8 key))
  refine ⟨⟨(setRow_other _ _ _ _ (by have := HRL.out; omega)).trans R2.out, S2.out.above (E.out.mono (by have := HLT.out; have := HRL.out; omega)), HLT.out⟩, ?_⟩
  exact (((Keep.of _ BW.out).trans ((K1.out.weaken (fun k h => Or.inl h)).mono BW.out.size)).trans ((Keep.of _ L2.out).mono (Nat.le_trans BW.out.size K1.out.size))).trans (Keep.of _ E.out)
set_option maxRecDepth 100000 in
set_option maxHeartbeats 2000000 in
theorem next_none (g r : Nat) (b : Bool) (fl : List Int) (w : World) (hr : Rdr g r (0, b) fl w) :
    Calls Try.prog 78 #[.pointer (some ⟨r, 0, none⟩)] w fun x w' => x = .returned (.agg (ints .u8 z32)) ∧ Rdr g r (0, true) fl w' ∧ Keep w.heap.size (fun k => k = g ∨ k = r) w w' := by
  have Hz := Lib.hid z32_ints
  obtain ⟨hbx, hs, hlt⟩ := hr
  have HLT := Lib.hid hlt
  have HRL := Lib.hid (Array.getElem?_eq_some_iff.1 hbx).1
  have BW := Lib.hid ((Below.refl w.heap.size w).alloc (Nat.le_refl _) (.cells (ints .u8 z32) 28))
  have G0 := Lib.hid (heap_alloc_last w (.cells (ints .u8 z32) 28))
  have R0 := Lib.hid (keep_block hbx BW.out)
  have S0 := Lib.hid (hs.below BW.out)
  obtain ⟨W0, hW0⟩ : ∃ W0, w.alloc (.cells (ints .u8 z32) 28) = W0 := ⟨_, rfl⟩
  rw [hW0] at BW G0 R0 S0
  have HSZ : Hid (W0.heap.size = w.heap.size + 1) := Lib.hid (by rw [← hW0]; simp)
  have Hp := Lib.hid (pop_none g fl W0 S0.out)
  have c0 : W0.cell? ⟨r, 0, none⟩ = some (.pointer (some ⟨g, 0, none⟩)) := (cell_of_row W0 r 0 _ _ _ R0.out).trans rfl
  clear hbx hs hlt
  rw [Hz.out] at hW0
  go_enter Try.func78, Try.ntmps78
  go_wp2_with fail
  clear hW0 c0
  refine Hp.out.mono ?_
  rintro x w1 ⟨rfl, hb1⟩
  have B1 := Lib.hid hb1
  have S1 := Lib.hid (S0.out.below hb1)
  have G1 := Lib.hid (keep_block G0.out hb1)
  have R1 := Lib.hid (keep_block R0.out hb1)
  have HS1 : Hid (w.heap.size < w1.heap.size) := Lib.hid (by have := hb1.size; have := HSZ.out; omega)
  clear hb1
  have L2 := Lib.hid (laid_below w1 (ints .u8 z32) (ints .u8 z32) 28)
  have K2 := Lib.hid (laid_new w1 (ints .u8 z32) (ints .u8 z32) 28)
  have G2 := Lib.hid (laid_old (ints .u8 z32) (ints .u8 z32) 28 G1.out)
  have R2 := Lib.hid (laid_old (ints .u8 z32) (ints .u8 z32) 28 R1.out)
  have S2 := Lib.hid (S1.out.below L2.out)
  obtain ⟨W2, hW2⟩ : ∃ W2, (w1.alloc (.cells (ints .u8 z32) 28)).setRow w1.heap.size (ints .u8 z32) = W2 := ⟨_, rfl⟩
  rw [hW2] at L2 K2 G2 R2 S2
  have c1 : W2.cell? ⟨r, 1, none⟩ = some (.bool b) := (cell_of_row W2 r 1 _ _ _ R2.out).trans rfl
  have f1 : W2.frozen? ⟨r, 1, none⟩ = false := frozen_of_row W2 r 1 _ _ R2.out
  have R3 := Lib.hid (heap_setCell_same W2 r 1 _ _ (.bool true) R2.out)
  have K3 := Lib.hid ((heap_setCell_other W2 ⟨r, 1, none⟩ w1.heap.size (.bool true) (by have := HRL.out; have := HS1.out; show w1.heap.size ≠ r; omega)).trans K2.out)
  have G3 := Lib.hid ((heap_setCell_other W2 ⟨r, 1, none⟩ w.heap.size (.bool true) (by have := HRL.out; show w.heap.size ≠ r; omega)).trans G2.out)
  rw [Hz.out] at hW2
  go_wp2_with (first | (refine wpList_store_row rfl 28 (.tmp 3) _ rfl w1.heap.size (ints .u8 z32) rfl rfl 28 (ints .u8 z32) (by rw [Hz.out]; exact heap_alloc_last _ _) (by kernel_rfl) rfl (ints_one _ _) ?_; rw [Hz.out, hW2]) | (refine wpList_load_row rfl 28 (.tmp 3) rfl w1.heap.size rfl 28 (ints .u8 z32) (0, 0) _ K3.out Try.underlying28 rfl (by kernel_rfl) ?_) | (refine wpList_store_row rfl 28 (.tmp 2) _ rfl w.heap.size (ints .u8 z32) rfl rfl 28 (ints .u8 z32) G3.out (by kernel_rfl) rfl (ints_one _ _) ?_))
  refine bodyPost_ret (results_cell_row rfl _ _ w.heap.size 28 (ints .u8 z32) (0, 0) _ rfl (setRow_heap _ _ (ints .u8 z32) _ _ _ G3.out) Try.underlying28 rfl (by kernel_rfl)) rfl ⟨rfl, ?_⟩
  have E := Lib.hid (Below.setRow (g := w.heap.size) (Below.refl w.heap.size (W2.setCell ⟨r, 1, none⟩ (.bool true))) (Nat.le_refl _) (ints .u8 z32))
  have C := Lib.hid (Keep.cell (B := w.heap.size) (X := fun k => k = g ∨ k = r) (w := W2) (p := ⟨r, 1, none⟩) (v := .bool true) (Or.inr rfl))
  have C2 : Hid (Below (g + 1) W2 (W2.setCell ⟨r, 1, none⟩ (.bool true))) := Lib.hid (Below.setCell (Below.refl _ _) (show g + 1 ≤ r by have := HLT.out; omega) _)
  refine ⟨⟨(setRow_other _ _ _ _ (by have := HRL.out; omega)).trans R3.out, (S2.out.above C2.out).above (E.out.mono (by have := HLT.out; have := HRL.out; omega)), HLT.out⟩, ?_⟩
  exact ((((Keep.of _ BW.out).trans ((Keep.of _ B1.out).mono BW.out.size)).trans ((Keep.of _ L2.out).mono (Nat.le_trans BW.out.size B1.out.size))).trans C.out).trans (Keep.of _ E.out)
set_option maxRecDepth 100000 in
set_option maxHeartbeats 1000000 in
theorem used_impl (g r n : Nat) (b : Bool) (fl : List Int) (w : World) (hr : Rdr g r (n, b) fl w) :
    Calls Try.prog 79 #[.pointer (some ⟨r, 0, none⟩)] w fun x w' => x = .returned (.bool (!b && decide (n = 0))) ∧ w = w' := by
  obtain ⟨hbx, hs, hlt⟩ := hr
  obtain ⟨a, cap, h1, _⟩ := hs
  have c0 : w.cell? ⟨r, 0, none⟩ = some (.pointer (some ⟨g, 0, none⟩)) := (cell_of_row w r 0 _ _ _ hbx).trans rfl
  have c1 : w.cell? ⟨r, 1, none⟩ = some (.bool b) := (cell_of_row w r 1 _ _ _ hbx).trans rfl
  have c2 := cell_of_one h1
  clear hbx h1
  cases b with
  | true =>
    go_enter Try.func79, Try.ntmps79
    go_wp2
    go_ret
    exact ⟨rfl, rfl⟩
  | false =>
    by_cases h : n = 0
    · subst h
      go_enter Try.func79, Try.ntmps79
      go_wp2
      go_ret
      exact ⟨rfl, rfl⟩
    · have hd : decide (n = 0) = false := decide_eq_false h
      have hi : ((n : Int) == 0) = false := by rw [beq_eq_false_iff_ne]; omega
      rw [hd]
      go_enter Try.func79, Try.ntmps79
      go_wp2
      go_ret
      exact ⟨rfl, rfl⟩
end Go.Proofs.Ytcbcfjflaplkoaa
namespace Go.Proofs.Ytcbcfjflaplkoaa
open Go.ChangeShapes Go.WideShapes Go.ChangeAt Go.RowKit
set_option linter.unusedVariables false
set_option linter.unusedSimpArgs false
/-- What a reader answers, and what is left then. -/
def nxK (fl : List Int) (s : Nat × Bool) : List Int := if s.1 = 0 then z32 else keyAt fl (s.1 - 1)
def nxS (s : Nat × Bool) : Nat × Bool := (s.1 - 1, s.2 || decide (s.1 = 0))
/-- A part of kind 0 has the next key, one of kind 1 is a leaf, others are gone down. -/
def tlG (kd : Nat → Nat → Nat) (lf : Nat → List Int) (fl : List Int) (b n : Nat) (s : Nat × Bool) : List Int × Bool × (Nat × Bool) :=
  if kd b n = 0 then (nxK fl s, true, nxS s) else if kd b n = 1 then (lf b, true, s) else (z32, false, s)
def need (kd : Nat → Nat → Nat) (n b : Nat) : Nat :=
  if kd b n = 0 then 1 else if h : kd b n = 1 ∨ n ≤ 1 then 0 else need kd (half n) b + need kd (n - half n) (b + half n)
termination_by n
decreasing_by
  · exact half_lt (by omega)
  · have := half_pos n; have := half_lt (n := n) (by omega); omega
def kgen (kd : Nat → Nat → Nat) (lf : Nat → List Int) (kf : Nat → List Int) (n b p : Nat) : List Int :=
  if kd b n = 0 then kf p else if h : kd b n = 1 ∨ n ≤ 1 then lf b else nodeK (kgen kd lf kf (half n) b p) (kgen kd lf kf (n - half n) (b + half n) (p + need kd (half n) b))
termination_by n
decreasing_by
  · exact half_lt (by omega)
  · have := half_pos n; have := half_lt (n := n) (by omega); omega
theorem need_read {kd : Nat → Nat → Nat} {n b : Nat} (h : kd b n = 0) : need kd n b = 1 := by rw [need, if_pos h]
theorem need_leaf {kd : Nat → Nat → Nat} {n b : Nat} (h : ¬ kd b n = 0) (h2 : kd b n = 1 ∨ n ≤ 1) : need kd n b = 0 := by rw [need, if_neg h, dif_pos h2]
theorem need_two {kd : Nat → Nat → Nat} {n b : Nat} (h : ¬ kd b n = 0) (h2 : ¬ (kd b n = 1 ∨ n ≤ 1)) : need kd n b = need kd (half n) b + need kd (n - half n) (b + half n) := by rw [need, if_neg h, dif_neg h2]
theorem kgen_read {kd : Nat → Nat → Nat} {lf kf : Nat → List Int} {n b p : Nat} (h : kd b n = 0) : kgen kd lf kf n b p = kf p := by rw [kgen, if_pos h]
theorem kgen_leaf {kd : Nat → Nat → Nat} {lf kf : Nat → List Int} {n b p : Nat} (h : ¬ kd b n = 0) (h2 : kd b n = 1 ∨ n ≤ 1) : kgen kd lf kf n b p = lf b := by rw [kgen, if_neg h, dif_pos h2]
theorem kgen_two {kd : Nat → Nat → Nat} {lf kf : Nat → List Int} {n b p : Nat} (h : ¬ kd b n = 0) (h2 : ¬ (kd b n = 1 ∨ n ≤ 1)) : kgen kd lf kf n b p = nodeK (kgen kd lf kf (half n) b p) (kgen kd lf kf (n - half n) (b + half n) (p + need kd (half n) b)) := by rw [kgen, if_neg h, dif_neg h2]
theorem need_le {kd : Nat → Nat → Nat} : ∀ n b, 1 ≤ n → need kd n b ≤ n := by
  intro n
  induction n using Nat.strongRecOn with
  | _ n ih =>
    intro b h1
    by_cases h : kd b n = 0
    · rw [need_read h]; exact h1
    · by_cases h2 : kd b n = 1 ∨ n ≤ 1
      · rw [need_leaf h h2]; exact Nat.zero_le _
      · have a1 := half_pos n
        have a2 := half_lt (n := n) (by omega)
        have := ih (half n) a2 b a1
        have := ih (n - half n) (by omega) (b + half n) (by omega)
        rw [need_two h h2]
        omega
theorem walkT_gen {kd : Nat → Nat → Nat} {lf : Nat → List Int} {fl : List Int} (hk : ∀ b, kd b 1 ≤ 1) : ∀ (n b r : Nat) (sh : Bool), 1 ≤ n →
    (need kd n b ≤ r → walkT (tlG kd lf fl) n b (r, sh) = (kgen kd lf (keyAt fl) n b (r - need kd n b), (r - need kd n b, sh))) ∧ (r < need kd n b → (walkT (tlG kd lf fl) n b (r, sh)).2 = (0, true)) := by
  intro n
  induction n using Nat.strongRecOn with
  | _ n ih =>
    intro b r sh h1
    by_cases h : kd b n = 0
    · have e : (tlG kd lf fl b n (r, sh)).2.1 = true := by simp [tlG, h]
      rw [walkT_yes e, need_read h, kgen_read h]
      refine ⟨fun hr => ?_, fun hr => ?_⟩
      · have h0 : ¬ r = 0 := by omega
        simp [tlG, h, nxK, nxS, h0]
      · have h0 : r = 0 := by omega
        simp [tlG, h, nxS, h0]
    · by_cases h2 : kd b n = 1
      · have e : (tlG kd lf fl b n (r, sh)).2.1 = true := by simp [tlG, h2]
        rw [walkT_yes e, need_leaf h (Or.inl h2), kgen_leaf h (Or.inl h2)]
        exact ⟨fun _ => by simp [tlG, h2], fun hr => absurd hr (by omega)⟩
      · have hn : 1 < n := by
          rcases Nat.lt_or_ge 1 n with h3 | h3
          · exact h3
          · obtain rfl : n = 1 := by omega
            have := hk b
            omega
        have a1 := half_pos n
        have a2 := half_lt (n := n) (by omega)
        have e : (tlG kd lf fl b n (r, sh)).2.1 = false := by simp [tlG, h, h2]
        have e2 : (tlG kd lf fl b n (r, sh)).2.2 = (r, sh) := by simp [tlG, h, h2]
        rw [walkT_no e hn, e2, need_two h (by omega), kgen_two h (by omega)]
        have R := ih (n - half n) (by omega) (b + half n) r sh (by omega)
        refine ⟨fun hr => ?_, fun hr => ?_⟩
        · have L := ih (half n) a2 b (r - need kd (n - half n) (b + half n)) sh a1
          rw [R.1 (by omega)]
          dsimp only
          rw [L.1 (by omega)]
          rw [show r - need kd (n - half n) (b + half n) - need kd (half n) b = r - (need kd (half n) b + need kd (n - half n) (b + half n)) by omega, show r - (need kd (half n) b + need kd (n - half n) (b + half n)) + need kd (half n) b = r - need kd (n - half n) (b + half n) by omega]
        · by_cases h3 : need kd (n - half n) (b + half n) ≤ r
          · have L := ih (half n) a2 b (r - need kd (n - half n) (b + half n)) sh a1
            rw [R.1 h3]
            exact L.2 (by omega)
          · have L := ih (half n) a2 b 0 true a1
            rw [R.2 (by omega)]
            by_cases h4 : need kd (half n) b = 0
            · rw [L.1 (by omega)]
              simp
            · exact L.2 (by omega)
set_option maxRecDepth 100000 in
theorem next_impl (g r : Nat) (s : Nat × Bool) (fl : List Int) (hn : s.1 ≤ 1048576) (w : World) (hr : Rdr g r s fl w) :
    Calls Try.prog 78 #[.pointer (some ⟨r, 0, none⟩)] w fun x w' => x = .returned (.agg (ints .u8 (nxK fl s))) ∧ Rdr g r (nxS s) fl w' ∧ Keep w.heap.size (fun k => k = g ∨ k = r) w w' := by
  obtain ⟨n, b⟩ := s
  by_cases h : n = 0
  · subst h
    have e : nxS (0, b) = (0, true) := by simp [nxS]
    rw [e]
    exact next_none g r b fl w hr
  · have e : nxS (n, b) = (n - 1, b) := by simp [nxS, h]
    have e2 : nxK fl (n, b) = keyAt fl (n - 1) := by simp [nxK, h]
    rw [e, e2]
    exact next_some g r n b fl (by omega) hn w hr
theorem Rdr.nx {g r : Nat} {s : Nat × Bool} {fl : List Int} {w : World} (h : Rdr g r s fl w) (fb : ∀ z ∈ fl, 0 ≤ z ∧ z ≤ 255) : L32 (nxK fl s) := by
  obtain ⟨_, ⟨a, cap, _, h2, _⟩, _⟩ := h
  unfold nxK
  split
  · exact ⟨rfl, by decide⟩
  · rename_i h0
    have := keyAt_len h2.1 (show s.1 - 1 < s.1 by omega)
    rw [keyAt_take (fl := fl) (show s.1 - 1 < s.1 by omega)] at this
    exact ⟨this, keyAt_range fb _⟩
end Go.Proofs.Ytcbcfjflaplkoaa
namespace Go.Proofs.Ytcbcfjflaplkoaa
open Go.ChangeShapes Go.WideShapes Go.ChangeAt Go.RowKit
set_option linter.unusedVariables false
set_option linter.unusedSimpArgs false
theorem z32_range : ∀ z ∈ z32, (0 : Int) ≤ z ∧ z ≤ 255 := by decide
/-- What a part is for leaves from i on, c of them: without any of them, one leaf, or another one. -/
def kdR (i c b n : Nat) : Nat := if b + n ≤ i ∨ i + c ≤ b then 0 else if n = 1 then 1 else 2
def lfR (lv : List Int) (i b : Nat) : List Int := keyAt lv (b - i)
/-- The closure's variables. -/
structure RangeI (g r ib cb kb lb blk off i c cap : Nat) (fl lv : List Int) (B0 : Nat) (s : Nat × Bool) (W : World) : Prop where
  rd : Rdr g r s fl W
  small : s.1 ≤ 1048576
  bi : W.heap[ib]? = some (.cells #[.int .i64 (i : Int)] 2)
  bc : W.heap[cb]? = some (.cells #[.int .i64 (c : Int)] 2)
  bk : W.heap[kb]? = some (.cells #[.pointer (some ⟨r, 0, none⟩)] 102)
  bl : W.heap[lb]? = some (.cells #[.slice (some ⟨blk, off, none⟩) c cap] 24)
  lv : RdK W (some ⟨blk, off, none⟩) c lv
/-- Where they lie. -/
structure RangeP (g r ib cb kb lb blk B0 : Nat) : Prop where
  pg : g < B0
  pr : r < B0
  pi : ib < B0 ∧ ib ≠ g ∧ ib ≠ r
  pc : cb < B0 ∧ cb ≠ g ∧ cb ≠ r
  pk : kb < B0 ∧ kb ≠ g ∧ kb ≠ r
  pl : lb < B0 ∧ lb ≠ g ∧ lb ≠ r
  pb : blk < B0 ∧ blk ≠ g ∧ blk ≠ r
theorem RangeI.keep {g r ib cb kb lb blk off i c cap B0 : Nat} {fl lv : List Int} {s : Nat × Bool} {w w' : World} (P : RangeP g r ib cb kb lb blk B0) (h : RangeI g r ib cb kb lb blk off i c cap fl lv B0 s w) (hb : Below B0 w w') : RangeI g r ib cb kb lb blk off i c cap fl lv B0 s w' :=
  ⟨h.rd.above (hb.mono (by have := P.pr; omega)), h.small, (hb.block _ P.pi.1).trans h.bi, (hb.block _ P.pc.1).trans h.bc, (hb.block _ P.pk.1).trans h.bk, (hb.block _ P.pl.1).trans h.bl, h.lv.keepLow P.pb.1 hb⟩
theorem RangeI.turn {g r ib cb kb lb blk off i c cap B0 : Nat} {fl lv : List Int} {s t : Nat × Bool} {w w' : World} (P : RangeP g r ib cb kb lb blk B0) (h : RangeI g r ib cb kb lb blk off i c cap fl lv B0 s w) (hr : Rdr g r t fl w') (ht : t.1 ≤ 1048576) (hlt : blk < w.heap.size) (k : Keep w.heap.size (fun k => k = g ∨ k = r) w w') : RangeI g r ib cb kb lb blk off i c cap fl lv B0 t w' :=
  ⟨hr, ht, k.hold (fun h => by have := P.pi; rcases h with h | h <;> omega) h.bi, k.hold (fun h => by have := P.pc; rcases h with h | h <;> omega) h.bc, k.hold (fun h => by have := P.pk; rcases h with h | h <;> omega) h.bk, k.hold (fun h => by have := P.pl; rcases h with h | h <;> omega) h.bl, h.lv.same k.size (fun b o e => by
    cases e
    exact k.block blk hlt (fun h => by have := P.pb; rcases h with h | h <;> omega))⟩
set_option maxRecDepth 100000 in
set_option maxHeartbeats 8000000 in
theorem tellR_impl (g r ib cb kb lb blk off i c cap B0 N : Nat) (fl lv : List Int) (P : RangeP g r ib cb kb lb blk B0) (hN : N ≤ 1048576) (hic : i + c ≤ N) (hc : c ≤ cap) (hm : cap ≤ maxLen) (b n : Nat) (s : Nat × Bool) (w : World) (h1 : 1 ≤ n) (hb : b + n ≤ N) (hB : B0 ≤ w.heap.size) (hfb : ∀ z ∈ fl, 0 ≤ z ∧ z ≤ 255) (hI : RangeI g r ib cb kb lb blk off i c cap fl lv B0 s w) :
    Calls Try.prog 77 #[.agg (spanA b (b + n)), .pointer (some ⟨ib, 0, none⟩), .pointer (some ⟨cb, 0, none⟩), .pointer (some ⟨kb, 0, none⟩), .pointer (some ⟨lb, 0, none⟩)] w fun x w' => x = .returned (.tuple #[.agg (ints .u8 (tlG (kdR i c) (lfR lv i) fl b n s).1), .bool (tlG (kdR i c) (lfR lv i) fl b n s).2.1]) ∧ RangeI g r ib cb kb lb blk off i c cap fl lv B0 (tlG (kdR i c) (lfR lv i) fl b n s).2.2 w' ∧ Keep w.heap.size (fun k => k = g ∨ k = r) w w' := by
  have Hz := Lib.hid z32_ints
  have HI := Lib.hid hI
  have HB := Lib.hid hB
  have HP := Lib.hid P
  have HFB := Lib.hid hfb
  have BW := Lib.hid (((Below.refl w.heap.size w).alloc (Nat.le_refl _) (.cells (spanA b (b + n)) 96)).alloc (by simp) (.cells (ints .u8 z32) 28))
  have GS := Lib.hid (heap_alloc2_old w (.cells (spanA b (b + n)) 96) (.cells (ints .u8 z32) 28))
  have G0 := Lib.hid (heap_alloc2_new w (.cells (spanA b (b + n)) 96) (.cells (ints .u8 z32) 28))
  obtain ⟨W0, hW0⟩ : ∃ W0, (w.alloc (.cells (spanA b (b + n)) 96)).alloc (.cells (ints .u8 z32) 28) = W0 := ⟨_, rfl⟩
  have HSZ : Hid (W0.heap.size = w.heap.size + 1 + 1) := Lib.hid (by rw [← hW0]; simp)
  rw [hW0] at BW GS G0
  have I0 := Lib.hid (HI.out.keep P (BW.out.mono hB))
  have ci := cell_of_one I0.out.bi
  have cc := cell_of_one I0.out.bc
  have b0 : (0 : Int) ≤ (b : Int) := by omega
  have bi0 : (0 : Int) ≤ (i : Int) := by omega
  have bc0 : (0 : Int) ≤ (c : Int) := by omega
  have bic : (i : Int) + (c : Int) ≤ 1048576 := by omega
  have bb : (b : Int) ≤ 1048576 := by omega
  clear hI hfb
  by_cases hmiss : b + n ≤ i ∨ i + c ≤ b
  · have Hms := Lib.hid (fun U => misses_yes b (b + n) i (i + c) hmiss U)
    rw [show ((i + c : Nat) : Int) = (i : Int) + (c : Int) by omega] at Hms
    have e0 : kdR i c b n = 0 := by unfold kdR; rw [if_pos hmiss]
    have e1 : tlG (kdR i c) (lfR lv i) fl b n s = (nxK fl s, true, nxS s) := by unfold tlG; rw [if_pos e0]
    rw [e1]
    dsimp only
    clear e0 e1
    have HKL := Lib.hid (HI.out.rd.nx HFB.out).1
    have Hn := Lib.hid (fun U (h : Rdr g r s fl U) => next_impl g r s fl HI.out.small U h)
    have HNS := Lib.hid (show (nxS s).1 ≤ 1048576 by have := HI.out.small; unfold nxS; dsimp only; omega)
    generalize nxK fl s = key at Hn HKL ⊢
    generalize nxS s = t at Hn HNS ⊢
    rw [Hz.out] at hW0
    go_enter Try.func77, Try.ntmps77
    go_wp2_with (refine wpList_load_row rfl 96 (.tmp 5) rfl w.heap.size rfl 96 (spanA b (b + n)) (0, 0) _ GS.out Try.underlying96 rfl sizeSpan ?_)
    clear hW0 ci cc
    refine (Hms.out _).mono ?_
    rintro x w1 ⟨rfl, hb1⟩
    have B1 := Lib.hid (below_call BW.out BW.out.size hb1)
    have I1 := Lib.hid (HI.out.keep HP.out (B1.out.mono HB.out))
    have G1 := Lib.hid (keep_block G0.out hb1)
    have S1 := Lib.hid (keep_block GS.out hb1)
    have Z1 : Hid (w.heap.size + 1 < w1.heap.size) := Lib.hid (by have := hb1.size; have := HSZ.out; omega)
    clear hb1 I0 GS BW G0
    have ck := cell_of_one I1.out.bk
    go_wp2_with fail
    clear ck
    refine (Hn.out _ I1.out.rd).mono ?_
    rintro x w2 ⟨rfl, hr2, hk2⟩
    have I2 := Lib.hid (I1.out.turn HP.out hr2 HNS.out (by have := HP.out.pb; have := HB.out; have := Z1.out; omega) hk2)
    have G2 := Lib.hid (hk2.hold (g := w.heap.size + 1) (fun h => by have := HP.out.pr; have := HI.out.rd.lt; have := HB.out; rcases h with h | h <;> omega) G1.out)
    have K2 := Lib.hid ((Keep.of (fun k => k = g ∨ k = r) B1.out).trans (hk2.mono B1.out.size))
    clear hr2 hk2
    go_wp2_with (refine wpList_store_row rfl 28 (.tmp 6) _ rfl (w.heap.size + 1) (ints .u8 key) rfl rfl 28 (ints .u8 z32) G2.out (by rw [ints_size, HKL.out]; exact sizeKey) (by rw [ints_size, ints_size, HKL.out]; rfl) (ints_one _ _) ?_)
    have GF := Lib.hid (setRow_heap _ _ (ints .u8 z32) (ints .u8 key) _ _ G2.out)
    have E := Below.setRow (g := w.heap.size + 1) (Below.refl w.heap.size w2) (by omega) (ints .u8 key)
    refine bodyPost_ret (results_cell2_row rfl _ _ (w.heap.size + 1) 28 (ints .u8 key) (0, 0) _ rfl GF.out Try.underlying28 rfl (by rw [ints_size, HKL.out]; exact sizeKey)) rfl ⟨rfl, ?_⟩
    exact ⟨I2.out.keep HP.out (E.mono HB.out), K2.out.trans (Keep.of _ E)⟩
  · by_cases h2 : n = 1
    · have Hms := Lib.hid (fun U => misses_no b (b + n) i (i + c) hmiss U)
      rw [show ((i + c : Nat) : Int) = (i : Int) + (c : Int) by omega] at Hms
      have e0 : kdR i c b n = 1 := by unfold kdR; rw [if_neg hmiss, if_pos h2]
      have e1 : tlG (kdR i c) (lfR lv i) fl b n s = (keyAt lv (b - i), true, s) := by unfold tlG; rw [if_neg (by omega), if_pos e0]; rfl
      rw [e1]
      dsimp only
      clear e0 e1
      have Hcnt := Lib.hid (fun U => count_impl b (b + n) (by omega) (by omega) U)
      rw [show b + n - b = 1 by omega] at Hcnt
      have hbi : b - i < c := by omega
      have hib : (i : Int) ≤ (b : Int) := by omega
      have hsub : (b : Int) - (i : Int) = ((b - i : Nat) : Int) := by omega
      have HSUB := Lib.hid hsub
      have Hkey := Lib.hid (I0.out.lv.key (b - i) hbi)
      have HKL := Lib.hid (keyAt_len I0.out.lv.1 hbi)
      have k1 : (0 : Int) ≤ (b : Int) - (i : Int) := by omega
      have k2 : (b : Int) - (i : Int) < (c : Int) := by omega
      have k3 : ((b : Int) - (i : Int)).toNat = b - i := by omega
      clear hsub h2
      generalize hkey : keyAt lv (b - i) = key at Hkey HKL ⊢
      have HKY := Lib.hid hkey
      clear hkey
      rw [Hz.out] at hW0
      go_enter Try.func77, Try.ntmps77
      go_wp2_with (refine wpList_load_row rfl 96 (.tmp 5) rfl w.heap.size rfl 96 (spanA b (b + n)) (0, 0) _ GS.out Try.underlying96 rfl sizeSpan ?_)
      clear hW0 ci cc
      refine (Hms.out _).mono ?_
      rintro x w1 ⟨rfl, hb1⟩
      have B1 := Lib.hid (below_call BW.out BW.out.size hb1)
      have I1 := Lib.hid (HI.out.keep HP.out (B1.out.mono HB.out))
      have G1 := Lib.hid (keep_block G0.out hb1)
      have S1 := Lib.hid (keep_block GS.out hb1)
      have Z1 : Hid (w.heap.size + 1 < w1.heap.size) := Lib.hid (by have := hb1.size; have := HSZ.out; omega)
      clear hb1 I0 GS BW G0
      go_wp2_with (refine wpList_load_row rfl 96 (.tmp 5) rfl w.heap.size rfl 96 (spanA b (b + n)) (0, 0) _ S1.out Try.underlying96 rfl sizeSpan ?_)
      refine (Hcnt.out _).mono ?_
      rintro x w2 ⟨rfl, hb2⟩
      have B2 := Lib.hid (below_call B1.out B1.out.size hb2)
      have I2 := Lib.hid (HI.out.keep HP.out (B2.out.mono HB.out))
      have G2 := Lib.hid (keep_block G1.out hb2)
      have S2 := Lib.hid (keep_block S1.out hb2)
      have ci := cell_of_one I2.out.bi
      have cl := cell_of_one I2.out.bl
      have cs : w2.cell? ⟨w.heap.size, 0, none⟩ = some (.int .i64 (b : Int)) := (cell_of_row w2 w.heap.size 0 _ _ _ S2.out).trans rfl
      have HKR := Lib.hid (I2.out.lv.key (b - i) hbi)
      rw [HKY.out] at HKR
      clear hb2
      go_wp2_with (first | (refine wpList_load_ints rfl 28 (.tmp 27) rfl blk (off + (b - i) * 32) rfl .u8 key _ HKR.out Try.underlying28 rfl (by rw [HKL.out]; exact sizeKey) ?_) | (refine wpList_store_row rfl 28 (.tmp 6) _ rfl (w.heap.size + 1) (ints .u8 key) rfl rfl 28 (ints .u8 z32) G2.out (by rw [ints_size, HKL.out]; exact sizeKey) (by rw [ints_size, ints_size, HKL.out]; rfl) (ints_one _ _) ?_))
      have GF := Lib.hid (setRow_heap _ _ (ints .u8 z32) (ints .u8 key) _ _ G2.out)
      have E := Below.setRow (g := w.heap.size + 1) (Below.refl w.heap.size w2) (by omega) (ints .u8 key)
      refine bodyPost_ret (results_cell2_row rfl _ _ (w.heap.size + 1) 28 (ints .u8 key) (0, 0) _ rfl GF.out Try.underlying28 rfl (by rw [ints_size, HKL.out]; exact sizeKey)) rfl ⟨rfl, ?_⟩
      exact ⟨I2.out.keep HP.out (E.mono HB.out), (Keep.of _ B2.out).trans (Keep.of _ E)⟩
    · have Hms := Lib.hid (fun U => misses_no b (b + n) i (i + c) hmiss U)
      rw [show ((i + c : Nat) : Int) = (i : Int) + (c : Int) by omega] at Hms
      have e0 : kdR i c b n = 2 := by unfold kdR; rw [if_neg hmiss, if_neg h2]
      have e1 : tlG (kdR i c) (lfR lv i) fl b n s = (z32, false, s) := by unfold tlG; rw [if_neg (by omega), if_neg (by omega)]
      rw [e1]
      dsimp only
      clear e0 e1
      have Hcnt := Lib.hid (fun U => count_impl b (b + n) (by omega) (by omega) U)
      rw [show b + n - b = n by omega] at Hcnt
      have hni : ((n : Int) == 1) = false := by rw [beq_eq_false_iff_ne]; omega
      rw [Hz.out] at hW0
      go_enter Try.func77, Try.ntmps77
      go_wp2_with (refine wpList_load_row rfl 96 (.tmp 5) rfl w.heap.size rfl 96 (spanA b (b + n)) (0, 0) _ GS.out Try.underlying96 rfl sizeSpan ?_)
      clear hW0 ci cc
      refine (Hms.out _).mono ?_
      rintro x w1 ⟨rfl, hb1⟩
      have B1 := Lib.hid (below_call BW.out BW.out.size hb1)
      have I1 := Lib.hid (HI.out.keep HP.out (B1.out.mono HB.out))
      have G1 := Lib.hid (keep_block G0.out hb1)
      have S1 := Lib.hid (keep_block GS.out hb1)
      have Z1 : Hid (w.heap.size + 1 < w1.heap.size) := Lib.hid (by have := hb1.size; have := HSZ.out; omega)
      clear hb1 I0 GS BW G0
      go_wp2_with (refine wpList_load_row rfl 96 (.tmp 5) rfl w.heap.size rfl 96 (spanA b (b + n)) (0, 0) _ S1.out Try.underlying96 rfl sizeSpan ?_)
      refine (Hcnt.out _).mono ?_
      rintro x w2 ⟨rfl, hb2⟩
      have B2 := Lib.hid (below_call B1.out B1.out.size hb2)
      have I2 := Lib.hid (HI.out.keep HP.out (B2.out.mono HB.out))
      have G2 := Lib.hid (keep_block G1.out hb2)
      clear hb2
      go_wp2_with (refine wpList_store_row rfl 28 (.tmp 6) _ rfl (w.heap.size + 1) (ints .u8 z32) rfl rfl 28 (ints .u8 z32) G2.out (by kernel_rfl) rfl (ints_one _ _) ?_)
      have GF := Lib.hid (setRow_heap _ _ (ints .u8 z32) (ints .u8 z32) _ _ G2.out)
      have E := Below.setRow (g := w.heap.size + 1) (Below.refl w.heap.size w2) (by omega) (ints .u8 z32)
      have HKL : Hid (z32.length = 32) := Lib.hid rfl
      refine bodyPost_ret (results_cell2_row rfl _ _ (w.heap.size + 1) 28 (ints .u8 z32) (0, 0) _ rfl GF.out Try.underlying28 rfl (by rw [ints_size, HKL.out]; exact sizeKey)) rfl ⟨rfl, ?_⟩
      exact ⟨I2.out.keep HP.out (E.mono HB.out), (Keep.of _ B2.out).trans (Keep.of _ E)⟩
theorem rangeTells (g r ib cb kb lb blk off i c cap B0 N : Nat) (fl lv : List Int) (P : RangeP g r ib cb kb lb blk B0) (hN : N ≤ 1048576) (hic : i + c ≤ N) (hc : c ≤ cap) (hm : cap ≤ maxLen) (hfb : ∀ z ∈ fl, 0 ≤ z ∧ z ≤ 255) (hlb : ∀ z ∈ lv, 0 ≤ z ∧ z ≤ 255) :
    Tells (tlG (kdR i c) (lfR lv i) fl) (RangeI g r ib cb kb lb blk off i c cap fl lv B0) B0 (fun k => k = g ∨ k = r) N 77 #[.pointer (some ⟨ib, 0, none⟩), .pointer (some ⟨cb, 0, none⟩), .pointer (some ⟨kb, 0, none⟩), .pointer (some ⟨lb, 0, none⟩)] where
  small := hN
  enters := fun args w => enters_of Try.func77 (by kernel_rfl) rfl args w
  low := fun k h => by have := P.pr; have := P.pg; rcases h with h | h <;> omega
  keep := fun s w w' h hb => h.keep P hb
  one := fun b s => by
    unfold tlG kdR
    split
    · rfl
    · simp
  good := fun b n s w h1 hb hI => by
    unfold tlG
    split
    · exact hI.rd.nx hfb
    · split
      · rename_i h0 h2
        have h3 : ¬ (b + n ≤ i ∨ i + c ≤ b) := fun h => h0 (by unfold kdR; rw [if_pos h])
        have hn : n = 1 := by
          unfold kdR at h2
          rw [if_neg h3] at h2
          split at h2 <;> omega
        exact ⟨keyAt_len hI.lv.1 (by omega), keyAt_range hlb _⟩
      · exact ⟨rfl, z32_range⟩
  call := fun b n s w h1 hb hB hI => tellR_impl g r ib cb kb lb blk off i c cap B0 N fl lv P hN hic hc hm b n s w h1 hb hB hfb hI
end Go.Proofs.Ytcbcfjflaplkoaa
namespace Go.Proofs.Ytcbcfjflaplkoaa
open Go.ChangeShapes Go.WideShapes Go.ChangeAt Go.RowKit
set_option linter.unusedVariables false
set_option linter.unusedSimpArgs false
theorem kdR_one (i c b : Nat) : kdR i c b 1 ≤ 1 := by
  unfold kdR
  split
  · omega
  · simp
def crB (root : List Int) (n i c P : Nat) (lv fl : List Int) : Bool := decide (P = need (kdR i c) n 0) && decide (kgen (kdR i c) (lfR lv i) (keyAt fl) n 0 0 = root)
def crC (n i : Int) (c : Nat) : Prop := 1 ≤ n ∧ n ≤ 256 ∧ 1 ≤ c ∧ 0 ≤ i ∧ i + (c : Int) ≤ n
instance (n i : Int) (c : Nat) : Decidable (crC n i c) := by unfold crC; infer_instance
def crE (n i : Int) (c P : Nat) : Int := if 256 < c ∨ 256 < P then 3 else if crC n i c then 0 else 2
def crV (root : List Int) (n i : Int) (c P : Nat) (lv fl : List Int) : Bool := if 256 < c ∨ 256 < P then false else if crC n i c then crB root n.toNat i.toNat c P lv fl else false
theorem cr_val (root lv fl : List Int) (n i c P : Nat) (h1 : 1 ≤ n) : (!(walkT (tlG (kdR i c) (lfR lv i) fl) n 0 (P, false)).2.2 && decide ((walkT (tlG (kdR i c) (lfR lv i) fl) n 0 (P, false)).2.1 = 0) && decide ((walkT (tlG (kdR i c) (lfR lv i) fl) n 0 (P, false)).1 = root)) = crB root n i c P lv fl := by
  have W := walkT_gen (lf := lfR lv i) (fl := fl) (kdR_one i c) n 0 P false h1
  unfold crB
  by_cases h : need (kdR i c) n 0 ≤ P
  · rw [W.1 h]
    by_cases h2 : P = need (kdR i c) n 0
    · rw [← h2, Nat.sub_self]
      simp
    · have h3 : ¬ P - need (kdR i c) n 0 = 0 := by omega
      simp [h2, h3]
  · rw [W.2 (by omega)]
    have h2 : ¬ P = need (kdR i c) n 0 := by omega
    simp [h2]
theorem wpList_load_row_g {P : Program} {ops : Array Oper} {rest : List Oper} {o : Oper} {a : Act} {w : World} {Q : Exit → Act → World → Prop} (hw : Region.wanted o (yielded ops a.tmps) = true) (ty : TypeId) (x : Operand) (ho : o.op = .load ty x)
    (g : Nat) (hx : a.eval x = .pointer (some ⟨g, 0, none⟩)) (t : TypeId) (cs : Array Value) (fr : Nat × Nat) (d : TypeDesc) (hg : w.heap[g]? = some (.cells cs t fr))
    (hu : P.underlying ty = some d) (hd : (match d with | .struct _ | .array _ _ => true | _ => false) = true) (hi : (P.info? ty).map (·.size) = some cs.size)
    (h : wpList P ops Q rest (a.put o.dst (.agg cs)) w) : wpList P ops Q (o :: rest) a w :=
  wpList_step fun _ hK => by rw [if_pos hw]; exact wp_load_row ty x ho g hx t cs fr d hg hu hd hi (hK _ _ h)
theorem eqlKey (a b : List Int) (ha : a.length = 32) (hb : b.length = 32) (W : World) : (binOp .eql 28 (.agg (ints .u8 a)) (.agg (ints .u8 b))).run Try.prog W = .ok (.bool (decide (a = b))) W :=
  run_eql_ints Try.underlying28 Try.underlying5 (by kernel_rfl) a b ha hb W
set_option maxRecDepth 100000 in
set_option maxHeartbeats 8000000 in
theorem cr_impl (root : List Int) (al ap : Option Addr) (c cc P cp : Nat) (n i : Int) (lv fl : List Int) (hR : root.length = 32) (hc : c ≤ 1048576) (hP : P ≤ 1048576) (hcc : c ≤ cc) (hm : cc ≤ maxLen) (fbl : ∀ z ∈ lv, 0 ≤ z ∧ z ≤ 255) (fbp : ∀ z ∈ fl, 0 ≤ z ∧ z ≤ 255) (w : World) (hl : RdK w al c lv) (hp : RdK w ap P fl) :
    Calls Try.prog 26 #[.agg (ints .u8 root), .int .i64 n, .int .i64 i, .slice al c cc, .slice ap P cp] w fun x w' => x = .returned (.tuple #[.bool (crV root n i c P lv fl), .int .i64 (crE n i c P)]) ∧ Below w.heap.size w w' := by
  unfold crV crE
  have A0 := Lib.hid (heap3_0 w (.cells (ints .u8 root) 28) (.cells #[.int .i64 i] 2) (.cells #[.slice al c cc] 24))
  have A1 := Lib.hid (heap3_1 w (.cells (ints .u8 root) 28) (.cells #[.int .i64 i] 2) (.cells #[.slice al c cc] 24))
  have A2 := Lib.hid (heap3_2 w (.cells (ints .u8 root) 28) (.cells #[.int .i64 i] 2) (.cells #[.slice al c cc] 24))
  have B3 := Lib.hid ((((Below.refl w.heap.size w).alloc (Nat.le_refl _) (.cells (ints .u8 root) 28)).alloc (by simp) (.cells #[.int .i64 i] 2)).alloc (by simp; omega) (.cells #[.slice al c cc] 24))
  obtain ⟨W3, hW3⟩ : ∃ W3, ((w.alloc (.cells (ints .u8 root) 28)).alloc (.cells #[.int .i64 i] 2)).alloc (.cells #[.slice al c cc] 24) = W3 := ⟨_, rfl⟩
  have HSZ : Hid (W3.heap.size = w.heap.size + 1 + 1 + 1) := Lib.hid (by rw [← hW3]; simp)
  rw [hW3] at A0 A1 A2 B3
  have ci := cell_of_one A1.out
  have cl := cell_of_one A2.out
  have hc0 : (0 : Int) ≤ (c : Int) := by omega
  by_cases h : 256 < c ∨ 256 < P
  · rw [if_pos h, if_pos h]
    by_cases h1 : 256 < c
    · have k1 : (256 : Int) < (c : Int) := by omega
      go_enter Try.func26, Try.ntmps26
      go_wp2_with fail
      go_ret2
      exact ⟨rfl, B3.out⟩
    · have k1 : ¬ (256 : Int) < (c : Int) := by omega
      have k2 : (256 : Int) < (P : Int) := by omega
      go_enter Try.func26, Try.ntmps26
      go_wp2_with fail
      go_ret2
      exact ⟨rfl, B3.out⟩
  · rw [if_neg h, if_neg h]
    have k1 : ¬ (256 : Int) < (c : Int) := by omega
    have k2 : ¬ (256 : Int) < (P : Int) := by omega
    have k1' : (c : Int) ≤ 256 := by omega
    have k2' : (P : Int) ≤ 256 := by omega
    have A3 := Lib.hid (heap_alloc_last W3 (.cells #[.int .i64 (c : Int)] 2))
    have B4 := Lib.hid ((Below.refl W3.heap.size W3).alloc (Nat.le_refl _) (.cells #[.int .i64 (c : Int)] 2))
    obtain ⟨W4, hW4⟩ : ∃ W4, W3.alloc (.cells #[.int .i64 (c : Int)] 2) = W4 := ⟨_, rfl⟩
    have HSZ4 : Hid (W4.heap.size = W3.heap.size + 1) := Lib.hid (by rw [← hW4]; simp)
    rw [hW4] at A3 B4
    have C1 := Lib.hid (keep_block A1.out B4.out)
    have C2 := Lib.hid (keep_block A2.out B4.out)
    have C0 := Lib.hid (keep_block A0.out B4.out)
    have B4w := Lib.hid (B3.out.trans (B4.out.mono B3.out.size))
    have ci4 := cell_of_one C1.out
    have cl4 := cell_of_one C2.out
    have cc4 := cell_of_one A3.out
    by_cases h2 : isLf n i
    · have Hlf := Lib.hid (fun U => leaf_yes n i h2 U)
      have g1 : (0 : Int) ≤ i := h2.2.1
      have g2 : i < n := h2.2.2
      have g3 : n ≤ 256 := h2.1
      by_cases h3 : 1 ≤ c
      · have k3 : ¬ (c : Int) < 1 := by omega
        by_cases h4 : i + (c : Int) ≤ n
        · rw [if_pos (show crC n i c from ⟨by omega, g3, h3, g1, h4⟩), if_pos (show crC n i c from ⟨by omega, g3, h3, g1, h4⟩)]
          have k4 : ¬ n - i < (c : Int) := by omega
          obtain ⟨n', rfl⟩ := Int.eq_ofNat_of_zero_le (show 0 ≤ n by omega)
          obtain ⟨i', rfl⟩ := Int.eq_ofNat_of_zero_le g1
          obtain ⟨blk, off, rfl⟩ := hl.form h3
          rw [Int.toNat_natCast, Int.toNat_natCast]
          have HBK : Hid (blk < w.heap.size) := Lib.hid (by
            rcases hl.2 with h0 | ⟨b', o', e, hlt, _⟩
            · omega
            · cases e; exact hlt)
          have HL4 := Lib.hid (hl.below B4w.out)
          have Hnr := Lib.hid (newReader_impl ap P cp fl hP W4 (hp.below B4w.out))
          have HV := Lib.hid (cr_val root lv fl n' i' c P (by omega))
          have Htr := Lib.hid (fun (g r kb : Nat) (U : World) (PP : RangeP g r (w.heap.size + 1) W3.heap.size kb (w.heap.size + 1 + 1) blk U.heap.size) hI => tree_impl (rangeTells g r (w.heap.size + 1) W3.heap.size kb (w.heap.size + 1 + 1) blk off i' c cc U.heap.size n' fl lv PP (by omega) (by omega) hcc hm fbp fbl) n' (P, false) U (by omega) (Nat.le_refl _) (Nat.le_refl _) hI)
          have HR := Lib.hid hR
          have HP := Lib.hid hP
          generalize walkT (tlG (kdR i' c) (lfR lv i') fl) n' 0 (P, false) = v at HV Htr
          clear hl hp fbl fbp
          generalize crB root n' i' c P lv fl = V at HV ⊢
          go_enter Try.func26, Try.ntmps26
          go_wp2_with fail
          refine (Hlf.out _).mono ?_
          rintro x w5 ⟨rfl, rfl⟩
          go_wp2_with fail
          refine Hnr.out.mono ?_
          rintro x w5 ⟨g, r, rfl, hrd, hg1, hr2, hb5⟩
          have B5 := Lib.hid hb5
          have BW5 := Lib.hid (B4w.out.trans (hb5.mono B4w.out.size))
          have RD5 := Lib.hid hrd
          have HG := Lib.hid hg1
          have HRL := Lib.hid hr2
          clear hrd hg1 hr2 hb5
          have L6 := Lib.hid ((Below.refl w5.heap.size w5).alloc (Nat.le_refl _) (.cells #[.pointer (some ⟨r, 0, none⟩)] 102))
          have K6 := Lib.hid (heap_alloc_last w5 (.cells #[.pointer (some ⟨r, 0, none⟩)] 102))
          have HT := Lib.hid (Htr.out g r w5.heap.size (w5.alloc (.cells #[.pointer (some ⟨r, 0, none⟩)] 102)) (by
            have e1 := HSZ.out; have e2 := HSZ4.out; have e3 := HG.out; have e4 := HRL.out; have e5 := RD5.out.lt; have e6 := HBK.out; have e7 := B5.out.size
            exact ⟨by simp; omega, by simp; omega, ⟨by simp; omega, by omega, by omega⟩, ⟨by simp; omega, by omega, by omega⟩, ⟨by simp, by omega, by omega⟩, ⟨by simp; omega, by omega, by omega⟩, ⟨by simp; omega, by omega, by omega⟩⟩)
            ⟨RD5.out.below L6.out, HP.out, keep_block (keep_block C1.out B5.out) L6.out, keep_block (keep_block A3.out B5.out) L6.out, K6.out, keep_block (keep_block C2.out B5.out) L6.out, (HL4.out.below B5.out).below L6.out⟩)
          go_wp2_with fail
          refine HT.out.mono ?_
          rintro x w7 ⟨rfl, hk7, hI7, hb7⟩
          have HK7 := Lib.hid hk7
          have I7 := Lib.hid hI7
          have B7 := Lib.hid ((BW5.out.trans (L6.out.mono BW5.out.size)).trans (hb7.below (C := w.heap.size) (by have := BW5.out.size; simp; omega) (fun k hk => by have := HG.out; have := HSZ.out; have := HSZ4.out; have := RD5.out.lt; rcases hk with hk | hk <;> omega)))
          have R7 := Lib.hid (hb7.hold (g := w.heap.size) (fun hk => by have := HG.out; have := HSZ.out; have := HSZ4.out; have := RD5.out.lt; rcases hk with hk | hk <;> omega) (keep_block (keep_block C0.out B5.out) L6.out))
          clear hk7 hI7 hb7 HT
          have L8 := Lib.hid (laid_below w7 (ints .u8 z32) (ints .u8 v.1) 28)
          have N8 := Lib.hid (laid_new w7 (ints .u8 z32) (ints .u8 v.1) 28)
          have R8 := Lib.hid (laid_old (ints .u8 z32) (ints .u8 v.1) 28 R7.out)
          have K8 := Lib.hid (laid_old (ints .u8 z32) (ints .u8 v.1) 28 I7.out.bk)
          have RD8 := Lib.hid (I7.out.rd.below L8.out)
          have B8 := Lib.hid (below_call B7.out B7.out.size L8.out)
          have Hz := Lib.hid z32_ints
          have ck := cell_of_one K8.out
          rw [Hz.out] at ck
          go_wp2_with (refine wpList_store_row rfl 28 (.tmp 14) _ rfl w7.heap.size (ints .u8 v.1) rfl rfl 28 (ints .u8 z32) (by rw [Hz.out]; exact heap_alloc_last _ _) (by rw [ints_size, HK7.out.1]; exact sizeKey) (by rw [ints_size, ints_size, HK7.out.1]; rfl) (ints_one _ _) ?_)
          rw [← Hz.out]
          clear ck
          generalize (w7.alloc (.cells (ints .u8 z32) 28)).setRow w7.heap.size (ints .u8 v.1) = W8 at L8 N8 R8 K8 RD8 B8 ⊢
          refine (used_impl g r v.2.1 v.2.2 fl W8 RD8.out).mono ?_
          rintro x w9 ⟨rfl, rfl⟩
          have hq := fun U => eqlKey v.1 root HK7.out.1 HR.out U
          have HVV := HV.out
          generalize (!v.2.2 && decide (v.2.1 = 0)) = u at HVV ⊢
          cases u with
          | true =>
            go_wp2_with (first | (refine wpList_load_row_g (by rfl) 28 (.tmp 14) rfl w7.heap.size rfl 28 (ints .u8 v.1) (0, 0) _ N8.out Try.underlying28 rfl (by rw [ints_size, HK7.out.1]; exact sizeKey) ?_) | (refine wpList_load_row_g (by rfl) 28 (.tmp 5) rfl w.heap.size rfl 28 (ints .u8 root) (0, 0) _ R8.out Try.underlying28 rfl (by rw [ints_size, HR.out]; exact sizeKey) ?_))
            go_ret2
            exact ⟨by rw [← HVV]; simp, B8.out⟩
          | false =>
            go_wp2_with fail
            go_ret2
            exact ⟨by rw [← HVV]; simp, B8.out⟩
        · rw [if_neg (fun hh => h4 hh.2.2.2.2), if_neg (fun hh => h4 hh.2.2.2.2)]
          have k4 : n - i < (c : Int) := by omega
          go_enter Try.func26, Try.ntmps26
          go_wp2_with fail
          refine (Hlf.out _).mono ?_
          rintro x w5 ⟨rfl, rfl⟩
          go_wp2_with fail
          go_ret2
          exact ⟨rfl, B4w.out⟩
      · rw [if_neg (fun hh => h3 hh.2.2.1), if_neg (fun hh => h3 hh.2.2.1)]
        have k3 : (c : Int) < 1 := by omega
        go_enter Try.func26, Try.ntmps26
        go_wp2_with fail
        refine (Hlf.out _).mono ?_
        rintro x w5 ⟨rfl, rfl⟩
        go_wp2_with fail
        go_ret2
        exact ⟨rfl, B4w.out⟩
    · rw [if_neg (fun hh => h2 ⟨hh.2.1, hh.2.2.2.1, by have := hh.2.2.2.2; have := hh.2.2.1; omega⟩), if_neg (fun hh => h2 ⟨hh.2.1, hh.2.2.2.1, by have := hh.2.2.2.2; have := hh.2.2.1; omega⟩)]
      have Hlf := Lib.hid (fun U => leaf_no n i h2 U)
      go_enter Try.func26, Try.ntmps26
      go_wp2_with fail
      refine (Hlf.out _).mono ?_
      rintro x w5 ⟨rfl, rfl⟩
      go_wp2_with fail
      go_ret2
      exact ⟨rfl, B4w.out⟩
end Go.Proofs.Ytcbcfjflaplkoaa
namespace Go.Proofs.Ytcbcfjflaplkoaa
open Go.ChangeShapes Go.WideShapes Go.ChangeAt Go.RowKit
set_option linter.unusedVariables false
set_option linter.unusedSimpArgs false
def rpE (n : Nat) (i j : Int) : Int := if 256 < n then 3 else if 0 ≤ i ∧ i < j ∧ j ≤ (n : Int) then 0 else 2
def rpN (n : Nat) (i j : Int) : Nat := if 256 < n then 0 else if 0 ≤ i ∧ i < j ∧ j ≤ (n : Int) then rgN n i j else 0
def rpV (fl : List Int) (n : Nat) (i j : Int) : List Int := if 256 < n then [] else if 0 ≤ i ∧ i < j ∧ j ≤ (n : Int) then rg (keyAt fl) 0 n i j else []
theorem rpN_le (n : Nat) (i j : Int) : rpN n i j ≤ 256 := by
  unfold rpN
  split
  · omega
  · split
    · have := rgN_le n i j (by omega); omega
    · omega
theorem rpV_len {fl : List Int} {n : Nat} {i j : Int} (h : fl.length = 32 * n) : (rpV fl n i j).length = 32 * rpN n i j := by
  unfold rpV rpN
  split
  · rfl
  · split
    · rename_i h2
      exact rg_len n 0 i j (by omega) (fun k hk => by rw [Nat.zero_add]; exact keyAt_len h hk)
    · rfl
set_option maxRecDepth 100000 in
set_option maxHeartbeats 2000000 in
theorem rp_spec (a : Option Addr) (n cap : Nat) (fl : List Int) (i j : Int) (hn : n ≤ 1048576) (hc : n ≤ cap) (hm : cap ≤ maxLen) (fb : ∀ z ∈ fl, 0 ≤ z ∧ z ≤ 255) (w : World) (hr : RdK w a n fl) :
    Calls Try.prog 43 #[.slice a n cap, .int .i64 i, .int .i64 j] w fun e w' => ∃ v, e = .returned (.tuple #[v, .int .i64 (rpE n i j)]) ∧ w'.ownsRow w.heap.size 28 32 v (rpN n i j) ((rpV fl n i j).map (Value.int .u8)) ∧ Below w.heap.size w w' := by
  unfold rpE rpN rpV
  have O1 := Lib.hid (owns_empty w 28 32)
  have B1 := Lib.hid ((Below.refl w.heap.size w).alloc (Nat.le_refl _) (.cells #[] 28))
  by_cases h : 256 < n
  · rw [if_pos h, if_pos h, if_pos h]
    have h1 : (256 : Int) < (n : Int) := by omega
    go_enter Try.func43, Try.ntmps43
    go_wp2_with fail
    go_ret2
    exact ⟨_, rfl, O1.out, B1.out⟩
  · rw [if_neg h, if_neg h, if_neg h]
    have h1 : (n : Int) ≤ (256 : Int) := by omega
    have h0 : (0 : Int) ≤ (n : Int) := by omega
    by_cases h2 : 0 ≤ i ∧ i < j ∧ j ≤ (n : Int)
    · rw [if_pos h2, if_pos h2, if_pos h2]
      obtain ⟨h3, h4, h5⟩ := h2
      obtain ⟨b, o, rfl⟩ := hr.form (by omega)
      have Hp := Lib.hid (range_spec n b o cap i j fl w (by omega) hn hc hm (by omega) (by omega) (by omega) (by omega) fb hr)
      clear hr fb
      have k1 : ¬ i < 0 := by omega
      have k2 : ¬ j ≤ i := by omega
      have k3 : ¬ (n : Int) < j := by omega
      generalize rgN n i j = N at Hp ⊢
      generalize rg (keyAt fl) 0 n i j = V at Hp ⊢
      go_enter Try.func43, Try.ntmps43
      go_wp2_with fail
      refine Hp.out.mono ?_
      rintro e w1 ⟨v, rfl, ho, hb⟩
      have O1 := Lib.hid ho
      have B1 := Lib.hid hb
      clear ho hb
      go_wp2_with fail
      go_ret2
      exact ⟨_, rfl, O1.out, B1.out⟩
    · rw [if_neg h2, if_neg h2, if_neg h2]
      clear hr fb
      by_cases h3 : i < 0
      · go_enter Try.func43, Try.ntmps43
        go_wp2_with fail
        go_ret2
        exact ⟨_, rfl, O1.out, B1.out⟩
      · by_cases h4 : j ≤ i
        · go_enter Try.func43, Try.ntmps43
          go_wp2_with fail
          go_ret2
          exact ⟨_, rfl, O1.out, B1.out⟩
        · have h5 : (n : Int) < j := by omega
          go_enter Try.func43, Try.ntmps43
          go_wp2_with fail
          go_ret2
          exact ⟨_, rfl, O1.out, B1.out⟩
set_option maxRecDepth 100000 in
set_option maxHeartbeats 4000000 in
theorem rp_impl (a : Option Addr) (n cap : Nat) (fl : List Int) (i j : Int) (hn : n ≤ 1048576) (hc : n ≤ cap) (hm : cap ≤ maxLen) (fb : ∀ z ∈ fl, 0 ≤ z ∧ z ≤ 255) (w : World) (hr : RdK w a n fl) :
    Calls Try.prog 25 #[.slice a n cap, .int .i64 i, .int .i64 j] w fun e w' => ∃ v, e = .returned (.tuple #[v, .int .i64 (rpE n i j)]) ∧ w'.ownsRow w.heap.size 28 32 v (rpN n i j) ((rpV fl n i j).map (Value.int .u8)) ∧ Below w.heap.size w w' := by
  unfold rpE rpN rpV
  have A0 := Lib.hid (heap3_0 w (.cells #[.slice a n cap] 24) (.cells #[.int .i64 i] 2) (.cells #[.int .i64 j] 2))
  have A1 := Lib.hid (heap3_1 w (.cells #[.slice a n cap] 24) (.cells #[.int .i64 i] 2) (.cells #[.int .i64 j] 2))
  have A2 := Lib.hid (heap3_2 w (.cells #[.slice a n cap] 24) (.cells #[.int .i64 i] 2) (.cells #[.int .i64 j] 2))
  have B3 := Lib.hid ((((Below.refl w.heap.size w).alloc (Nat.le_refl _) (.cells #[.slice a n cap] 24)).alloc (by simp) (.cells #[.int .i64 i] 2)).alloc (by simp; omega) (.cells #[.int .i64 j] 2))
  obtain ⟨W3, hW3⟩ : ∃ W3, ((w.alloc (.cells #[.slice a n cap] 24)).alloc (.cells #[.int .i64 i] 2)).alloc (.cells #[.int .i64 j] 2) = W3 := ⟨_, rfl⟩
  have HSZ : Hid (W3.heap.size = w.heap.size + 1 + 1 + 1) := Lib.hid (by rw [← hW3]; simp)
  rw [hW3] at A0 A1 A2 B3
  have cl := cell_of_one A0.out
  have ci := cell_of_one A1.out
  have cj := cell_of_one A2.out
  by_cases h : 256 < n
  · rw [if_pos h, if_pos h, if_pos h]
    have h1 : (256 : Int) < (n : Int) := by omega
    go_enter Try.func25, Try.ntmps25
    go_wp2_with fail
    go_ret2
    exact ⟨_, rfl, World.ownsRow_nil _ _ _ _, B3.out⟩
  · rw [if_neg h, if_neg h, if_neg h]
    have h1 : (n : Int) ≤ (256 : Int) := by omega
    have h0 : (0 : Int) ≤ (n : Int) := by omega
    by_cases h2 : 0 ≤ i ∧ i < j ∧ j ≤ (n : Int)
    · rw [if_pos h2, if_pos h2, if_pos h2]
      obtain ⟨h3, h4, h5⟩ := h2
      obtain ⟨b, o, rfl⟩ := hr.form (by omega)
      obtain ⟨i', rfl⟩ := Int.eq_ofNat_of_zero_le h3
      obtain ⟨j', rfl⟩ := Int.eq_ofNat_of_zero_le (show 0 ≤ j by omega)
      have Hw := Lib.hid (fun W => walkR_impl w (w.heap.size + 1) (w.heap.size + 1 + 1) W3.heap.size w.heap.size (W3.heap.size + 1) b o n cap i' j' fl (by omega) hc hm fb (by omega) (by omega) hr (by have := HSZ.out; omega) (by have := HSZ.out; omega) (by have := HSZ.out; omega) (by omega) (by have := HSZ.out; omega) n 0 0 (.slice none 0 0) [] W (by omega) (by omega) (by omega))
      simp only [Nat.zero_add, List.nil_append, Int.natCast_zero, Int.ofNat_zero, Int.sub_zero] at Hw
      rw [show spanA 0 n = #[.int .i64 0, .int .i64 (n : Int)] by simp [spanA]] at Hw
      have A4 := Lib.hid (heap_alloc2_old W3 (.cells #[.slice none 0 0] 24) (.cells #[.func (.func 70) #[] #[.pointer (some ⟨w.heap.size + 1, 0, none⟩), .pointer (some ⟨w.heap.size + 1 + 1, 0, none⟩), .pointer (some ⟨W3.heap.size, 0, none⟩), .pointer (some ⟨w.heap.size, 0, none⟩), .pointer (some ⟨W3.heap.size + 1, 0, none⟩)]] 94))
      have A5 := Lib.hid (heap_alloc2_new W3 (.cells #[.slice none 0 0] 24) (.cells #[.func (.func 70) #[] #[.pointer (some ⟨w.heap.size + 1, 0, none⟩), .pointer (some ⟨w.heap.size + 1 + 1, 0, none⟩), .pointer (some ⟨W3.heap.size, 0, none⟩), .pointer (some ⟨w.heap.size, 0, none⟩), .pointer (some ⟨W3.heap.size + 1, 0, none⟩)]] 94))
      have B5 := Lib.hid (((Below.refl W3.heap.size W3).alloc (Nat.le_refl _) (.cells #[.slice none 0 0] 24)).alloc (by simp) (.cells #[.func (.func 70) #[] #[.pointer (some ⟨w.heap.size + 1, 0, none⟩), .pointer (some ⟨w.heap.size + 1 + 1, 0, none⟩), .pointer (some ⟨W3.heap.size, 0, none⟩), .pointer (some ⟨w.heap.size, 0, none⟩), .pointer (some ⟨W3.heap.size + 1, 0, none⟩)]] 94))
      have cw := cell_of_one A5.out
      have cl5 := cell_of_one (keep_block A0.out B5.out)
      clear hr fb
      have k1 : ¬ (i' : Int) < 0 := by omega
      have k2 : ¬ (j' : Int) ≤ (i' : Int) := by omega
      have k3 : ¬ (n : Int) < (j' : Int) := by omega
      generalize rgN n (i' : Int) (j' : Int) = N at Hw ⊢
      generalize rg (keyAt fl) 0 n (i' : Int) (j' : Int) = V at Hw ⊢
      go_enter Try.func25, Try.ntmps25
      go_wp2_with fail
      clear hW3 cw cl ci cj cl5
      generalize (W3.alloc (.cells #[.slice none 0 0] 24)).alloc (.cells #[.func (.func 70) #[] #[.pointer (some ⟨w.heap.size + 1, 0, none⟩), .pointer (some ⟨w.heap.size + 1 + 1, 0, none⟩), .pointer (some ⟨W3.heap.size, 0, none⟩), .pointer (some ⟨w.heap.size, 0, none⟩), .pointer (some ⟨W3.heap.size + 1, 0, none⟩)]] 94) = W5 at A4 A5 B5 ⊢
      have B6 := Lib.hid (B3.out.trans (B5.out.mono B3.out.size))
      refine (Hw.out W5 B6.out.size ⟨keep_block A1.out B5.out, keep_block A2.out B5.out, keep_block A0.out B5.out, A5.out, B6.out⟩ A4.out (World.ownsRow_nil _ _ _ _)).mono ?_
      rintro e w1 ⟨rfl, s1, v1, p1, o1⟩
      have B7 := Lib.hid (B6.out.trans s1.below)
      have O7 := Lib.hid o1
      have cp := cell_of_one p1
      clear s1 p1 o1
      go_wp2_with fail
      go_ret2
      exact ⟨_, rfl, O7.out, B7.out⟩
    · rw [if_neg h2, if_neg h2, if_neg h2]
      clear hr fb
      by_cases h3 : i < 0
      · go_enter Try.func25, Try.ntmps25
        go_wp2_with fail
        go_ret2
        exact ⟨_, rfl, World.ownsRow_nil _ _ _ _, B3.out⟩
      · by_cases h4 : j ≤ i
        · go_enter Try.func25, Try.ntmps25
          go_wp2_with fail
          go_ret2
          exact ⟨_, rfl, World.ownsRow_nil _ _ _ _, B3.out⟩
        · have h5 : (n : Int) < j := by omega
          go_enter Try.func25, Try.ntmps25
          go_wp2_with fail
          go_ret2
          exact ⟨_, rfl, World.ownsRow_nil _ _ _ _, B3.out⟩
end Go.Proofs.Ytcbcfjflaplkoaa
namespace Go.Proofs.Ytcbcfjflaplkoaa
open Go.ChangeShapes Go.WideShapes Go.ChangeAt Go.RowKit
set_option linter.unusedVariables false
set_option linter.unusedSimpArgs false
theorem need_rg {i c : Nat} (hc : 1 ≤ c) : ∀ n b, 1 ≤ n → need (kdR i c) n b = rgN n ((i : Int) - (b : Int)) (((i + c : Nat) : Int) - (b : Int)) := by
  intro n
  induction n using Nat.strongRecOn with
  | _ n ih =>
    intro b h1
    by_cases h : b + n ≤ i ∨ i + c ≤ b
    · rw [need_read (by unfold kdR; rw [if_pos h]), rgN_miss (by omega)]
    · have hm : ¬ (((i + c : Nat) : Int) - (b : Int) ≤ 0 ∨ (n : Int) ≤ (i : Int) - (b : Int)) := by omega
      by_cases h2 : n = 1
      · subst h2
        rw [need_leaf (by unfold kdR; rw [if_neg h, if_pos rfl]; simp) (Or.inr (Nat.le_refl 1)), rgN_in hm (Or.inl (Nat.le_refl 1))]
      · have a1 := half_pos n
        have a2 := half_lt (n := n) (by omega)
        have hk : kdR i c b n = 2 := by unfold kdR; rw [if_neg h, if_neg h2]
        rw [need_two (by rw [hk]; simp) (by rw [hk]; omega), rgN_down hm (by omega), ih _ a2 b a1, ih _ (by omega) (b + half n) (by omega)]
        rw [show (i : Int) - ((b + half n : Nat) : Int) = (i : Int) - (b : Int) - (half n : Nat) by omega, show ((i + c : Nat) : Int) - ((b + half n : Nat) : Int) = ((i + c : Nat) : Int) - (b : Int) - (half n : Nat) by omega]
theorem rg_depth : ∀ n i, i < n → rgN n (i : Int) ((i : Int) + 1) = dN n i := by
  intro n
  induction n using Nat.strongRecOn with
  | _ n ih =>
    intro i hi
    have hm : ¬ ((i : Int) + 1 ≤ 0 ∨ (n : Int) ≤ (i : Int)) := by omega
    by_cases h2 : n ≤ 1
    · rw [rgN_in hm (Or.inl h2), dN_one h2]
    · have a1 := half_pos n
      have a2 := half_lt (n := n) (by omega)
      rw [rgN_down hm (by omega)]
      by_cases h3 : i < half n
      · rw [ih _ a2 i h3, rgN_miss (by omega), dN_left (by omega) h3]
      · have e := ih (n - half n) (by omega) (i - half n) (by omega)
        rw [show ((i - half n : Nat) : Int) = (i : Int) - (half n : Nat) by omega] at e
        rw [rgN_miss (n := half n) (by omega), dN_right (by omega) h3, ← e, show (i : Int) - (half n : Nat) + 1 = (i : Int) + 1 - (half n : Nat) by omega]
        omega
theorem keyAt_left {A B : List Int} {m t : Nat} (hA : A.length = 32 * m) (ht : t < m) : keyAt (A ++ B) t = keyAt A t := by
  unfold keyAt
  rw [List.drop_append_of_le_length (by omega), List.take_append_of_le_length (by rw [List.length_drop]; omega)]
theorem keyAt_right {A B : List Int} {m t : Nat} (hA : A.length = 32 * m) : keyAt (A ++ B) (m + t) = keyAt B t := by
  unfold keyAt
  rw [show 32 * (m + t) = 32 * m + 32 * t by omega, ← List.drop_drop, List.drop_left' hA]
theorem kgen_rg {kf kp : Nat → List Int} {lf : Nat → List Int} {i c : Nat} (hc : 1 ≤ c) : ∀ n b p, 1 ≤ n → (∀ t, t < n → (kf (b + t)).length = 32) → (∀ t, i ≤ t → t < i + c → lf t = kf t) →
    (∀ t, t < need (kdR i c) n b → kp (p + t) = keyAt (rg kf b n ((i : Int) - (b : Int)) (((i + c : Nat) : Int) - (b : Int))) t) → kgen (kdR i c) lf kp n b p = tkey kf b n := by
  intro n
  induction n using Nat.strongRecOn with
  | _ n ih =>
    intro b p h1 hk hl hp
    by_cases h : b + n ≤ i ∨ i + c ≤ b
    · have h0 : kdR i c b n = 0 := by unfold kdR; rw [if_pos h]
      rw [need_read h0] at hp
      have h2 := hp 0 (by omega)
      rw [rg_miss (by omega)] at h2
      rw [kgen_read h0, ← Nat.add_zero p, h2]
      unfold keyAt
      rw [Nat.mul_zero, List.drop_zero, List.take_of_length_le (by rw [tkey_len h1 hk]; omega)]
    · have hm : ¬ (((i + c : Nat) : Int) - (b : Int) ≤ 0 ∨ (n : Int) ≤ (i : Int) - (b : Int)) := by omega
      by_cases h2 : n = 1
      · subst h2
        rw [kgen_leaf (by unfold kdR; rw [if_neg h, if_pos rfl]; simp) (Or.inr (Nat.le_refl 1)), tkey_one]
        exact hl b (by omega) (by omega)
      · have a1 := half_pos n
        have a2 := half_lt (n := n) (by omega)
        have hkd : kdR i c b n = 2 := by unfold kdR; rw [if_neg h, if_neg h2]
        rw [need_two (by rw [hkd]; simp) (by rw [hkd]; omega), rg_down hm (by omega)] at hp
        have hlen : (rg kf b (half n) ((i : Int) - (b : Int)) (((i + c : Nat) : Int) - (b : Int))).length = 32 * need (kdR i c) (half n) b := by
          rw [need_rg hc _ _ a1]
          exact rg_len _ _ _ _ a1 (fun t ht => hk t (by omega))
        rw [kgen_two (by rw [hkd]; simp) (by rw [hkd]; omega), tkey_two _ _ _ (by omega)]
        rw [ih _ a2 b p a1 (fun t ht => hk t (by omega)) hl (fun t ht => by rw [hp t (by omega), keyAt_left hlen ht])]
        rw [ih _ (by omega) (b + half n) (p + need (kdR i c) (half n) b) (by omega) (fun t ht => by rw [Nat.add_assoc]; exact hk _ (by omega)) hl (fun t ht => by
          rw [Nat.add_assoc, hp _ (by omega), keyAt_right hlen]
          rw [show (i : Int) - ((b + half n : Nat) : Int) = (i : Int) - (b : Int) - (half n : Nat) by omega, show ((i + c : Nat) : Int) - ((b + half n : Nat) : Int) = ((i + c : Nat) : Int) - (b : Int) - (half n : Nat) by omega])]
/-- An honest proof of the range is accepted. -/
theorem crB_honest {fl : List Int} {n i c : Nat} (hl : fl.length = 32 * n) (hc : 1 ≤ c) (hi : i + c ≤ n) (X : List Int) :
    need (kdR i c) n 0 = rgN n (i : Int) ((i + c : Nat) : Int) ∧ kgen (kdR i c) (lfR (subK fl i c) i) (keyAt (rg (keyAt fl) 0 n (i : Int) ((i + c : Nat) : Int) ++ X)) n 0 0 = tkey (keyAt fl) 0 n := by
  have e := need_rg (i := i) hc n 0 (by omega)
  rw [show (i : Int) - ((0 : Nat) : Int) = (i : Int) by omega, show ((i + c : Nat) : Int) - ((0 : Nat) : Int) = ((i + c : Nat) : Int) by omega] at e
  refine ⟨e, ?_⟩
  refine kgen_rg hc n 0 0 (by omega) (fun t ht => by rw [Nat.zero_add]; exact keyAt_len hl ht) (fun t h1 h2 => ?_) (fun t ht => ?_)
  · unfold lfR subK keyAt
    rw [List.drop_take, List.take_take, List.drop_drop, Nat.min_eq_left (by omega), show 32 * i + 32 * (t - i) = 32 * t by omega]
  · rw [Nat.zero_add, show (i : Int) - ((0 : Nat) : Int) = (i : Int) by omega, show ((i + c : Nat) : Int) - ((0 : Nat) : Int) = ((i + c : Nat) : Int) by omega]
    refine keyAt_left (m := need (kdR i c) n 0) ?_ ht
    rw [e]
    exact rg_len _ _ _ _ (by omega) (fun t ht => by rw [Nat.zero_add]; exact keyAt_len hl ht)
theorem crv_true {fl : List Int} {n i c : Nat} (hl : fl.length = 32 * n) (hc : 1 ≤ c) (hi : i + c ≤ n) (hn : n ≤ 256) :
    crV (tkey (keyAt fl) 0 n) (n : Int) (i : Int) c (rgN n (i : Int) ((i + c : Nat) : Int)) (subK fl i c) (rg (keyAt fl) 0 n (i : Int) ((i + c : Nat) : Int)) = true ∧ crE (n : Int) (i : Int) c (rgN n (i : Int) ((i + c : Nat) : Int)) = 0 := by
  have h := rgN_le n (i : Int) ((i + c : Nat) : Int) (by omega)
  have h1 : ¬ (256 < c ∨ 256 < rgN n (i : Int) ((i + c : Nat) : Int)) := by omega
  have h2 : crC (n : Int) (i : Int) c := ⟨by omega, by omega, by omega, by omega, by omega⟩
  have h3 := crB_honest hl hc hi []
  rw [List.append_nil] at h3
  unfold crV crE crB
  rw [if_neg h1, if_neg h1, if_pos h2, if_pos h2, Int.toNat_natCast, Int.toNat_natCast, h3.1, h3.2]
  simp
theorem crv_long {fl root pl : List Int} {n i c : Nat} (hc : 1 ≤ c) (hi : i + c ≤ n) (hn : n ≤ 200) :
    crV root (n : Int) (i : Int) c (rgN n (i : Int) ((i + c : Nat) : Int) + 1) (subK fl i c) pl = false ∧ crE (n : Int) (i : Int) c (rgN n (i : Int) ((i + c : Nat) : Int) + 1) = 0 := by
  have h := rgN_le n (i : Int) ((i + c : Nat) : Int) (by omega)
  have h1 : ¬ (256 < c ∨ 256 < rgN n (i : Int) ((i + c : Nat) : Int) + 1) := by omega
  have h2 : crC (n : Int) (i : Int) c := ⟨by omega, by omega, by omega, by omega, by omega⟩
  have e := need_rg (i := i) hc n 0 (by omega)
  rw [show (i : Int) - ((0 : Nat) : Int) = (i : Int) by omega, show ((i + c : Nat) : Int) - ((0 : Nat) : Int) = ((i + c : Nat) : Int) by omega] at e
  unfold crV crE crB
  rw [if_neg h1, if_neg h1, if_pos h2, if_pos h2, Int.toNat_natCast, Int.toNat_natCast, e, decide_eq_false (by omega)]
  simp
theorem crv_whole {fl : List Int} {n : Nat} (hl : fl.length = 32 * n) (h1 : 1 ≤ n) (hn : n ≤ 256) :
    rgN n 0 (n : Int) = 0 ∧ rg (keyAt fl) 0 n 0 (n : Int) = [] ∧ crV (tkey (keyAt fl) 0 n) (n : Int) 0 n 0 fl [] = true ∧ crE (n : Int) 0 n 0 = 0 := by
  have hm : ¬ ((n : Int) ≤ 0 ∨ (n : Int) ≤ 0) := by omega
  have hin : n ≤ 1 ∨ ((0 : Int) ≤ 0 ∧ (n : Int) ≤ (n : Int)) := Or.inr ⟨by omega, by omega⟩
  have e1 : rgN n 0 (n : Int) = 0 := rgN_in hm hin
  have e2 : rg (keyAt fl) 0 n 0 (n : Int) = [] := rg_in hm hin
  have h := crv_true (i := 0) hl h1 (by omega) hn
  simp only [Nat.zero_add, Int.natCast_zero] at h
  rw [e1, e2, subK_all hl] at h
  exact ⟨e1, e2, h⟩
end Go.Proofs.Ytcbcfjflaplkoaa
namespace Go.Proofs.Ytcbcfjflaplkoaa
open Go.ChangeShapes Go.WideShapes Go.ChangeAt Go.RowKit
set_option linter.unusedVariables false
set_option linter.unusedSimpArgs false
set_option maxHeartbeats 2000000 in
theorem at_law (a : Option Addr) (n c : Nat) (l : List Int) (hn : n ≤ 1048576) (hl : ∀ z ∈ l, 0 ≤ z ∧ z ≤ 255) (k : Nat) (hk : k ≤ 100) (N : Int) (h1 : 1 ≤ N) (h2 : N ≤ 1000000) (w : World) (hr : Rd .u8 w a n l) :
    Calls Try.prog 17 #[.slice a n c, .int .i64 (k : Int), .int .i64 N] w fun x w' => ∃ r : Int, x = .returned (.int .i64 r) ∧ 0 ≤ r ∧ r < N ∧ w = w' := by
  by_cases h : k < n
  · obtain ⟨hll, h3⟩ := hr
    rcases h3 with h3 | ⟨b, o, rfl, hb, hcc⟩
    · omega
    · obtain ⟨z, z0, z1, hc⟩ : ∃ z : Int, 0 ≤ z ∧ z ≤ 255 ∧ w.cell? ⟨b, o + k, none⟩ = some (.int .u8 z) := by
        have hz := hl (l[k]'(by omega)) (List.getElem_mem _)
        have hc := hcc k h
        rw [List.getElem?_eq_getElem (show k < l.length by omega)] at hc
        exact ⟨_, hz.1, hz.2, hc⟩
      clear hcc hl
      have i0 : (0 : Int) ≤ (k : Int) := by omega
      have i1 : (k : Int) < (n : Int) := by omega
      have i2 : ¬ (n : Int) ≤ (k : Int) := by omega
      have i3 : ¬ N < 1 := by omega
      have i4 : (N == 0) = false := by rw [beq_eq_false_iff_ne]; omega
      have i5 : N ≠ 0 := by omega
      go_enter Try.func17, Try.ntmps17
      go_wp2
      go_ret
      exact ⟨_, rfl, Int.emod_nonneg _ i5, Int.emod_lt_of_pos _ (show 0 < N by omega), rfl⟩
  · have i2 : (n : Int) ≤ (k : Int) := by omega
    go_enter Try.func17, Try.ntmps17
    go_wp2
    go_ret
    exact ⟨0, rfl, by omega, by omega, rfl⟩
theorem owns_keepX {g base e n size : Nat} {w w' : World} {v : Value} {xs : List Value} (hb : v.ownBlock ≠ some g) (o : w.ownsRow base e size v n xs) (k : Keep w.heap.size (· = g) w w') : w'.ownsRow base e size v n xs := by
  refine ⟨o.1, ?_⟩
  rcases o.2 with h0 | ⟨c, cap, cur, hv, hc, hh, r⟩
  · exact Or.inl h0
  · subst hv
    exact Or.inr ⟨c, cap, cur, rfl, hc, k.hold (fun e => hb (by rw [← e]; rfl)) hh, r⟩
theorem rg_rangeG {kf : Nat → List Int} (hk : ∀ i, ∀ z ∈ kf i, 0 ≤ z ∧ z ≤ 255) : ∀ (n b : Nat) (i j : Int), 1 ≤ n → ∀ z ∈ rg kf b n i j, 0 ≤ z ∧ z ≤ 255 := by
  intro n
  induction n using Nat.strongRecOn with
  | _ n ih =>
    intro b i j h1 z hz
    by_cases h : j ≤ 0 ∨ (n : Int) ≤ i
    · rw [rg_miss h] at hz
      exact tkey_range h1 (fun k _ => hk _) z hz
    · by_cases h2 : n ≤ 1 ∨ (i ≤ 0 ∧ (n : Int) ≤ j)
      · rw [rg_in h h2] at hz
        exact absurd hz (by simp)
      · have a1 := half_pos n
        have a2 := half_lt (n := n) (by omega)
        rw [rg_two h h2] at hz
        rcases List.mem_append.1 hz with hz | hz
        · exact ih _ a2 b i j a1 z hz
        · exact ih _ (by omega) _ _ _ (by omega) z hz
theorem one_of_heapG {w : World} {x : Nat} {t : TypeId} {size : Nat} {c : Array Value} (h : w.heap[x]? = some (.cells c t)) (hc : c.size = size) : w.ownsRow x t size (.slice (some ⟨x, 0, none⟩) 1 1) 1 c.toList :=
  ⟨by simp [hc], Or.inr ⟨x, 1, c, rfl, Nat.le_refl _, h, Nat.le_refl _, by unfold maxLen; omega, by omega, by rw [List.take_of_length_le (by simp [hc])]⟩⟩
theorem owned_formG {w : World} {base n size : Nat} {e : TypeId} {v : Value} {xs : List Value} (h : w.ownsRow base e size v n xs) (h0 : 0 < n) : ∃ b c, v = .slice (some ⟨b, 0, none⟩) n c ∧ n ≤ c ∧ c ≤ maxLen ∧ base ≤ b := by
  rcases h.2 with ⟨rfl, h1⟩ | ⟨g, cap, cur, rfl, hb, hg, hc, hm, r⟩
  · omega
  · exact ⟨g, cap, rfl, hc, hm, hb⟩
theorem xor_rangeT (x y : Int) (h0 : 0 ≤ x) (h1 : x ≤ 255) (g0 : 0 ≤ y) (g1 : y ≤ 255) : 0 ≤ bits BinOp.xor IntKind.u8 x y ∧ bits BinOp.xor IntKind.u8 x y ≤ 255 := by
  have h := u8_xor x y h0 (by omega) g0 (by omega)
  rw [h]
  have : x.toNat ^^^ y.toNat < 2 ^ 8 := Nat.xor_lt_two_pow (by omega) (by omega)
  omega
theorem RdK_set {w : World} {b o n k : Nat} {fl : List Int} {z : Int} (h : RdK w (some ⟨b, o, none⟩) n fl) (hk : k < 32 * n) : RdK (w.setCell ⟨b, o + k, none⟩ (.int .u8 z)) (some ⟨b, o, none⟩) n (fl.set k z) := by
  obtain ⟨hl, h2⟩ := h
  refine ⟨by rw [List.length_set]; exact hl, ?_⟩
  rcases h2 with h0 | ⟨b', o', e, hb, hc⟩
  · omega
  · cases e
    have hlt := World.block_lt_of_cell? w _ (hc k hk)
    refine Or.inr ⟨b, o, rfl, by simpa using hlt, fun j hj => ?_⟩
    by_cases hjk : j = k
    · subst hjk
      rw [List.getElem?_set_self (by omega), World.cell?_setCell_same _ _ _ (hc j hj)]
      rfl
    · rw [List.getElem?_set_ne (fun e => hjk e.symm), World.cell?_setCell_other _ _ _ _ (by intro e; injection e; omega)]
      exact hc j hj
set_option maxHeartbeats 1000000 in
theorem wpList_append_rowsT {P : Program} {ops : Array Oper} {rest : List Oper} {w : World} {o : Oper} {a : Act} {Q : Exit → Act → World → Prop} (hgd : o.guard = none) {base base2 : Nat} (s x : Operand) (t : TypeId)
    (ho : o.op = .call { callee := .builtin .append, args := #[s, x], argTypes := #[t, t] }) (e : TypeId) (i : TypeInfo) (z : Value) (size bytes : Nat) (ht : P.underlying t = some (.slice e)) (hi : P.info? e = some i) (hz : i.zero = some z)
    (hsize : i.size = size) (hby : i.bytes = bytes) (hzs : z.cells.size = size) (hsz : 0 < size) (v : Value) (n : Nat) (xs : List Value) (hs : a.eval s = v) (hown : w.ownsRow base e size v n xs)
    (u : Value) (m : Nat) (ys : List Value) (hx : a.eval x = u) (hown2 : w.ownsRow base2 e size u m ys) (h1 : ∀ y ∈ ys, y.oneCell' = true) (h63 : n + m ≤ maxLen) (hbytes : (n + m) * bytes ≤ 140737488355328) (hbase : base ≤ w.heap.size)
    (h : ∀ v' w', w'.ownsRow base e size v' (n + m) (xs ++ ys) → w.grownBy w' v.ownBlock → wpList P ops Q rest (a.put o.dst v') w') : wpList P ops Q (o :: rest) a w := by
  obtain ⟨v', w', hr, h2, h3⟩ := run_append_rows (P := P) t o.type e i z size bytes ht hi hz hsize hby hzs hsz v n xs hown u m ys hown2 h1 h63 hbytes hbase
  exact wpList_append_ran hgd s x t t ho v u hs hx hr (h v' w' h2 h3)
end Go.Proofs.Ytcbcfjflaplkoaa
