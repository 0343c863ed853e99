/- Stores: brought over. Written by hand. -/
import Derived.Test.YtdoelmjaongjfaaStoreZ
namespace Go.Proofs.Ytdoelmjaongjfaa
open Go.ChangeShapes Go.WideShapes Go.ChangeAt Go.RowKit
set_option linter.unusedVariables false
set_option linter.unusedSimpArgs false
theorem blInfo : (Try.prog.info? 43).map (fun i => (i.zero.map (·.cells), i.size, i.bytes)) = some (some #[.int .u8 0, .slice none 0 0], 2, 32) := by kernel_rfl
theorem run_make_bls (n : Nat) (hn : n ≤ 1048576) (w : World) : ∃ cs : Array Value, cs.size = n * 2 ∧
    (Instr.makeSlice 27 (.int .i64 (n : Int)) (.int .i64 (n : Int))).run Try.prog w = .ok (.slice (some ⟨w.heap.size, 0, none⟩) n n) (w.alloc (.cells cs 43)) := by
  obtain ⟨i, hi, hzz⟩ := Option.map_eq_some_iff.1 blInfo
  simp only [Prod.mk.injEq] at hzz
  obtain ⟨hz, hs, hb⟩ := hzz
  obtain ⟨z, hz0, hzc⟩ := Option.map_eq_some_iff.1 hz
  have := run_make w 27 43 i z Try.underlying27 hi hz0 .i64 .i64 (n : Int) (n : Int) (by omega) (by omega) (by rw [hb]; omega) (by omega)
  refine ⟨_, ?_, this⟩
  rw [size_madeCells, hs]
  simp
/-- What toBlobS has made of the first k blobs, in block g. -/
def OutB (w : World) (g n k : Nat) (bs : List BlV) : Prop := ∃ cs : Array Value, w.heap[g]? = some (.cells cs 43) ∧ cs.size = n * 2 ∧
  ∀ i x, i < k → bs[i]? = some x → ∃ y, y ≠ g ∧ cs[i * 2]? = some (.int .u8 x.t) ∧ cs[i * 2 + 1]? = some (.slice (some ⟨y, 0, none⟩) x.n x.n) ∧ w.heap[y]? = some (.cells (ints .u8 x.l) 5)
theorem OutB.below {w w1 : World} {g n k : Nat} {bs : List BlV} (h : OutB w g n k bs) (hb : Below w.heap.size w w1) : OutB w1 g n k bs := by
  obtain ⟨cs, h1, h2, h3⟩ := h
  refine ⟨cs, keep_block h1 hb, h2, fun i x hi hx => ?_⟩
  obtain ⟨y, y1, y2, y3, y4⟩ := h3 i x hi hx
  exact ⟨y, y1, y2, y3, keep_block y4 hb⟩
set_option maxRecDepth 100000 in
set_option maxHeartbeats 4000000 in
theorem toBlS (a : Option Addr) (n cap : Nat) (bs : List BlV) (hn : n ≤ 1048576) (w : World) (hB : IsBls w a n bs) (hs : ∀ (i : Nat) (x : BlV), bs[i]? = some x → x.n ≤ 1048576) :
    Calls Try.prog 58 #[.slice a n cap] w fun e w' => e = .returned (.slice (some ⟨w.heap.size, 0, none⟩) n n) ∧ OutB w' w.heap.size n n bs ∧ Below w.heap.size w w' := by
  have hbl := hB.2.1
  obtain ⟨cs0, hcs0, hmk⟩ := run_make_bls n hn w
  have HB := Lib.hid hB
  have HS := Lib.hid hs
  have HC := Lib.hid hcs0
  clear hB hs
  go_enter Try.func58, Try.ntmps58
  go_wp2_with fail
  go_loopw [4] (fun i wr => ∃ k : Nat, k ≤ n ∧ i = .int .i64 k ∧ Below w.heap.size w wr ∧ OutB wr w.heap.size n k bs) (fun i _ => n - (intOf i).toNat)
  case atStart => exact ⟨0, by omega, rfl, (Below.refl _ _).alloc (by simp) _, _, heap_alloc_last _ _, HC.out, fun i x hi _ => by omega⟩
  case round =>
    obtain ⟨k, hk, rfl, hb, hg⟩ := hrel
    have B1 := Lib.hid hb
    have G1 := Lib.hid hg
    clear hb hg hmk
    by_cases hlt : k < n
    · have b0 : (0 : Int) ≤ (k : Int) := by omega
      have b1 : (k : Int) < (n : Int) := by omega
      obtain ⟨x, hx⟩ : ∃ x, bs[k]? = some x := ⟨bs[k]'(by omega), List.getElem?_eq_getElem (by omega)⟩
      have hx0 := Lib.hid hx
      rcases HB.out.2.2 with h3 | ⟨b, off, rfl, hblt, hc⟩
      · omega
      · obtain ⟨hcx, _⟩ := hc k x hx
        obtain ⟨c0, c1, hrd⟩ := hcx.below B1.out
        rw [← Nat.add_assoc] at c1
        have Ht := Lib.hid (toBl x.t x.a x.n x.cap x.l (HS.out k x hx) wr hrd)
        clear hc hcx hx hrd
        obtain ⟨xt, xa, xn, xc, xl⟩ := x
        go_wp2_with fail
        refine Ht.out.mono ?_
        rintro e w1 ⟨y, rfl, hy, hb1⟩
        have HB1 := Lib.hid (below_call B1.out B1.out.size hb1)
        have HY := Lib.hid hy
        have G2 := G1.out.below hb1
        obtain ⟨cs, g1, g2, g3⟩ := G2
        have hk1 : k * 2 < cs.size := by omega
        have hk2 : k * 2 + 1 < cs.size := by omega
        have d0 := cell_of_row w1 w.heap.size (k * 2) _ _ _ g1
        have d1 := cell_of_row w1 w.heap.size (k * 2 + 1) _ _ _ g1
        rw [Array.getElem?_eq_getElem hk1] at d0
        rw [Array.getElem?_eq_getElem hk2] at d1
        have f0 := frozen_of_row w1 w.heap.size (k * 2) _ _ g1
        have f1 := frozen_of_row w1 w.heap.size (k * 2 + 1) _ _ g1
        have GG := Lib.hid g1
        have GS := Lib.hid g2
        have GI := Lib.hid g3
        have HYg : Hid (y ≠ w.heap.size) := Lib.hid (fun e => by
          rw [e, g1] at hy
          injection hy with e1
          injection e1 with _ e2
          exact absurd e2 (by decide))
        generalize cs[k * 2] = v0 at d0
        generalize cs[k * 2 + 1] = v1 at d1
        clear hb1 c0 c1 Ht hk1 hk2 g1 g2 g3 hy
        go_wp2_with fail
        go_roundw
        case rel =>
          refine ⟨k + 1, by omega, by go_num, (HB1.out.setCell (Nat.le_refl _) _).setCell (Nat.le_refl _) _, _, heap_setCell_same _ _ _ _ _ _ (heap_setCell_same _ _ _ _ _ _ GG.out), by simp [GS.out], fun i z hi hz => ?_⟩
          have hne : ∀ q, q ≠ w.heap.size → ∀ u v, ((w1.setCell ⟨w.heap.size, k * 2, none⟩ u).setCell ⟨w.heap.size, k * 2 + 1, none⟩ v).heap[q]? = w1.heap[q]? := fun q hq u v => by
            rw [heap_setCell_other _ _ _ _ hq, heap_setCell_other _ _ _ _ hq]
          by_cases hik : i = k
          · subst hik
            rw [hx0.out] at hz
            cases hz
            refine ⟨y, HYg.out, ?_, ?_, ?_⟩
            · rw [Array.getElem?_setIfInBounds_ne (by omega), Array.getElem?_setIfInBounds_self_of_lt (by have := GS.out; omega)]
            · rw [Array.getElem?_setIfInBounds_self_of_lt (by simp; have := GS.out; omega)]
            · rw [hne y HYg.out]
              exact HY.out
          · obtain ⟨y2, q1, q2, q3, q4⟩ := GI.out i z (by omega) hz
            refine ⟨y2, q1, ?_, ?_, ?_⟩
            · rw [Array.getElem?_setIfInBounds_ne (by omega), Array.getElem?_setIfInBounds_ne (by omega)]
              exact q2
            · rw [Array.getElem?_setIfInBounds_ne (by omega), Array.getElem?_setIfInBounds_ne (by omega)]
              exact q3
            · rw [hne y2 q1]
              exact q4
        case measure => simp [intOf]; omega
    · obtain rfl : k = n := by omega
      go_wp2_with fail
      go_ret
      exact ⟨rfl, G1.out, B1.out⟩
end Go.Proofs.Ytdoelmjaongjfaa
