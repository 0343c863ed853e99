/- Stores brought over: their blocks are new; a store that is marked. Written by wip/gen/ston.py. -/
import Derived.Test.YtdoelmjaongjfaaStoreQ
import Derived.Test.YtdoelmjaongjfaaOwnB
import Derived.Test.YtdoelmjaongjfaaKeep
namespace Go.Proofs.Ytdoelmjaongjfaa
open Go.ChangeShapes Go.WideShapes Go.ChangeAt Go.RowKit
set_option linter.unusedVariables false
set_option linter.unusedSimpArgs false
/-- What toBlobS has made: as OutB, and no block lies below lo. -/
def OutN (lo : Nat) (w : World) (g n k : Nat) (bs : List BlV) : Prop := ∃ cs : Array Value, w.heap[g]? = some (.cells cs 43) ∧ cs.size = n * 2 ∧
  ∀ i x, i < k → bs[i]? = some x → ∃ y, y ≠ g ∧ lo ≤ y ∧ cs[i * 2]? = some (.int .u8 x.t) ∧ cs[i * 2 + 1]? = some (.slice (some ⟨y, 0, none⟩) x.n x.n) ∧ w.heap[y]? = some (.cells (ints .u8 x.l) 5)
theorem OutN.out {lo : Nat} {w : World} {g n k : Nat} {bs : List BlV} (h : OutN lo w g n k bs) : OutB w g n k bs := by
  obtain ⟨cs, h1, h2, h3⟩ := h
  exact ⟨cs, h1, h2, fun i x hi hx => by obtain ⟨y, y1, _, y2, y3, y4⟩ := h3 i x hi hx; exact ⟨y, y1, y2, y3, y4⟩⟩
theorem OutN.lo {lo lo' : Nat} {w : World} {g n k : Nat} {bs : List BlV} (h : OutN lo w g n k bs) (hl : lo' ≤ lo) : OutN lo' w g n k bs := by
  obtain ⟨cs, h1, h2, h3⟩ := h
  exact ⟨cs, h1, h2, fun i x hi hx => by obtain ⟨y, y1, y0, y2, y3, y4⟩ := h3 i x hi hx; exact ⟨y, y1, Nat.le_trans hl y0, y2, y3, y4⟩⟩
theorem OutN.below {lo : Nat} {w w1 : World} {g n k : Nat} {bs : List BlV} (h : OutN lo w g n k bs) (hb : Below w.heap.size w w1) : OutN lo w1 g n k bs := by
  obtain ⟨cs, h1, h2, h3⟩ := h
  refine ⟨cs, keep_block h1 hb, h2, fun i x hi hx => ?_⟩
  obtain ⟨y, y1, y0, y2, y3, y4⟩ := h3 i x hi hx
  exact ⟨y, y1, y0, y2, y3, keep_block y4 hb⟩
theorem OutN.setBox {lo : Nat} {w : World} {g n k q : Nat} {bs : List BlV} {c : Array Value} (h : OutN lo w g n k bs) (hq : w.heap[q]? = some (.cells c 29)) (v : Value) : OutN lo (w.setCell ⟨q, 0, none⟩ v) g n k bs := by
  obtain ⟨cs, h1, h2, h3⟩ := h
  have ne : ∀ (y : Nat) (c2 : Array Value) (t : TypeId), w.heap[y]? = some (.cells c2 t) → t ≠ 29 → y ≠ q := fun y c2 t hy ht e => by
    rw [e, hq] at hy
    injection hy with e1
    injection e1 with _ e2
    exact ht e2.symm
  refine ⟨cs, (heap_setCell_other _ _ _ _ (ne g _ _ h1 (by decide))).trans h1, h2, fun i x hi hx => ?_⟩
  obtain ⟨y, y1, y0, y2, y3, y4⟩ := h3 i x hi hx
  exact ⟨y, y1, y0, y2, y3, (heap_setCell_other _ _ _ _ (ne y _ _ y4 (by decide))).trans y4⟩
set_option maxRecDepth 100000 in
set_option maxHeartbeats 2000000 in
theorem toBlN (t : Int) (a : Option Addr) (n cap : Nat) (k : List Int) (hn : n ≤ 1048576) (w : World) (hr : Rd .u8 w a n k) :
    Calls Try.prog 35 #[.agg #[.int .u8 t, .slice a n cap]] w fun e w' => ∃ g, w.heap.size ≤ g ∧ e = .returned (.agg #[.int .u8 t, .slice (some ⟨g, 0, none⟩) n n]) ∧ w'.heap[g]? = some (.cells (ints .u8 k) 5) ∧ Below w.heap.size w w' := by
  have Hr := Lib.hid hr
  clear hr
  go_enter Try.func35, Try.ntmps35
  go_wp2_with fail
  refine (toBS a n cap k hn _ (Hr.out.below (by go_grown))).mono ?_
  rintro e w2 ⟨rfl, rfl⟩
  go_wp2
  go_returns
  refine ⟨_, ?_, rfl, heap_blk (by simp) _, by go_grown⟩
  omega
set_option maxRecDepth 100000 in
set_option maxHeartbeats 4000000 in
theorem toBlSN (a : Option Addr) (n cap : Nat) (bs : List BlV) (hn : n ≤ 1048576) (w : World) (hB : IsBls w a n bs) (hs : ∀ (i : Nat) (x : BlV), bs[i]? = some x → x.n ≤ 1048576) :
    Calls Try.prog 58 #[.slice a n cap] w fun e w' => e = .returned (.slice (some ⟨w.heap.size, 0, none⟩) n n) ∧ OutN w.heap.size w' w.heap.size n n bs ∧ Below w.heap.size w w' := by
  have hbl := hB.2.1
  obtain ⟨cs0, hcs0, hmk⟩ := run_make_bls n hn w
  have HB := Lib.hid hB
  have HS := Lib.hid hs
  have HC := Lib.hid hcs0
  clear hB hs
  go_enter Try.func58, Try.ntmps58
  go_wp2_with fail
  go_loopw [4] (fun i wr => ∃ k : Nat, k ≤ n ∧ i = .int .i64 k ∧ Below w.heap.size w wr ∧ OutN w.heap.size wr w.heap.size n k bs) (fun i _ => n - (intOf i).toNat)
  case atStart => exact ⟨0, by omega, rfl, (Below.refl _ _).alloc (by simp) _, _, heap_alloc_last _ _, HC.out, fun i x hi _ => by omega⟩
  case round =>
    obtain ⟨k, hk, rfl, hb, hg⟩ := hrel
    have B1 := Lib.hid hb
    have G1 := Lib.hid hg
    clear hb hg hmk
    by_cases hlt : k < n
    · have b0 : (0 : Int) ≤ (k : Int) := by omega
      have b1 : (k : Int) < (n : Int) := by omega
      obtain ⟨x, hx⟩ : ∃ x, bs[k]? = some x := ⟨bs[k]'(by omega), List.getElem?_eq_getElem (by omega)⟩
      have hx0 := Lib.hid hx
      rcases HB.out.2.2 with h3 | ⟨b, off, rfl, hblt, hc⟩
      · omega
      · obtain ⟨hcx, _⟩ := hc k x hx
        obtain ⟨c0, c1, hrd⟩ := hcx.below B1.out
        rw [← Nat.add_assoc] at c1
        have Ht := Lib.hid (toBlN x.t x.a x.n x.cap x.l (HS.out k x hx) wr hrd)
        clear hc hcx hx hrd
        obtain ⟨xt, xa, xn, xc, xl⟩ := x
        go_wp2_with fail
        refine Ht.out.mono ?_
        rintro e w1 ⟨y, hlo, rfl, hy, hb1⟩
        have HLO := Lib.hid (Nat.le_trans B1.out.size hlo)
        clear hlo
        have HB1 := Lib.hid (below_call B1.out B1.out.size hb1)
        have HY := Lib.hid hy
        have G2 := G1.out.below hb1
        obtain ⟨cs, g1, g2, g3⟩ := G2
        have hk1 : k * 2 < cs.size := by omega
        have hk2 : k * 2 + 1 < cs.size := by omega
        have d0 := cell_of_row w1 w.heap.size (k * 2) _ _ _ g1
        have d1 := cell_of_row w1 w.heap.size (k * 2 + 1) _ _ _ g1
        rw [Array.getElem?_eq_getElem hk1] at d0
        rw [Array.getElem?_eq_getElem hk2] at d1
        have f0 := frozen_of_row w1 w.heap.size (k * 2) _ _ g1
        have f1 := frozen_of_row w1 w.heap.size (k * 2 + 1) _ _ g1
        have GG := Lib.hid g1
        have GS := Lib.hid g2
        have GI := Lib.hid g3
        have HYg : Hid (y ≠ w.heap.size) := Lib.hid (fun e => by
          rw [e, g1] at hy
          injection hy with e1
          injection e1 with _ e2
          exact absurd e2 (by decide))
        generalize cs[k * 2] = v0 at d0
        generalize cs[k * 2 + 1] = v1 at d1
        clear hb1 c0 c1 Ht hk1 hk2 g1 g2 g3 hy
        go_wp2_with fail
        go_roundw
        case rel =>
          refine ⟨k + 1, by omega, by go_num, (HB1.out.setCell (Nat.le_refl _) _).setCell (Nat.le_refl _) _, _, heap_setCell_same _ _ _ _ _ _ (heap_setCell_same _ _ _ _ _ _ GG.out), by simp [GS.out], fun i z hi hz => ?_⟩
          have hne : ∀ q, q ≠ w.heap.size → ∀ u v, ((w1.setCell ⟨w.heap.size, k * 2, none⟩ u).setCell ⟨w.heap.size, k * 2 + 1, none⟩ v).heap[q]? = w1.heap[q]? := fun q hq u v => by
            rw [heap_setCell_other _ _ _ _ hq, heap_setCell_other _ _ _ _ hq]
          by_cases hik : i = k
          · subst hik
            rw [hx0.out] at hz
            cases hz
            refine ⟨y, HYg.out, HLO.out, ?_, ?_, ?_⟩
            · rw [Array.getElem?_setIfInBounds_ne (by omega), Array.getElem?_setIfInBounds_self_of_lt (by have := GS.out; omega)]
            · rw [Array.getElem?_setIfInBounds_self_of_lt (by simp; have := GS.out; omega)]
            · rw [hne y HYg.out]
              exact HY.out
          · obtain ⟨y2, q1, q0, q2, q3, q4⟩ := GI.out i z (by omega) hz
            refine ⟨y2, q1, q0, ?_, ?_, ?_⟩
            · rw [Array.getElem?_setIfInBounds_ne (by omega), Array.getElem?_setIfInBounds_ne (by omega)]
              exact q2
            · rw [Array.getElem?_setIfInBounds_ne (by omega), Array.getElem?_setIfInBounds_ne (by omega)]
              exact q3
            · rw [hne y2 q1]
              exact q4
        case measure => simp [intOf]; omega
    · obtain rfl : k = n := by omega
      go_wp2_with fail
      go_ret
      exact ⟨rfl, G1.out, B1.out⟩
set_option maxRecDepth 100000 in
set_option maxHeartbeats 4000000 in
theorem toStN (a : Option Addr) (n cap : Nat) (bs : List BlV) (hn : n ≤ 1048576) (w : World) (hB : IsBls w a n bs) (hs : ∀ (i : Nat) (x : BlV), bs[i]? = some x → x.n ≤ 1048576) :
    Calls Try.prog 16 #[.agg #[.slice a n cap]] w fun e w' => ∃ g, w.heap.size ≤ g ∧ e = .returned (.agg #[.slice (some ⟨g, 0, none⟩) n n]) ∧ OutN w.heap.size w' g n n bs ∧ Below w.heap.size w w' := by
  have HB := Lib.hid hB
  have HS := Lib.hid hs
  clear hB hs
  go_enter Try.func16, Try.ntmps16
  go_wp2_with fail
  refine (toBlSN a n cap bs hn _ (HB.out.below (by go_grown)) HS.out).mono ?_
  rintro e w1 ⟨rfl, ho, hb⟩
  have BX : Below w.heap.size w (((w.alloc (.cells #[.slice a n cap] 24)).alloc (.cells #[.slice none 0 0] 29)).alloc (.cells #[.slice none 0 0] 29)) := by go_grown
  have g1 : (((w.alloc (.cells #[.slice a n cap] 24)).alloc (.cells #[.slice none 0 0] 29)).alloc (.cells #[.slice none 0 0] 29)).heap[w.heap.size + 1]? = some (.cells #[.slice none 0 0] 29) := heap_alloc_old _ _ (by simp) |>.trans (by rw [show w.heap.size + 1 = (w.alloc (.cells #[.slice a n cap] 24)).heap.size by simp]; exact heap_alloc_last _ _)
  have g2 : (((w.alloc (.cells #[.slice a n cap] 24)).alloc (.cells #[.slice none 0 0] 29)).alloc (.cells #[.slice none 0 0] 29)).heap[w.heap.size + 1 + 1]? = some (.cells #[.slice none 0 0] 29) := by
    rw [show w.heap.size + 1 + 1 = ((w.alloc (.cells #[.slice a n cap] 24)).alloc (.cells #[.slice none 0 0] 29)).heap.size by simp]; exact heap_alloc_last _ _
  have HO := Lib.hid (ho.lo (show w.heap.size ≤ _ by simp; omega))
  have B1 := Lib.hid (below_call BX BX.size hb)
  have k1 := keep_block g1 hb
  have k2 := keep_block g2 hb
  have K1 := Lib.hid k1
  have K2 := Lib.hid k2
  have d1 := cell_of_row _ _ 0 _ _ _ k1
  have d2 := cell_of_row _ _ 0 _ _ _ k2
  have e1 := frozen_of_row _ _ 0 _ _ k1
  have e2 := frozen_of_row _ _ 0 _ _ k2
  have HG := Lib.hid (show w.heap.size ≤ (((w.alloc (.cells #[.slice a n cap] 24)).alloc (.cells #[.slice none 0 0] 29)).alloc (.cells #[.slice none 0 0] 29)).heap.size by simp; omega)
  generalize (((w.alloc (.cells #[.slice a n cap] 24)).alloc (.cells #[.slice none 0 0] 29)).alloc (.cells #[.slice none 0 0] 29)).heap.size = g at HO HG ⊢
  clear ho hb g1 g2 k1 k2 BX
  go_wp2_with fail
  have hh := heap_setCell_same _ (w.heap.size + 1) 0 _ _ (.slice (some ⟨g, 0, none⟩) n n) ((heap_setCell_other w1 ⟨w.heap.size + 1 + 1, 0, none⟩ (w.heap.size + 1) (.slice (some ⟨g, 0, none⟩) n n) (by simp)).trans K1.out)
  refine bodyPost_ret (results_cell_row rfl _ _ (w.heap.size + 1) 29 #[.slice (some ⟨g, 0, none⟩) n n] (0, 0) _ rfl hh Try.underlying29 rfl (by show _ = some 1; kernel_rfl)) rfl ?_
  exact ⟨_, HG.out, rfl, (HO.out.setBox K2.out _).setBox ((heap_setCell_other _ _ _ _ (by simp)).trans K1.out) _, (B1.out.setCell (by simp; omega) _).setCell (by simp) _⟩
/-- A store whose blocks lie in lo .. hi, with any data. -/
def OutM (lo hi : Nat) (w : World) (g n : Nat) (bs : List BlV) : Prop := ∃ cs : Array Value, w.heap[g]? = some (.cells cs 43) ∧ cs.size = n * 2 ∧ lo ≤ g ∧ g < hi ∧
  ∀ i x, i < n → bs[i]? = some x → ∃ (y : Nat) (l : List Int), y ≠ g ∧ lo ≤ y ∧ y < hi ∧ cs[i * 2 + 1]? = some (.slice (some ⟨y, 0, none⟩) x.n x.n) ∧ l.length = x.n ∧ w.heap[y]? = some (.cells (ints .u8 l) 5)
theorem OutN.marked {lo : Nat} {w : World} {g n : Nat} {bs : List BlV} (h : OutN lo w g n n bs) (hg : lo ≤ g) (hf : ∀ (i : Nat) (x : BlV), bs[i]? = some x → BlF x) : OutM lo w.heap.size w g n bs := by
  obtain ⟨cs, h1, h2, h3⟩ := h
  refine ⟨cs, h1, h2, hg, (Array.getElem?_eq_some_iff.1 h1).1, fun i x hi hx => ?_⟩
  obtain ⟨y, y1, y0, y2, y3, y4⟩ := h3 i x hi hx
  exact ⟨y, x.l, y1, y0, (Array.getElem?_eq_some_iff.1 y4).1, y3, (hf i x hx).2.1, y4⟩
theorem OutM.below {lo hi : Nat} {w w1 : World} {g n : Nat} {bs : List BlV} (h : OutM lo hi w g n bs) (hb : Below w.heap.size w w1) : OutM lo hi w1 g n bs := by
  obtain ⟨cs, h1, h2, h3, h4, h5⟩ := h
  refine ⟨cs, keep_block h1 hb, h2, h3, h4, fun i x hi hx => ?_⟩
  obtain ⟨y, l, y1, y0, y2, y3, y4, y5⟩ := h5 i x hi hx
  exact ⟨y, l, y1, y0, y2, y3, y4, keep_block y5 hb⟩
theorem szS_all (bs : List BlV) (k : Nat) : szS (bs.take k) ≤ szS bs := by
  have h : szS bs = szS (bs.take k) + szS (bs.drop k) := by
    unfold szS
    rw [← List.sum_append, ← List.map_append, List.take_append_drop]
  omega
set_option maxRecDepth 100000 in
set_option maxHeartbeats 4000000 in
theorem markBlobs (lo hi g n : Nat) (bs : List BlV) (k0 : Int) (h0 : 0 ≤ k0) (h1 : k0 + n + szS bs ≤ 1099511627776) (hn : n ≤ 1048576) (hl : bs.length = n) (w : World) (ho : OutM lo hi w g n bs) :
    Calls Try.prog 54 #[.slice (some ⟨g, 0, none⟩) n n, .int .i64 k0] w fun e w' => e = .returned (.int .i64 (k0 + (n + szS bs : Nat))) ∧ Keep w.heap.size (fun k => lo ≤ k ∧ k < hi) w w' := by
  have HO := Lib.hid ho
  clear ho
  go_enter Try.func54, Try.ntmps54
  go_wp2_with fail
  go_loopw [1, 5] (fun m i wr => ∃ k : Nat, k ≤ n ∧ i = .int .i64 k ∧ m = .int .i64 (k0 + (k + szS (bs.take k) : Nat)) ∧ OutM lo hi wr g n bs ∧ Keep w.heap.size (fun k => lo ≤ k ∧ k < hi) w wr) (fun _ i _ => n - (intOf i).toNat)
  case atStart => exact ⟨0, by omega, rfl, by simp [szS], HO.out, Keep.refl _ _ _⟩
  case round =>
    obtain ⟨k, hk, rfl, rfl, hO, hb⟩ := hrel
    have HB := Lib.hid hb
    clear hb
    by_cases hlt : k < n
    · obtain ⟨x, hx⟩ : ∃ x, bs[k]? = some x := ⟨bs[k]'(by omega), List.getElem?_eq_getElem (by omega)⟩
      obtain ⟨cs, c1, c2, c3, c4, c5⟩ := hO
      obtain ⟨y, l, y1, y0, y2, y3, y4, y5⟩ := c5 k x hlt hx
      have hz := szS_take hx
      have hza := szS_all bs (k + 1)
      have d0 := cell_of_row wr g (k * 2) _ _ _ c1
      have d1 := cell_of_row wr g (k * 2 + 1) _ _ _ c1
      rw [Array.getElem?_eq_getElem (by omega)] at d0
      rw [y3] at d1
      have f0 := frozen_of_row wr g (k * 2) _ _ c1
      generalize cs[k * 2]'(by omega) = v0 at d0
      have hmm : k0 + ((k + szS (bs.take k) : Nat) : Int) + 1 + (x.n : Int) = k0 + ((k + 1 + szS (bs.take (k + 1)) : Nat) : Int) := by rw [hz]; push_cast; omega
      have HM := Lib.hid hmm
      have HX := Lib.hid hx
      have hm0 : 0 ≤ k0 + ((k + szS (bs.take k) : Nat) : Int) := by omega
      have hm1 : k0 + ((k + szS (bs.take k) : Nat) : Int) + 1 + (x.n : Int) ≤ 1099511627776 := by rw [hmm]; push_cast; omega
      clear hmm hz hza
      generalize k0 + ((k + szS (bs.take k) : Nat) : Int) = m at HM hm0 hm1 ⊢
      have b0 : (0 : Int) ≤ (k : Int) := by omega
      have b1 : (k : Int) < (n : Int) := by omega
      have e1 : (wr.setCell ⟨g, k * 2, none⟩ (.int .u8 (m % 256))).heap[g]? = some (.cells (cs.setIfInBounds (k * 2) (.int .u8 (m % 256))) 43) := heap_setCell_same _ _ _ _ _ _ c1
      have e2 : (wr.setCell ⟨g, k * 2, none⟩ (.int .u8 (m % 256))).heap[y]? = some (.cells (ints .u8 l) 5) := (heap_setCell_other _ _ _ _ y1).trans y5
      have hcall := Lib.hid (markBS' y x.n x.n l 5 (m + 1) (by omega) (by omega) (by omega) (by omega) _ e2)
      have E1 := Lib.hid e1
      have E2 := Lib.hid e2
      have C2 := Lib.hid c2
      have C5 := Lib.hid c5
      have Y4 := Lib.hid y4
      have Y1 := Lib.hid y1
      clear e1 e2 c5 c1 y5 hx HO y3 c2 y4 y1
      go_wp2_with fail
      refine hcall.out.mono ?_
      rintro e w1 ⟨rfl, rfl⟩
      have hG : ((wr.setCell ⟨g, k * 2, none⟩ (.int .u8 (m % 256))).setRow y (ints .u8 (markL (m + 1) x.n ++ l.drop x.n))).heap[g]? = some (.cells (cs.setIfInBounds (k * 2) (.int .u8 (m % 256))) 43) := (setRow_other _ _ _ _ (fun e => Y1.out e.symm)).trans E1.out
      have hY : ((wr.setCell ⟨g, k * 2, none⟩ (.int .u8 (m % 256))).setRow y (ints .u8 (markL (m + 1) x.n ++ l.drop x.n))).heap[y]? = some (.cells (ints .u8 (markL (m + 1) x.n ++ l.drop x.n)) 5) := setRow_heap _ _ _ _ _ _ E2.out
      have hN : OutM lo hi ((wr.setCell ⟨g, k * 2, none⟩ (.int .u8 (m % 256))).setRow y (ints .u8 (markL (m + 1) x.n ++ l.drop x.n))) g n bs := by
        refine ⟨_, hG, by rw [Array.size_setIfInBounds]; exact C2.out, c3, c4, fun i z hi hz => ?_⟩
        obtain ⟨y', l', z1, z0, z2, z3, z4, z5⟩ := C5.out i z hi hz
        have z6 : (cs.setIfInBounds (k * 2) (.int .u8 (m % 256)))[i * 2 + 1]? = some (.slice (some ⟨y', 0, none⟩) z.n z.n) := by
          rw [Array.getElem?_setIfInBounds_ne (by omega)]
          exact z3
        by_cases he : y' = y
        · subst he
          have e5 := z5
          have hll : l'.length = l.length := by
            have h8 : (wr.setCell ⟨g, k * 2, none⟩ (.int .u8 (m % 256))).heap[y']? = wr.heap[y']? := heap_setCell_other _ _ _ _ Y1.out
            have h9 := E2.out
            rw [h8, e5] at h9
            injection h9 with h9
            injection h9 with h9
            have := congrArg Array.size h9
            rw [ints_size, ints_size] at this
            exact this
          refine ⟨y', _, z1, z0, z2, z6, ?_, hY⟩
          rw [List.length_append, markL_len, List.length_drop, ← z4, hll, Y4.out]
          omega
        · refine ⟨y', l', z1, z0, z2, z6, z4, ?_⟩
          rw [setRow_other _ _ _ _ he, heap_setCell_other _ _ _ _ z1]
          exact z5
      have hKp : Keep w.heap.size (fun k => lo ≤ k ∧ k < hi) w ((wr.setCell ⟨g, k * 2, none⟩ (.int .u8 (m % 256))).setRow y (ints .u8 (markL (m + 1) x.n ++ l.drop x.n))) := by
        refine HB.out.trans ((Keep.cell (p := ⟨g, k * 2, none⟩) ⟨c3, c4⟩).trans ⟨rfl, rfl, rfl, ?_, fun q _ hq => setRow_other _ _ _ _ (fun e => hq (e ▸ ⟨y0, y2⟩))⟩)
        simp [World.setRow]
      have HN := Lib.hid hN
      have HKp := Lib.hid hKp
      clear hN hKp hG hY
      go_wp2_with fail
      go_roundw
      case rel => exact ⟨k + 1, by omega, by go_num, by have hq := HM.out; congr 1 <;> (push_cast at hq ⊢; omega), HN.out, HKp.out⟩
      case measure => simp [intOf]; omega
    · obtain rfl : k = n := by omega
      have hz : bs.take k = bs := List.take_of_length_le (by omega)
      rw [hz]
      generalize hm : k0 + ((k + szS bs : Nat) : Int) = m
      go_wp2_with fail
      go_ret
      exact ⟨by rw [hm]; rfl, HB.out⟩
set_option maxRecDepth 100000 in
set_option maxHeartbeats 4000000 in
theorem markSt (lo hi g n : Nat) (bs : List BlV) (k0 : Int) (h0 : 0 ≤ k0) (h1 : k0 + n + szS bs ≤ 1099511627776) (hn : n ≤ 1048576) (hl : bs.length = n) (w : World) (hhi : hi ≤ w.heap.size) (ho : OutM lo hi w g n bs) :
    Calls Try.prog 24 #[.agg #[.slice (some ⟨g, 0, none⟩) n n], .int .i64 k0] w fun e w' => e = .returned (.int .i64 (k0 + (n + szS bs : Nat))) ∧ Keep w.heap.size (fun k => lo ≤ k ∧ k < hi) w w' := by
  have hb := Lib.hid (markBlobs lo hi g n bs k0 h0 h1 hn hl (w.alloc (.cells #[.slice (some ⟨g, 0, none⟩) n n] 29)) (ho.below ((Below.refl _ w).alloc (Nat.le_refl _) _)))
  have K0 : Keep w.heap.size (fun k => lo ≤ k ∧ k < hi) w (w.alloc (.cells #[.slice (some ⟨g, 0, none⟩) n n] 29)) := Keep.of _ ((Below.refl _ w).alloc (Nat.le_refl _) _)
  have HK := Lib.hid K0
  clear ho K0
  generalize k0 + ((n + szS bs : Nat) : Int) = r at hb ⊢
  go_enter Try.func24, Try.ntmps24
  go_wp2_with fail
  refine hb.out.mono ?_
  rintro e w1 ⟨rfl, hk⟩
  have HR := Lib.hid (HK.out.trans (hk.mono (by simp)))
  clear hk
  go_wp2_with fail
  go_ret
  exact ⟨rfl, HR.out⟩
end Go.Proofs.Ytdoelmjaongjfaa
