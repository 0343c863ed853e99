/- The statement on ExactGetBlob: its walk. Written by wip/gen/storelaw.py. -/
import Derived.Test.YtabepfdononppaaStoreQ
import Derived.Test.YtabepfdononppaaOwnB
import Derived.Test.YtabepfdononppaaKeep
import Derived.Test.YtabepfdononppaaGbA
import Derived.Test.YtabepfdononppaaStoreL
import Derived.Test.YtabepfdononppaaKeysM
namespace Go.Proofs.Ytabepfdononppaa
open Go.ChangeShapes Go.WideShapes Go.ChangeAt Go.RowKit
set_option linter.unusedVariables false
set_option linter.unusedSimpArgs false
/-- What toBlobS has made: as OutB, and no block lies below lo. -/
def OutN (lo : Nat) (w : World) (g n k : Nat) (bs : List BlV) : Prop := ∃ cs : Array Value, w.heap[g]? = some (.cells cs 43) ∧ cs.size = n * 2 ∧
  ∀ i x, i < k → bs[i]? = some x → ∃ y, y ≠ g ∧ lo ≤ y ∧ cs[i * 2]? = some (.int .u8 x.t) ∧ cs[i * 2 + 1]? = some (.slice (some ⟨y, 0, none⟩) x.n x.n) ∧ w.heap[y]? = some (.cells (ints .u8 x.l) 5)
theorem OutN.out {lo : Nat} {w : World} {g n k : Nat} {bs : List BlV} (h : OutN lo w g n k bs) : OutB w g n k bs := by
  obtain ⟨cs, h1, h2, h3⟩ := h
  exact ⟨cs, h1, h2, fun i x hi hx => by obtain ⟨y, y1, _, y2, y3, y4⟩ := h3 i x hi hx; exact ⟨y, y1, y2, y3, y4⟩⟩
theorem OutN.lo {lo lo' : Nat} {w : World} {g n k : Nat} {bs : List BlV} (h : OutN lo w g n k bs) (hl : lo' ≤ lo) : OutN lo' w g n k bs := by
  obtain ⟨cs, h1, h2, h3⟩ := h
  exact ⟨cs, h1, h2, fun i x hi hx => by obtain ⟨y, y1, y0, y2, y3, y4⟩ := h3 i x hi hx; exact ⟨y, y1, Nat.le_trans hl y0, y2, y3, y4⟩⟩
theorem OutN.below {lo : Nat} {w w1 : World} {g n k : Nat} {bs : List BlV} (h : OutN lo w g n k bs) (hb : Below w.heap.size w w1) : OutN lo w1 g n k bs := by
  obtain ⟨cs, h1, h2, h3⟩ := h
  refine ⟨cs, keep_block h1 hb, h2, fun i x hi hx => ?_⟩
  obtain ⟨y, y1, y0, y2, y3, y4⟩ := h3 i x hi hx
  exact ⟨y, y1, y0, y2, y3, keep_block y4 hb⟩
theorem OutN.setBox {lo : Nat} {w : World} {g n k q : Nat} {bs : List BlV} {c : Array Value} (h : OutN lo w g n k bs) (hq : w.heap[q]? = some (.cells c 29)) (v : Value) : OutN lo (w.setCell ⟨q, 0, none⟩ v) g n k bs := by
  obtain ⟨cs, h1, h2, h3⟩ := h
  have ne : ∀ (y : Nat) (c2 : Array Value) (t : TypeId), w.heap[y]? = some (.cells c2 t) → t ≠ 29 → y ≠ q := fun y c2 t hy ht e => by
    rw [e, hq] at hy
    injection hy with e1
    injection e1 with _ e2
    exact ht e2.symm
  refine ⟨cs, (heap_setCell_other _ _ _ _ (ne g _ _ h1 (by decide))).trans h1, h2, fun i x hi hx => ?_⟩
  obtain ⟨y, y1, y0, y2, y3, y4⟩ := h3 i x hi hx
  exact ⟨y, y1, y0, y2, y3, (heap_setCell_other _ _ _ _ (ne y _ _ y4 (by decide))).trans y4⟩
set_option maxRecDepth 100000 in
set_option maxHeartbeats 2000000 in
theorem toBlN (t : Int) (a : Option Addr) (n cap : Nat) (k : List Int) (hn : n ≤ 1048576) (w : World) (hr : Rd .u8 w a n k) :
    Calls Try.prog 36 #[.agg #[.int .u8 t, .slice a n cap]] w fun e w' => ∃ g, w.heap.size ≤ g ∧ e = .returned (.agg #[.int .u8 t, .slice (some ⟨g, 0, none⟩) n n]) ∧ w'.heap[g]? = some (.cells (ints .u8 k) 5) ∧ Below w.heap.size w w' := by
  have Hr := Lib.hid hr
  clear hr
  go_enter Try.func36, Try.ntmps36
  go_wp2_with fail
  refine (toBS a n cap k hn _ (Hr.out.below (by go_grown))).mono ?_
  rintro e w2 ⟨rfl, rfl⟩
  go_wp2
  go_returns
  refine ⟨_, ?_, rfl, heap_blk (by simp) _, by go_grown⟩
  omega
set_option maxRecDepth 100000 in
set_option maxHeartbeats 4000000 in
theorem toBlSN (a : Option Addr) (n cap : Nat) (bs : List BlV) (hn : n ≤ 1048576) (w : World) (hB : IsBls w a n bs) (hs : ∀ (i : Nat) (x : BlV), bs[i]? = some x → x.n ≤ 1048576) :
    Calls Try.prog 60 #[.slice a n cap] w fun e w' => e = .returned (.slice (some ⟨w.heap.size, 0, none⟩) n n) ∧ OutN w.heap.size w' w.heap.size n n bs ∧ Below w.heap.size w w' := by
  have hbl := hB.2.1
  obtain ⟨cs0, hcs0, hmk⟩ := run_make_bls n hn w
  have HB := Lib.hid hB
  have HS := Lib.hid hs
  have HC := Lib.hid hcs0
  clear hB hs
  go_enter Try.func60, Try.ntmps60
  go_wp2_with fail
  go_loopw [4] (fun i wr => ∃ k : Nat, k ≤ n ∧ i = .int .i64 k ∧ Below w.heap.size w wr ∧ OutN w.heap.size wr w.heap.size n k bs) (fun i _ => n - (intOf i).toNat)
  case atStart => exact ⟨0, by omega, rfl, (Below.refl _ _).alloc (by simp) _, _, heap_alloc_last _ _, HC.out, fun i x hi _ => by omega⟩
  case round =>
    obtain ⟨k, hk, rfl, hb, hg⟩ := hrel
    have B1 := Lib.hid hb
    have G1 := Lib.hid hg
    clear hb hg hmk
    by_cases hlt : k < n
    · have b0 : (0 : Int) ≤ (k : Int) := by omega
      have b1 : (k : Int) < (n : Int) := by omega
      obtain ⟨x, hx⟩ : ∃ x, bs[k]? = some x := ⟨bs[k]'(by omega), List.getElem?_eq_getElem (by omega)⟩
      have hx0 := Lib.hid hx
      rcases HB.out.2.2 with h3 | ⟨b, off, rfl, hblt, hc⟩
      · omega
      · obtain ⟨hcx, _⟩ := hc k x hx
        obtain ⟨c0, c1, hrd⟩ := hcx.below B1.out
        rw [← Nat.add_assoc] at c1
        have Ht := Lib.hid (toBlN x.t x.a x.n x.cap x.l (HS.out k x hx) wr hrd)
        clear hc hcx hx hrd
        obtain ⟨xt, xa, xn, xc, xl⟩ := x
        go_wp2_with fail
        refine Ht.out.mono ?_
        rintro e w1 ⟨y, hlo, rfl, hy, hb1⟩
        have HLO := Lib.hid (Nat.le_trans B1.out.size hlo)
        clear hlo
        have HB1 := Lib.hid (below_call B1.out B1.out.size hb1)
        have HY := Lib.hid hy
        have G2 := G1.out.below hb1
        obtain ⟨cs, g1, g2, g3⟩ := G2
        have hk1 : k * 2 < cs.size := by omega
        have hk2 : k * 2 + 1 < cs.size := by omega
        have d0 := cell_of_row w1 w.heap.size (k * 2) _ _ _ g1
        have d1 := cell_of_row w1 w.heap.size (k * 2 + 1) _ _ _ g1
        rw [Array.getElem?_eq_getElem hk1] at d0
        rw [Array.getElem?_eq_getElem hk2] at d1
        have f0 := frozen_of_row w1 w.heap.size (k * 2) _ _ g1
        have f1 := frozen_of_row w1 w.heap.size (k * 2 + 1) _ _ g1
        have GG := Lib.hid g1
        have GS := Lib.hid g2
        have GI := Lib.hid g3
        have HYg : Hid (y ≠ w.heap.size) := Lib.hid (fun e => by
          rw [e, g1] at hy
          injection hy with e1
          injection e1 with _ e2
          exact absurd e2 (by decide))
        generalize cs[k * 2] = v0 at d0
        generalize cs[k * 2 + 1] = v1 at d1
        clear hb1 c0 c1 Ht hk1 hk2 g1 g2 g3 hy
        go_wp2_with fail
        go_roundw
        case rel =>
          refine ⟨k + 1, by omega, by go_num, (HB1.out.setCell (Nat.le_refl _) _).setCell (Nat.le_refl _) _, _, heap_setCell_same _ _ _ _ _ _ (heap_setCell_same _ _ _ _ _ _ GG.out), by simp [GS.out], fun i z hi hz => ?_⟩
          have hne : ∀ q, q ≠ w.heap.size → ∀ u v, ((w1.setCell ⟨w.heap.size, k * 2, none⟩ u).setCell ⟨w.heap.size, k * 2 + 1, none⟩ v).heap[q]? = w1.heap[q]? := fun q hq u v => by
            rw [heap_setCell_other _ _ _ _ hq, heap_setCell_other _ _ _ _ hq]
          by_cases hik : i = k
          · subst hik
            rw [hx0.out] at hz
            cases hz
            refine ⟨y, HYg.out, HLO.out, ?_, ?_, ?_⟩
            · rw [Array.getElem?_setIfInBounds_ne (by omega), Array.getElem?_setIfInBounds_self_of_lt (by have := GS.out; omega)]
            · rw [Array.getElem?_setIfInBounds_self_of_lt (by simp; have := GS.out; omega)]
            · rw [hne y HYg.out]
              exact HY.out
          · obtain ⟨y2, q1, q0, q2, q3, q4⟩ := GI.out i z (by omega) hz
            refine ⟨y2, q1, q0, ?_, ?_, ?_⟩
            · rw [Array.getElem?_setIfInBounds_ne (by omega), Array.getElem?_setIfInBounds_ne (by omega)]
              exact q2
            · rw [Array.getElem?_setIfInBounds_ne (by omega), Array.getElem?_setIfInBounds_ne (by omega)]
              exact q3
            · rw [hne y2 q1]
              exact q4
        case measure => simp [intOf]; omega
    · obtain rfl : k = n := by omega
      go_wp2_with fail
      go_ret
      exact ⟨rfl, G1.out, B1.out⟩
set_option maxRecDepth 100000 in
set_option maxHeartbeats 4000000 in
theorem toStN (a : Option Addr) (n cap : Nat) (bs : List BlV) (hn : n ≤ 1048576) (w : World) (hB : IsBls w a n bs) (hs : ∀ (i : Nat) (x : BlV), bs[i]? = some x → x.n ≤ 1048576) :
    Calls Try.prog 17 #[.agg #[.slice a n cap]] w fun e w' => ∃ g, w.heap.size ≤ g ∧ e = .returned (.agg #[.slice (some ⟨g, 0, none⟩) n n]) ∧ OutN w.heap.size w' g n n bs ∧ Below w.heap.size w w' := by
  have HB := Lib.hid hB
  have HS := Lib.hid hs
  clear hB hs
  go_enter Try.func17, Try.ntmps17
  go_wp2_with fail
  refine (toBlSN a n cap bs hn _ (HB.out.below (by go_grown)) HS.out).mono ?_
  rintro e w1 ⟨rfl, ho, hb⟩
  have BX : Below w.heap.size w (((w.alloc (.cells #[.slice a n cap] 24)).alloc (.cells #[.slice none 0 0] 29)).alloc (.cells #[.slice none 0 0] 29)) := by go_grown
  have g1 : (((w.alloc (.cells #[.slice a n cap] 24)).alloc (.cells #[.slice none 0 0] 29)).alloc (.cells #[.slice none 0 0] 29)).heap[w.heap.size + 1]? = some (.cells #[.slice none 0 0] 29) := heap_alloc_old _ _ (by simp) |>.trans (by rw [show w.heap.size + 1 = (w.alloc (.cells #[.slice a n cap] 24)).heap.size by simp]; exact heap_alloc_last _ _)
  have g2 : (((w.alloc (.cells #[.slice a n cap] 24)).alloc (.cells #[.slice none 0 0] 29)).alloc (.cells #[.slice none 0 0] 29)).heap[w.heap.size + 1 + 1]? = some (.cells #[.slice none 0 0] 29) := by
    rw [show w.heap.size + 1 + 1 = ((w.alloc (.cells #[.slice a n cap] 24)).alloc (.cells #[.slice none 0 0] 29)).heap.size by simp]; exact heap_alloc_last _ _
  have HO := Lib.hid (ho.lo (show w.heap.size ≤ _ by simp; omega))
  have B1 := Lib.hid (below_call BX BX.size hb)
  have k1 := keep_block g1 hb
  have k2 := keep_block g2 hb
  have K1 := Lib.hid k1
  have K2 := Lib.hid k2
  have d1 := cell_of_row _ _ 0 _ _ _ k1
  have d2 := cell_of_row _ _ 0 _ _ _ k2
  have e1 := frozen_of_row _ _ 0 _ _ k1
  have e2 := frozen_of_row _ _ 0 _ _ k2
  have HG := Lib.hid (show w.heap.size ≤ (((w.alloc (.cells #[.slice a n cap] 24)).alloc (.cells #[.slice none 0 0] 29)).alloc (.cells #[.slice none 0 0] 29)).heap.size by simp; omega)
  generalize (((w.alloc (.cells #[.slice a n cap] 24)).alloc (.cells #[.slice none 0 0] 29)).alloc (.cells #[.slice none 0 0] 29)).heap.size = g at HO HG ⊢
  clear ho hb g1 g2 k1 k2 BX
  go_wp2_with fail
  have hh := heap_setCell_same _ (w.heap.size + 1) 0 _ _ (.slice (some ⟨g, 0, none⟩) n n) ((heap_setCell_other w1 ⟨w.heap.size + 1 + 1, 0, none⟩ (w.heap.size + 1) (.slice (some ⟨g, 0, none⟩) n n) (by simp)).trans K1.out)
  refine bodyPost_ret (results_cell_row rfl _ _ (w.heap.size + 1) 29 #[.slice (some ⟨g, 0, none⟩) n n] (0, 0) _ rfl hh Try.underlying29 rfl (by show _ = some 1; kernel_rfl)) rfl ?_
  exact ⟨_, HG.out, rfl, (HO.out.setBox K2.out _).setBox ((heap_setCell_other _ _ _ _ (by simp)).trans K1.out) _, (B1.out.setCell (by simp; omega) _).setCell (by simp) _⟩
/-- A store whose blocks lie in lo .. hi, with any data. -/
def OutM (lo hi : Nat) (w : World) (g n : Nat) (bs : List BlV) : Prop := ∃ cs : Array Value, w.heap[g]? = some (.cells cs 43) ∧ cs.size = n * 2 ∧ lo ≤ g ∧ g < hi ∧
  ∀ i x, i < n → bs[i]? = some x → ∃ (y : Nat) (l : List Int), y ≠ g ∧ lo ≤ y ∧ y < hi ∧ cs[i * 2 + 1]? = some (.slice (some ⟨y, 0, none⟩) x.n x.n) ∧ l.length = x.n ∧ w.heap[y]? = some (.cells (ints .u8 l) 5)
theorem OutN.marked {lo : Nat} {w : World} {g n : Nat} {bs : List BlV} (h : OutN lo w g n n bs) (hg : lo ≤ g) (hf : ∀ (i : Nat) (x : BlV), bs[i]? = some x → BlF x) : OutM lo w.heap.size w g n bs := by
  obtain ⟨cs, h1, h2, h3⟩ := h
  refine ⟨cs, h1, h2, hg, (Array.getElem?_eq_some_iff.1 h1).1, fun i x hi hx => ?_⟩
  obtain ⟨y, y1, y0, y2, y3, y4⟩ := h3 i x hi hx
  exact ⟨y, x.l, y1, y0, (Array.getElem?_eq_some_iff.1 y4).1, y3, (hf i x hx).2.1, y4⟩
theorem OutM.below {lo hi : Nat} {w w1 : World} {g n : Nat} {bs : List BlV} (h : OutM lo hi w g n bs) (hb : Below w.heap.size w w1) : OutM lo hi w1 g n bs := by
  obtain ⟨cs, h1, h2, h3, h4, h5⟩ := h
  refine ⟨cs, keep_block h1 hb, h2, h3, h4, fun i x hi hx => ?_⟩
  obtain ⟨y, l, y1, y0, y2, y3, y4, y5⟩ := h5 i x hi hx
  exact ⟨y, l, y1, y0, y2, y3, y4, keep_block y5 hb⟩
theorem szS_all (bs : List BlV) (k : Nat) : szS (bs.take k) ≤ szS bs := by
  have h : szS bs = szS (bs.take k) + szS (bs.drop k) := by
    unfold szS
    rw [← List.sum_append, ← List.map_append, List.take_append_drop]
  omega
set_option maxRecDepth 100000 in
set_option maxHeartbeats 4000000 in
theorem markBlobs (lo hi g n : Nat) (bs : List BlV) (k0 : Int) (h0 : 0 ≤ k0) (h1 : k0 + n + szS bs ≤ 1099511627776) (hn : n ≤ 1048576) (hl : bs.length = n) (w : World) (ho : OutM lo hi w g n bs) :
    Calls Try.prog 67 #[.slice (some ⟨g, 0, none⟩) n n, .int .i64 k0] w fun e w' => e = .returned (.int .i64 (k0 + (n + szS bs : Nat))) ∧ Keep w.heap.size (fun k => lo ≤ k ∧ k < hi) w w' := by
  have HO := Lib.hid ho
  clear ho
  go_enter Try.func67, Try.ntmps67
  go_wp2_with fail
  go_loopw [1, 5] (fun m i wr => ∃ k : Nat, k ≤ n ∧ i = .int .i64 k ∧ m = .int .i64 (k0 + (k + szS (bs.take k) : Nat)) ∧ OutM lo hi wr g n bs ∧ Keep w.heap.size (fun k => lo ≤ k ∧ k < hi) w wr) (fun _ i _ => n - (intOf i).toNat)
  case atStart => exact ⟨0, by omega, rfl, by simp [szS], HO.out, Keep.refl _ _ _⟩
  case round =>
    obtain ⟨k, hk, rfl, rfl, hO, hb⟩ := hrel
    have HB := Lib.hid hb
    clear hb
    by_cases hlt : k < n
    · obtain ⟨x, hx⟩ : ∃ x, bs[k]? = some x := ⟨bs[k]'(by omega), List.getElem?_eq_getElem (by omega)⟩
      obtain ⟨cs, c1, c2, c3, c4, c5⟩ := hO
      obtain ⟨y, l, y1, y0, y2, y3, y4, y5⟩ := c5 k x hlt hx
      have hz := szS_take hx
      have hza := szS_all bs (k + 1)
      have d0 := cell_of_row wr g (k * 2) _ _ _ c1
      have d1 := cell_of_row wr g (k * 2 + 1) _ _ _ c1
      rw [Array.getElem?_eq_getElem (by omega)] at d0
      rw [y3] at d1
      have f0 := frozen_of_row wr g (k * 2) _ _ c1
      generalize cs[k * 2]'(by omega) = v0 at d0
      have hmm : k0 + ((k + szS (bs.take k) : Nat) : Int) + 1 + (x.n : Int) = k0 + ((k + 1 + szS (bs.take (k + 1)) : Nat) : Int) := by rw [hz]; push_cast; omega
      have HM := Lib.hid hmm
      have HX := Lib.hid hx
      have hm0 : 0 ≤ k0 + ((k + szS (bs.take k) : Nat) : Int) := by omega
      have hm1 : k0 + ((k + szS (bs.take k) : Nat) : Int) + 1 + (x.n : Int) ≤ 1099511627776 := by rw [hmm]; push_cast; omega
      clear hmm hz hza
      generalize k0 + ((k + szS (bs.take k) : Nat) : Int) = m at HM hm0 hm1 ⊢
      have b0 : (0 : Int) ≤ (k : Int) := by omega
      have b1 : (k : Int) < (n : Int) := by omega
      have e1 : (wr.setCell ⟨g, k * 2, none⟩ (.int .u8 (m % 256))).heap[g]? = some (.cells (cs.setIfInBounds (k * 2) (.int .u8 (m % 256))) 43) := heap_setCell_same _ _ _ _ _ _ c1
      have e2 : (wr.setCell ⟨g, k * 2, none⟩ (.int .u8 (m % 256))).heap[y]? = some (.cells (ints .u8 l) 5) := (heap_setCell_other _ _ _ _ y1).trans y5
      have hcall := Lib.hid (markBS' y x.n x.n l 5 (m + 1) (by omega) (by omega) (by omega) (by omega) _ e2)
      have E1 := Lib.hid e1
      have E2 := Lib.hid e2
      have C2 := Lib.hid c2
      have C5 := Lib.hid c5
      have Y4 := Lib.hid y4
      have Y1 := Lib.hid y1
      clear e1 e2 c5 c1 y5 hx HO y3 c2 y4 y1
      go_wp2_with fail
      refine hcall.out.mono ?_
      rintro e w1 ⟨rfl, rfl⟩
      have hG : ((wr.setCell ⟨g, k * 2, none⟩ (.int .u8 (m % 256))).setRow y (ints .u8 (markL (m + 1) x.n ++ l.drop x.n))).heap[g]? = some (.cells (cs.setIfInBounds (k * 2) (.int .u8 (m % 256))) 43) := (setRow_other _ _ _ _ (fun e => Y1.out e.symm)).trans E1.out
      have hY : ((wr.setCell ⟨g, k * 2, none⟩ (.int .u8 (m % 256))).setRow y (ints .u8 (markL (m + 1) x.n ++ l.drop x.n))).heap[y]? = some (.cells (ints .u8 (markL (m + 1) x.n ++ l.drop x.n)) 5) := setRow_heap _ _ _ _ _ _ E2.out
      have hN : OutM lo hi ((wr.setCell ⟨g, k * 2, none⟩ (.int .u8 (m % 256))).setRow y (ints .u8 (markL (m + 1) x.n ++ l.drop x.n))) g n bs := by
        refine ⟨_, hG, by rw [Array.size_setIfInBounds]; exact C2.out, c3, c4, fun i z hi hz => ?_⟩
        obtain ⟨y', l', z1, z0, z2, z3, z4, z5⟩ := C5.out i z hi hz
        have z6 : (cs.setIfInBounds (k * 2) (.int .u8 (m % 256)))[i * 2 + 1]? = some (.slice (some ⟨y', 0, none⟩) z.n z.n) := by
          rw [Array.getElem?_setIfInBounds_ne (by omega)]
          exact z3
        by_cases he : y' = y
        · subst he
          have e5 := z5
          have hll : l'.length = l.length := by
            have h8 : (wr.setCell ⟨g, k * 2, none⟩ (.int .u8 (m % 256))).heap[y']? = wr.heap[y']? := heap_setCell_other _ _ _ _ Y1.out
            have h9 := E2.out
            rw [h8, e5] at h9
            injection h9 with h9
            injection h9 with h9
            have := congrArg Array.size h9
            rw [ints_size, ints_size] at this
            exact this
          refine ⟨y', _, z1, z0, z2, z6, ?_, hY⟩
          rw [List.length_append, markL_len, List.length_drop, ← z4, hll, Y4.out]
          omega
        · refine ⟨y', l', z1, z0, z2, z6, z4, ?_⟩
          rw [setRow_other _ _ _ _ he, heap_setCell_other _ _ _ _ z1]
          exact z5
      have hKp : Keep w.heap.size (fun k => lo ≤ k ∧ k < hi) w ((wr.setCell ⟨g, k * 2, none⟩ (.int .u8 (m % 256))).setRow y (ints .u8 (markL (m + 1) x.n ++ l.drop x.n))) := by
        refine HB.out.trans ((Keep.cell (p := ⟨g, k * 2, none⟩) ⟨c3, c4⟩).trans ⟨rfl, rfl, rfl, ?_, fun q _ hq => setRow_other _ _ _ _ (fun e => hq (e ▸ ⟨y0, y2⟩))⟩)
        simp [World.setRow]
      have HN := Lib.hid hN
      have HKp := Lib.hid hKp
      clear hN hKp hG hY
      go_wp2_with fail
      go_roundw
      case rel => exact ⟨k + 1, by omega, by go_num, by have hq := HM.out; congr 1 <;> (push_cast at hq ⊢; omega), HN.out, HKp.out⟩
      case measure => simp [intOf]; omega
    · obtain rfl : k = n := by omega
      have hz : bs.take k = bs := List.take_of_length_le (by omega)
      rw [hz]
      generalize hm : k0 + ((k + szS bs : Nat) : Int) = m
      go_wp2_with fail
      go_ret
      exact ⟨by rw [hm]; rfl, HB.out⟩
set_option maxRecDepth 100000 in
set_option maxHeartbeats 4000000 in
theorem markSt (lo hi g n : Nat) (bs : List BlV) (k0 : Int) (h0 : 0 ≤ k0) (h1 : k0 + n + szS bs ≤ 1099511627776) (hn : n ≤ 1048576) (hl : bs.length = n) (w : World) (hhi : hi ≤ w.heap.size) (ho : OutM lo hi w g n bs) :
    Calls Try.prog 25 #[.agg #[.slice (some ⟨g, 0, none⟩) n n], .int .i64 k0] w fun e w' => e = .returned (.int .i64 (k0 + (n + szS bs : Nat))) ∧ Keep w.heap.size (fun k => lo ≤ k ∧ k < hi) w w' := by
  have hb := Lib.hid (markBlobs lo hi g n bs k0 h0 h1 hn hl (w.alloc (.cells #[.slice (some ⟨g, 0, none⟩) n n] 29)) (ho.below ((Below.refl _ w).alloc (Nat.le_refl _) _)))
  have K0 : Keep w.heap.size (fun k => lo ≤ k ∧ k < hi) w (w.alloc (.cells #[.slice (some ⟨g, 0, none⟩) n n] 29)) := Keep.of _ ((Below.refl _ w).alloc (Nat.le_refl _) _)
  have HK := Lib.hid K0
  clear ho K0
  generalize k0 + ((n + szS bs : Nat) : Int) = r at hb ⊢
  go_enter Try.func25, Try.ntmps25
  go_wp2_with fail
  refine hb.out.mono ?_
  rintro e w1 ⟨rfl, hk⟩
  have HR := Lib.hid (HK.out.trans (hk.mono (by simp)))
  clear hk
  go_wp2_with fail
  go_ret
  exact ⟨rfl, HR.out⟩
end Go.Proofs.Ytabepfdononppaa
namespace Go.Proofs.Ytabepfdononppaa
open Go.ChangeShapes Go.WideShapes Go.ChangeAt Go.RowKit
set_option linter.unusedVariables false
set_option linter.unusedSimpArgs false
theorem IsBls.fineG {w : World} {a : Option Addr} {n : Nat} {bs : List BlV} (h : IsBls w a n bs) (hs : szS bs ≤ 1048576) : ∀ (i : Nat) (x : BlV), bs[i]? = some x → BlG x := by
  intro i x hx
  refine ⟨h.fine hs i x hx, ?_⟩
  obtain ⟨h1, h2, h3⟩ := h
  rcases h3 with h3 | ⟨b, off, e, hlt, hc⟩
  · have := (List.getElem?_eq_some_iff.1 hx).1
    omega
  · obtain ⟨_, hk, _⟩ := hc i x hx
    exact hk
theorem keep_row_baseB {w w1 : World} {B g : Nat} {o : Obj} (hg : w.heap[g]? = some o) (hB : g < B) (hb : Below B w w1) : w1.heap[g]? = some o := (hb.block g hB).trans hg
theorem OwnB.at_ {w : World} {base n cap : Nat} {a : Option Addr} {l : List Int} (h : OwnB w base (.slice a n cap) n l) : n = 0 ∨ ∃ b, a = some ⟨b, 0, none⟩ ∧ base ≤ b ∧ b < w.heap.size := by
  obtain ⟨a', cap', hv, _, ho⟩ := h
  cases hv
  exact ho.imp id (fun ⟨g, T, L, h1, h2, h3⟩ => ⟨g, h1, h2, (Array.getElem?_eq_some_iff.1 h3).1⟩)
theorem sizeKeyL : (Try.prog.info? 40).map (·.size) = some 32 := by kernel_rfl
set_option maxRecDepth 100000 in
set_option maxHeartbeats 8000000 in
theorem FnExactGetBlob_in (a : Option Addr) (n ca : Nat) (bs : List BlV) (key : List Int) (w : World) (hA : IsBls w a n bs) (hkl : key.length = 32) (hkf : ∀ z ∈ key, 0 ≤ z ∧ z ≤ 255) :
    Calls Try.prog 6 #[.agg #[.slice a n ca], .agg (ints .u8 key)] w fun e w' => e = .returned (.bool true) ∧ Below w.heap.size w w' := by
  have A0 := heap_alloc2_old w (.cells #[.slice a n ca] 24) (.cells (ints .u8 key) 40)
  have A1 := heap_alloc2_new w (.cells #[.slice a n ca] 24) (.cells (ints .u8 key) 40)
  have B0' := ((Below.refl w.heap.size w).alloc (Nat.le_refl _) (.cells #[.slice a n ca] 24)).alloc (by simp) (.cells (ints .u8 key) 40)
  obtain ⟨w0, hw0⟩ : ∃ w0, (w.alloc (.cells #[.slice a n ca] 24)).alloc (.cells (ints .u8 key) 40) = w0 := ⟨_, rfl⟩
  rw [hw0] at A0 A1 B0'
  have E0 := Lib.hid A0
  have F0 := Lib.hid A1
  have B0 := Lib.hid B0'
  have HIA := Lib.hid hA
  have HLA := Lib.hid hA.2.1
  have HKL := Lib.hid hkl
  have HKK : Hid (IsK key) := Lib.hid ⟨hkl, hkf⟩
  clear hA A0 A1 B0' hkl hkf
  go_enter Try.func6, Try.ntmps6
  have q0 := cell_of_row _ w.heap.size 0 _ _ _ E0.out
  go_wp2_with fail
  clear q0
  refine (szSt a n ca bs 1048576 (by omega) (by omega) _ (HIA.out.below B0.out)).mono ?_
  rintro e w1 ⟨⟨r, rfl, hr⟩, hb⟩
  have B1 := Lib.hid (below_call B0.out B0.out.size hb)
  have E1 := Lib.hid (keep_block E0.out hb)
  have F1 := Lib.hid (keep_block F0.out hb)
  clear hb hw0
  rcases hr with rfl | ⟨r0, hr⟩
  · go_wp2_with fail
    go_ret
    exact ⟨rfl, B1.out⟩
  have r1 : ¬ r < 0 := by omega
  have hn : n ≤ 1048576 := by omega
  have HGA := Lib.hid (HIA.out.fineG (by omega))
  have HFA := Lib.hid (fun (i : Nat) (x : BlV) (h : bs[i]? = some x) => (HGA.out i x h).1)
  have HNA := Lib.hid (fun (i : Nat) (x : BlV) (h : bs[i]? = some x) => (HFA.out i x h).1)
  have HSZ := Lib.hid (show (n : Int) + szS bs ≤ 1048576 by omega)
  clear hr r0
  obtain ⟨GV, hVV⟩ : ∃ GV, gbV bs key = GV := ⟨_, rfl⟩
  go_upto_region 5 with fail
  go_cut [6, 7] (fun s6 s7 wx => ∃ u8, u8 = wx ∧ ∃ (q : Nat) (a4 : Option Addr) (c4 : Nat), s6 = .pointer (some ⟨q, 0, none⟩) ∧ s7 = .int .i64 GV.c ∧ w1.heap.size ≤ q ∧ wx.heap[q]? = some (.cells #[.int .u8 GV.t, .slice a4 GV.n c4] 43) ∧ Rd .u8 wx a4 GV.n GV.l ∧ Below w1.heap.size w1 wx)
  case first =>
    refine wp_region_held_drew (S := Below w1.heap.size w1) (by kernel_rfl) ((Below.refl _ _).drew) (fun hS => ?_)
    refine takeS (i := 0) (v := .agg #[.slice a n ca]) rfl rfl (by kernel_rfl) (by kernel_rfl) (by kernel_rfl) (fun _ _ _ h => h) (Or.inl ⟨by rfl, fun U hU => by have q0 := cell_of_row _ w.heap.size 0 _ _ _ (keep_block E1.out hU); go_simp⟩) hS ?_
    try simp only [List.setIfInBounds_toArray, List.set_cons_zero, List.set_cons_succ]
    refine takeS (i := 2) (v := .agg (ints .u8 key)) rfl rfl (by kernel_rfl) (by kernel_rfl) (by kernel_rfl) (fun _ _ _ h => h) (yields_rowS (by rfl) 40 _ rfl (w.heap.size + 1) rfl (ints .u8 key) 40 _ (fun U hU => keep_block F1.out hU) Try.underlying40 rfl (by rw [ints_size, HKL.out]; exact sizeKeyL)) hS ?_
    try simp only [List.setIfInBounds_toArray, List.set_cons_zero, List.set_cons_succ]
    refine wpAnyH_ready (rs := [1, 8]) (by kernel_rfl) (by simp) ?_
    refine AllReadyH.cons rfl (fun KQ hK => ?_) (AllReadyH.cons rfl (fun KQ hK => ?_) AllReadyH.nil)
    · rw [if_pos (by rfl)]
      go_simp
      refine (toSt a n ca bs (by omega) _ (HIA.out.below ((B1.out).trans (hS.mono B1.out.size))) HNA.out).mono ?_
      rintro e u5 ⟨g5, rfl, ho, hb⟩
      have OS := Lib.hid ho
      clear ho
      refine hK.out _ _ (below_call hS hS.size hb) (fun hS => ?_)
      clear hb hK
      refine wpAnyH_ready (rs := [3, 8]) (by kernel_rfl) (by simp) ?_
      refine AllReadyH.cons rfl (fun KQ hK => ?_) (AllReadyH.cons rfl (fun KQ hK => ?_) AllReadyH.nil)
      · rw [if_pos (by rfl)]
        go_simp
        refine (toKey_ key HKL.out _).mono ?_
        rintro e u6 ⟨rfl, hb⟩
        have OS := Lib.hid (OS.out.below hb)
        refine hK.out _ _ (below_call hS hS.size hb) (fun hS => ?_)
        clear hb hK
        refine wpAnyH_ready (rs := [4, 8]) (by kernel_rfl) (by simp) ?_
        refine AllReadyH.cons rfl (fun KQ hK => ?_) (AllReadyH.cons rfl (fun KQ hK => ?_) AllReadyH.nil)
        · rw [if_pos (by rfl)]
          go_simp
          refine (gb_spec g5 n bs key HKK.out (by omega) HLA.out HGA.out _ OS.out).mono ?_
          rintro e u7 ⟨a4, c4, rfl, hR, hN, hb⟩
          rw [hVV] at hR hN ⊢
          have NS := Lib.hid (show GV.n = 0 ∨ ∃ b, a4 = some ⟨b, 0, none⟩ ∧ True ∧ b < u7.heap.size from by
            rcases hR.2 with h0 | ⟨b, o, h1, h2, _⟩
            · exact .inl h0
            · exact hN.imp id (fun ⟨b', h3, _⟩ => by rw [h1] at h3; cases h3; exact ⟨b, h1, trivial, h2⟩))
          have RS := Lib.hid hR
          clear hR hN
          refine hK.out _ _ (below_call hS hS.size hb) (fun hS => ?_)
          clear hb hK OS
          refine takeS (i := 5) (v := .tuple #[.agg #[.int .u8 GV.t, .slice a4 GV.n c4], .int .i64 GV.c]) rfl rfl (by kernel_rfl) (by kernel_rfl) (by kernel_rfl) (fun _ _ _ h => h) (Or.inl ⟨by rfl, fun U hU => by go_simp⟩) hS ?_
          try simp only [List.setIfInBounds_toArray, List.set_cons_zero, List.set_cons_succ]
          refine takeS (i := 6) (v := .agg #[.int .u8 GV.t, .slice a4 GV.n c4]) rfl rfl (by kernel_rfl) (by kernel_rfl) (by kernel_rfl) (fun _ _ _ h => h) (Or.inl ⟨by rfl, fun U hU => by go_simp⟩) hS ?_
          try simp only [List.setIfInBounds_toArray, List.set_cons_zero, List.set_cons_succ]
          refine takeS (i := 7) (v := .int .i64 GV.c) rfl rfl (by kernel_rfl) (by kernel_rfl) (by kernel_rfl) (fun _ _ _ h => h) (Or.inl ⟨by rfl, fun U hU => by go_simp⟩) hS ?_
          try simp only [List.setIfInBounds_toArray, List.set_cons_zero, List.set_cons_succ]
          refine wpAnyH_ready (rs := [8]) (by kernel_rfl) (by simp) ?_
          refine AllReadyH.cons rfl (fun KQ hK => ?_) AllReadyH.nil
          rw [if_pos (by rfl)]
          go_simp
          have LA := (Below.refl (u7).heap.size (u7)).alloc (Nat.le_refl _) (.cells #[.int .u8 0, .slice none 0 0] 43)
          have BXX := Lib.hid (heap_alloc_last (u7) (.cells #[.int .u8 0, .slice none 0 0] 43))
          have BQ := Lib.hid (show w1.heap.size ≤ (u7).heap.size from hS.size)
          have RS := Lib.hid (RS.out.below LA)
          have NQ := Lib.hid (show GV.n = 0 ∨ ∃ b, a4 = some ⟨b, 0, none⟩ ∧ b ≠ (u7).heap.size from NS.out.imp id (fun ⟨b, h1, h2, h3⟩ => ⟨b, h1, by omega⟩))
          refine hK.out _ _ (hS.alloc hS.size _) (fun hS => ?_)
          clear hK LA
          obtain ⟨q, hq⟩ : ∃ q, (u7).heap.size = q := ⟨_, rfl⟩
          obtain ⟨wA, hwA⟩ : ∃ wA, (u7).alloc (.cells #[.int .u8 0, .slice none 0 0] 43) = wA := ⟨_, rfl⟩
          rw [hq] at BXX BQ NQ ⊢
          rw [hwA] at BXX hS RS ⊢
          refine wpAnyH_ready (rs := [9]) (by kernel_rfl) (by simp) ?_
          refine AllReadyH.cons rfl (fun KQ hK => ?_) AllReadyH.nil
          rw [if_pos (by rfl)]
          have q0 := cell_of_row _ (q) 0 _ _ _ BXX.out
          have q1 := cell_of_row _ (q) 1 _ _ _ BXX.out
          have f0 := frozen_of_row _ (q) 0 _ _ BXX.out
          have f1 := frozen_of_row _ (q) 1 _ _ BXX.out
          go_simp
          have BY := Lib.hid (box_set (a := .int .u8 GV.t) (b := .slice a4 GV.n c4) BXX.out)
          have RY := Lib.hid (RS.out.setBox2 (u := .int .u8 GV.t) (v := .slice a4 GV.n c4) NQ.out)
          have hSY := (hS.setCell (p := ⟨q, 0, none⟩) BQ.out (.int .u8 GV.t)).setCell (p := ⟨q, 1, none⟩) BQ.out (.slice a4 GV.n c4)
          refine hK.out _ _ hSY (fun hS => ?_)
          clear hK q0 q1 f0 f1
          refine takeS (i := 10) (v := .int .i64 GV.c) rfl rfl (by kernel_rfl) (by kernel_rfl) (by kernel_rfl) (fun _ _ _ h => h) (Or.inl ⟨by rfl, fun U hU => by go_simp⟩) hS ?_
          try simp only [List.setIfInBounds_toArray, List.set_cons_zero, List.set_cons_succ]
          refine wpAnyH_done (by kernel_rfl) ?_ _
          go_wp2_with fail
          go_meet
          exact ⟨_, rfl, q, a4, c4, rfl, rfl, BQ.out, BY.out, RY.out, hS⟩
        · rw [if_pos (by rfl)]
          go_simp
          have LA := (Below.refl (u6).heap.size (u6)).alloc (Nat.le_refl _) (.cells #[.int .u8 0, .slice none 0 0] 43)
          have BXX := Lib.hid (heap_alloc_last (u6) (.cells #[.int .u8 0, .slice none 0 0] 43))
          have BQ := Lib.hid (show w1.heap.size ≤ (u6).heap.size from hS.size)
          have OS := Lib.hid (OS.out.below LA)
          refine hK.out _ _ (hS.alloc hS.size _) (fun hS => ?_)
          clear hK LA
          obtain ⟨q, hq⟩ : ∃ q, (u6).heap.size = q := ⟨_, rfl⟩
          obtain ⟨wA, hwA⟩ : ∃ wA, (u6).alloc (.cells #[.int .u8 0, .slice none 0 0] 43) = wA := ⟨_, rfl⟩
          rw [hq] at BXX BQ ⊢
          rw [hwA] at BXX hS OS ⊢
          refine wpAnyH_ready (rs := [4]) (by kernel_rfl) (by simp) ?_
          refine AllReadyH.cons rfl (fun KQ hK => ?_) AllReadyH.nil
          rw [if_pos (by rfl)]
          go_simp
          refine (gb_spec g5 n bs key HKK.out (by omega) HLA.out HGA.out _ OS.out).mono ?_
          rintro e u7 ⟨a4, c4, rfl, hR, hN, hb⟩
          rw [hVV] at hR hN ⊢
          have hlq := (Array.getElem?_eq_some_iff.1 BXX.out).1
          have NQ := Lib.hid (show GV.n = 0 ∨ ∃ b, a4 = some ⟨b, 0, none⟩ ∧ b ≠ q from hN.imp id (fun ⟨b, h1, h2⟩ => ⟨b, h1, by omega⟩))
          clear hlq
          have BXX := Lib.hid ((hb.block (q) (Array.getElem?_eq_some_iff.1 BXX.out).1).trans BXX.out)
          have RS := Lib.hid hR
          clear hR hN
          refine hK.out _ _ (below_call hS hS.size hb) (fun hS => ?_)
          clear hb hK OS
          refine takeS (i := 5) (v := .tuple #[.agg #[.int .u8 GV.t, .slice a4 GV.n c4], .int .i64 GV.c]) rfl rfl (by kernel_rfl) (by kernel_rfl) (by kernel_rfl) (fun _ _ _ h => h) (Or.inl ⟨by rfl, fun U hU => by go_simp⟩) hS ?_
          try simp only [List.setIfInBounds_toArray, List.set_cons_zero, List.set_cons_succ]
          refine takeS (i := 6) (v := .agg #[.int .u8 GV.t, .slice a4 GV.n c4]) rfl rfl (by kernel_rfl) (by kernel_rfl) (by kernel_rfl) (fun _ _ _ h => h) (Or.inl ⟨by rfl, fun U hU => by go_simp⟩) hS ?_
          try simp only [List.setIfInBounds_toArray, List.set_cons_zero, List.set_cons_succ]
          refine takeS (i := 7) (v := .int .i64 GV.c) rfl rfl (by kernel_rfl) (by kernel_rfl) (by kernel_rfl) (fun _ _ _ h => h) (Or.inl ⟨by rfl, fun U hU => by go_simp⟩) hS ?_
          try simp only [List.setIfInBounds_toArray, List.set_cons_zero, List.set_cons_succ]
          refine wpAnyH_ready (rs := [9]) (by kernel_rfl) (by simp) ?_
          refine AllReadyH.cons rfl (fun KQ hK => ?_) AllReadyH.nil
          rw [if_pos (by rfl)]
          have q0 := cell_of_row _ (q) 0 _ _ _ BXX.out
          have q1 := cell_of_row _ (q) 1 _ _ _ BXX.out
          have f0 := frozen_of_row _ (q) 0 _ _ BXX.out
          have f1 := frozen_of_row _ (q) 1 _ _ BXX.out
          go_simp
          have BY := Lib.hid (box_set (a := .int .u8 GV.t) (b := .slice a4 GV.n c4) BXX.out)
          have RY := Lib.hid (RS.out.setBox2 (u := .int .u8 GV.t) (v := .slice a4 GV.n c4) NQ.out)
          have hSY := (hS.setCell (p := ⟨q, 0, none⟩) BQ.out (.int .u8 GV.t)).setCell (p := ⟨q, 1, none⟩) BQ.out (.slice a4 GV.n c4)
          refine hK.out _ _ hSY (fun hS => ?_)
          clear hK q0 q1 f0 f1
          refine takeS (i := 10) (v := .int .i64 GV.c) rfl rfl (by kernel_rfl) (by kernel_rfl) (by kernel_rfl) (fun _ _ _ h => h) (Or.inl ⟨by rfl, fun U hU => by go_simp⟩) hS ?_
          try simp only [List.setIfInBounds_toArray, List.set_cons_zero, List.set_cons_succ]
          refine wpAnyH_done (by kernel_rfl) ?_ _
          go_wp2_with fail
          go_meet
          exact ⟨_, rfl, q, a4, c4, rfl, rfl, BQ.out, BY.out, RY.out, hS⟩
      · rw [if_pos (by rfl)]
        go_simp
        have LA := (Below.refl (u5).heap.size (u5)).alloc (Nat.le_refl _) (.cells #[.int .u8 0, .slice none 0 0] 43)
        have BXX := Lib.hid (heap_alloc_last (u5) (.cells #[.int .u8 0, .slice none 0 0] 43))
        have BQ := Lib.hid (show w1.heap.size ≤ (u5).heap.size from hS.size)
        have OS := Lib.hid (OS.out.below LA)
        refine hK.out _ _ (hS.alloc hS.size _) (fun hS => ?_)
        clear hK LA
        obtain ⟨q, hq⟩ : ∃ q, (u5).heap.size = q := ⟨_, rfl⟩
        obtain ⟨wA, hwA⟩ : ∃ wA, (u5).alloc (.cells #[.int .u8 0, .slice none 0 0] 43) = wA := ⟨_, rfl⟩
        rw [hq] at BXX BQ ⊢
        rw [hwA] at BXX hS OS ⊢
        refine wpAnyH_ready (rs := [3]) (by kernel_rfl) (by simp) ?_
        refine AllReadyH.cons rfl (fun KQ hK => ?_) AllReadyH.nil
        rw [if_pos (by rfl)]
        go_simp
        refine (toKey_ key HKL.out _).mono ?_
        rintro e u6 ⟨rfl, hb⟩
        have OS := Lib.hid (OS.out.below hb)
        have BXX := Lib.hid ((hb.block (q) (Array.getElem?_eq_some_iff.1 BXX.out).1).trans BXX.out)
        refine hK.out _ _ (below_call hS hS.size hb) (fun hS => ?_)
        clear hb hK
        refine wpAnyH_ready (rs := [4]) (by kernel_rfl) (by simp) ?_
        refine AllReadyH.cons rfl (fun KQ hK => ?_) AllReadyH.nil
        rw [if_pos (by rfl)]
        go_simp
        refine (gb_spec g5 n bs key HKK.out (by omega) HLA.out HGA.out _ OS.out).mono ?_
        rintro e u7 ⟨a4, c4, rfl, hR, hN, hb⟩
        rw [hVV] at hR hN ⊢
        have hlq := (Array.getElem?_eq_some_iff.1 BXX.out).1
        have NQ := Lib.hid (show GV.n = 0 ∨ ∃ b, a4 = some ⟨b, 0, none⟩ ∧ b ≠ q from hN.imp id (fun ⟨b, h1, h2⟩ => ⟨b, h1, by omega⟩))
        clear hlq
        have BXX := Lib.hid ((hb.block (q) (Array.getElem?_eq_some_iff.1 BXX.out).1).trans BXX.out)
        have RS := Lib.hid hR
        clear hR hN
        refine hK.out _ _ (below_call hS hS.size hb) (fun hS => ?_)
        clear hb hK OS
        refine takeS (i := 5) (v := .tuple #[.agg #[.int .u8 GV.t, .slice a4 GV.n c4], .int .i64 GV.c]) rfl rfl (by kernel_rfl) (by kernel_rfl) (by kernel_rfl) (fun _ _ _ h => h) (Or.inl ⟨by rfl, fun U hU => by go_simp⟩) hS ?_
        try simp only [List.setIfInBounds_toArray, List.set_cons_zero, List.set_cons_succ]
        refine takeS (i := 6) (v := .agg #[.int .u8 GV.t, .slice a4 GV.n c4]) rfl rfl (by kernel_rfl) (by kernel_rfl) (by kernel_rfl) (fun _ _ _ h => h) (Or.inl ⟨by rfl, fun U hU => by go_simp⟩) hS ?_
        try simp only [List.setIfInBounds_toArray, List.set_cons_zero, List.set_cons_succ]
        refine takeS (i := 7) (v := .int .i64 GV.c) rfl rfl (by kernel_rfl) (by kernel_rfl) (by kernel_rfl) (fun _ _ _ h => h) (Or.inl ⟨by rfl, fun U hU => by go_simp⟩) hS ?_
        try simp only [List.setIfInBounds_toArray, List.set_cons_zero, List.set_cons_succ]
        refine wpAnyH_ready (rs := [9]) (by kernel_rfl) (by simp) ?_
        refine AllReadyH.cons rfl (fun KQ hK => ?_) AllReadyH.nil
        rw [if_pos (by rfl)]
        have q0 := cell_of_row _ (q) 0 _ _ _ BXX.out
        have q1 := cell_of_row _ (q) 1 _ _ _ BXX.out
        have f0 := frozen_of_row _ (q) 0 _ _ BXX.out
        have f1 := frozen_of_row _ (q) 1 _ _ BXX.out
        go_simp
        have BY := Lib.hid (box_set (a := .int .u8 GV.t) (b := .slice a4 GV.n c4) BXX.out)
        have RY := Lib.hid (RS.out.setBox2 (u := .int .u8 GV.t) (v := .slice a4 GV.n c4) NQ.out)
        have hSY := (hS.setCell (p := ⟨q, 0, none⟩) BQ.out (.int .u8 GV.t)).setCell (p := ⟨q, 1, none⟩) BQ.out (.slice a4 GV.n c4)
        refine hK.out _ _ hSY (fun hS => ?_)
        clear hK q0 q1 f0 f1
        refine takeS (i := 10) (v := .int .i64 GV.c) rfl rfl (by kernel_rfl) (by kernel_rfl) (by kernel_rfl) (fun _ _ _ h => h) (Or.inl ⟨by rfl, fun U hU => by go_simp⟩) hS ?_
        try simp only [List.setIfInBounds_toArray, List.set_cons_zero, List.set_cons_succ]
        refine wpAnyH_done (by kernel_rfl) ?_ _
        go_wp2_with fail
        go_meet
        exact ⟨_, rfl, q, a4, c4, rfl, rfl, BQ.out, BY.out, RY.out, hS⟩
    · rw [if_pos (by rfl)]
      go_simp
      have LA := (Below.refl (w1).heap.size (w1)).alloc (Nat.le_refl _) (.cells #[.int .u8 0, .slice none 0 0] 43)
      have BXX := Lib.hid (heap_alloc_last (w1) (.cells #[.int .u8 0, .slice none 0 0] 43))
      have BQ := Lib.hid (show w1.heap.size ≤ (w1).heap.size from hS.size)
      refine hK.out _ _ (hS.alloc hS.size _) (fun hS => ?_)
      clear hK LA
      obtain ⟨wA, hwA⟩ : ∃ wA, (w1).alloc (.cells #[.int .u8 0, .slice none 0 0] 43) = wA := ⟨_, rfl⟩
      rw [hwA] at BXX hS ⊢
      refine wpAnyH_ready (rs := [1]) (by kernel_rfl) (by simp) ?_
      refine AllReadyH.cons rfl (fun KQ hK => ?_) AllReadyH.nil
      rw [if_pos (by rfl)]
      go_simp
      refine (toSt a n ca bs (by omega) _ (HIA.out.below ((B1.out).trans (hS.mono B1.out.size))) HNA.out).mono ?_
      rintro e u5 ⟨g5, rfl, ho, hb⟩
      have BXX := Lib.hid ((hb.block (w1.heap.size) (Array.getElem?_eq_some_iff.1 BXX.out).1).trans BXX.out)
      have OS := Lib.hid ho
      clear ho
      refine hK.out _ _ (below_call hS hS.size hb) (fun hS => ?_)
      clear hb hK
      refine wpAnyH_ready (rs := [3]) (by kernel_rfl) (by simp) ?_
      refine AllReadyH.cons rfl (fun KQ hK => ?_) AllReadyH.nil
      rw [if_pos (by rfl)]
      go_simp
      refine (toKey_ key HKL.out _).mono ?_
      rintro e u6 ⟨rfl, hb⟩
      have OS := Lib.hid (OS.out.below hb)
      have BXX := Lib.hid ((hb.block (w1.heap.size) (Array.getElem?_eq_some_iff.1 BXX.out).1).trans BXX.out)
      refine hK.out _ _ (below_call hS hS.size hb) (fun hS => ?_)
      clear hb hK
      refine wpAnyH_ready (rs := [4]) (by kernel_rfl) (by simp) ?_
      refine AllReadyH.cons rfl (fun KQ hK => ?_) AllReadyH.nil
      rw [if_pos (by rfl)]
      go_simp
      refine (gb_spec g5 n bs key HKK.out (by omega) HLA.out HGA.out _ OS.out).mono ?_
      rintro e u7 ⟨a4, c4, rfl, hR, hN, hb⟩
      rw [hVV] at hR hN ⊢
      have hlq := (Array.getElem?_eq_some_iff.1 BXX.out).1
      have NQ := Lib.hid (show GV.n = 0 ∨ ∃ b, a4 = some ⟨b, 0, none⟩ ∧ b ≠ w1.heap.size from hN.imp id (fun ⟨b, h1, h2⟩ => ⟨b, h1, by omega⟩))
      clear hlq
      have BXX := Lib.hid ((hb.block (w1.heap.size) (Array.getElem?_eq_some_iff.1 BXX.out).1).trans BXX.out)
      have RS := Lib.hid hR
      clear hR hN
      refine hK.out _ _ (below_call hS hS.size hb) (fun hS => ?_)
      clear hb hK OS
      refine takeS (i := 5) (v := .tuple #[.agg #[.int .u8 GV.t, .slice a4 GV.n c4], .int .i64 GV.c]) rfl rfl (by kernel_rfl) (by kernel_rfl) (by kernel_rfl) (fun _ _ _ h => h) (Or.inl ⟨by rfl, fun U hU => by go_simp⟩) hS ?_
      try simp only [List.setIfInBounds_toArray, List.set_cons_zero, List.set_cons_succ]
      refine takeS (i := 6) (v := .agg #[.int .u8 GV.t, .slice a4 GV.n c4]) rfl rfl (by kernel_rfl) (by kernel_rfl) (by kernel_rfl) (fun _ _ _ h => h) (Or.inl ⟨by rfl, fun U hU => by go_simp⟩) hS ?_
      try simp only [List.setIfInBounds_toArray, List.set_cons_zero, List.set_cons_succ]
      refine takeS (i := 7) (v := .int .i64 GV.c) rfl rfl (by kernel_rfl) (by kernel_rfl) (by kernel_rfl) (fun _ _ _ h => h) (Or.inl ⟨by rfl, fun U hU => by go_simp⟩) hS ?_
      try simp only [List.setIfInBounds_toArray, List.set_cons_zero, List.set_cons_succ]
      refine wpAnyH_ready (rs := [9]) (by kernel_rfl) (by simp) ?_
      refine AllReadyH.cons rfl (fun KQ hK => ?_) AllReadyH.nil
      rw [if_pos (by rfl)]
      have q0 := cell_of_row _ (w1.heap.size) 0 _ _ _ BXX.out
      have q1 := cell_of_row _ (w1.heap.size) 1 _ _ _ BXX.out
      have f0 := frozen_of_row _ (w1.heap.size) 0 _ _ BXX.out
      have f1 := frozen_of_row _ (w1.heap.size) 1 _ _ BXX.out
      go_simp
      have BY := Lib.hid (box_set (a := .int .u8 GV.t) (b := .slice a4 GV.n c4) BXX.out)
      have RY := Lib.hid (RS.out.setBox2 (u := .int .u8 GV.t) (v := .slice a4 GV.n c4) NQ.out)
      have hSY := (hS.setCell (p := ⟨w1.heap.size, 0, none⟩) BQ.out (.int .u8 GV.t)).setCell (p := ⟨w1.heap.size, 1, none⟩) BQ.out (.slice a4 GV.n c4)
      refine hK.out _ _ hSY (fun hS => ?_)
      clear hK q0 q1 f0 f1
      refine takeS (i := 10) (v := .int .i64 GV.c) rfl rfl (by kernel_rfl) (by kernel_rfl) (by kernel_rfl) (fun _ _ _ h => h) (Or.inl ⟨by rfl, fun U hU => by go_simp⟩) hS ?_
      try simp only [List.setIfInBounds_toArray, List.set_cons_zero, List.set_cons_succ]
      refine wpAnyH_done (by kernel_rfl) ?_ _
      go_wp2_with fail
      go_meet
      exact ⟨_, rfl, w1.heap.size, a4, c4, rfl, rfl, BQ.out, BY.out, RY.out, hS⟩
  obtain ⟨w3, rfl, q6, a4, c4, rfl, rfl, hq6, hBX, hRd, hb⟩ := hcut
  have B3 := Lib.hid (below_call B1.out B1.out.size hb)
  have E3 := Lib.hid (keep_block E1.out hb)
  have F3 := Lib.hid (keep_block F1.out hb)
  have S3 := Lib.hid hBX
  have R3 := Lib.hid hRd
  clear hb hBX hRd B1 E1 F1
  have q0 := cell_of_row _ w.heap.size 0 _ _ _ E3.out
  go_wp2_with fail
  clear q0
  refine (toStN a n ca bs (by omega) _ (HIA.out.below B3.out) HNA.out).mono ?_
  rintro e w4 ⟨g4, hg4, rfl, ho, hb⟩
  have O4 := Lib.hid ho
  have C4 := Lib.hid hb
  have M4 := Lib.hid (ho.marked hg4 HFA.out)
  have B4 := Lib.hid (below_call B3.out B3.out.size hb)
  clear ho hb
  go_upto_region 7 with fail
  have LI := (Below.refl w4.heap.size w4).alloc (Nat.le_refl _) (.cells #[.slice (some ⟨g4, 0, none⟩) n n] 29)
  have B5 := Lib.hid (below_call B4.out B4.out.size LI)
  have C5 := Lib.hid (below_call C4.out C4.out.size LI)
  have O5 := Lib.hid (O4.out.out.below LI)
  have M5 := Lib.hid (M4.out.below LI)
  have X5 := Lib.hid (heap_alloc_last w4 (.cells #[.slice (some ⟨g4, 0, none⟩) n n] 29))
  have Z5 := Lib.hid (show w4.heap.size < (w4.alloc (.cells #[.slice (some ⟨g4, 0, none⟩) n n] 29)).heap.size by simp)
  clear LI
  generalize w4.alloc (.cells #[.slice (some ⟨g4, 0, none⟩) n n] 29) = w5 at B5 C5 O5 M5 X5 Z5 ⊢
  generalize w4.heap.size = x0 at M5 X5 Z5 ⊢
  have E5 := Lib.hid (keep_block E3.out C5.out)
  have F5 := Lib.hid (keep_block F3.out C5.out)
  have S5 := Lib.hid (keep_block S3.out C5.out)
  have R5 := Lib.hid (R3.out.below C5.out)
  clear B4 C4 O4 M4
  have hki := Lib.hid (fun (g' : Nat) (W : World) (h : OutB W g' n n bs) => gb_impl g' n bs key HKK.out (by omega) HLA.out HGA.out W h)
  have HGN := Lib.hid (gbV_n (key := key) HFA.out)
  rw [hVV] at hki HGN
  unfold GbI at hki
  go_cut [9, 10] (fun s6 s7 wx => ∃ u8, u8 = wx ∧ ∃ (q : Nat) (a4 : Option Addr) (c4 : Nat), s6 = .pointer (some ⟨q, 0, none⟩) ∧ s7 = .int .i64 GV.c ∧ w5.heap.size ≤ q ∧ wx.heap[q]? = some (.cells #[.int .u8 GV.t, .slice a4 GV.n c4] 43) ∧ OwnB wx w5.heap.size (.slice a4 GV.n c4) GV.n GV.l ∧ (GV.n = 0 ∨ ∃ b, a4 = some ⟨b, 0, none⟩ ∧ b ≠ q) ∧ Below w5.heap.size w5 wx)
  case first =>
    refine wp_region_held_drew (S := Below w5.heap.size w5) (by kernel_rfl) ((Below.refl _ _).drew) (fun hS => ?_)
    refine takeS (i := 0) (v := .agg #[.slice (some ⟨g4, 0, none⟩) n n]) rfl rfl (by kernel_rfl) (by kernel_rfl) (by kernel_rfl) (fun _ _ _ h => h) (Or.inl ⟨by rfl, fun U hU => by have q0 := cell_of_row _ x0 0 _ _ _ (keep_block X5.out hU); go_simp⟩) hS ?_
    try simp only [List.setIfInBounds_toArray, List.set_cons_zero, List.set_cons_succ]
    refine takeS (i := 1) (v := .agg (ints .u8 key)) rfl rfl (by kernel_rfl) (by kernel_rfl) (by kernel_rfl) (fun _ _ _ h => h) (yields_rowS (by rfl) 40 _ rfl (w.heap.size + 1) rfl (ints .u8 key) 40 _ (fun U hU => keep_block F5.out hU) Try.underlying40 rfl (by rw [ints_size, HKL.out]; exact sizeKeyL)) hS ?_
    try simp only [List.setIfInBounds_toArray, List.set_cons_zero, List.set_cons_succ]
    refine wpAnyH_ready (rs := [2, 7]) (by kernel_rfl) (by simp) ?_
    refine AllReadyH.cons rfl (fun KQ hK => ?_) (AllReadyH.cons rfl (fun KQ hK => ?_) AllReadyH.nil)
    · rw [if_pos (by rfl)]
      go_simp
      refine (toKey_ key HKL.out _).mono ?_
      rintro e u6 ⟨rfl, hb⟩
      refine hK.out _ _ (below_call hS hS.size hb) (fun hS => ?_)
      clear hb hK
      refine wpAnyH_ready (rs := [3, 7]) (by kernel_rfl) (by simp) ?_
      refine AllReadyH.cons rfl (fun KQ hK => ?_) (AllReadyH.cons rfl (fun KQ hK => ?_) AllReadyH.nil)
      · rw [if_pos (by rfl)]
        go_simp
        have hsz7 := hS.size
        refine (hki.out g4 _ (O5.out.below hS)).mono ?_
        rintro e u7 ⟨v4, rfl, hO0, hb⟩
        obtain ⟨a4, c4, rfl, hR, hO⟩ := hO0.read
        have NS := Lib.hid (show GV.n = 0 ∨ ∃ b, a4 = some ⟨b, 0, none⟩ ∧ True ∧ b < u7.heap.size from hO.at_.imp id (fun ⟨b, h1, _, h3⟩ => ⟨b, h1, trivial, h3⟩))
        have RS := Lib.hid (hO.mono hsz7)
        clear hR hO hO0
        refine hK.out _ _ (below_call hS hS.size hb) (fun hS => ?_)
        clear hb hK
        refine takeS (i := 4) (v := .tuple #[.agg #[.int .u8 GV.t, .slice a4 GV.n c4], .int .i64 GV.c]) rfl rfl (by kernel_rfl) (by kernel_rfl) (by kernel_rfl) (fun _ _ _ h => h) (Or.inl ⟨by rfl, fun U hU => by go_simp⟩) hS ?_
        try simp only [List.setIfInBounds_toArray, List.set_cons_zero, List.set_cons_succ]
        refine takeS (i := 5) (v := .agg #[.int .u8 GV.t, .slice a4 GV.n c4]) rfl rfl (by kernel_rfl) (by kernel_rfl) (by kernel_rfl) (fun _ _ _ h => h) (Or.inl ⟨by rfl, fun U hU => by go_simp⟩) hS ?_
        try simp only [List.setIfInBounds_toArray, List.set_cons_zero, List.set_cons_succ]
        refine takeS (i := 6) (v := .int .i64 GV.c) rfl rfl (by kernel_rfl) (by kernel_rfl) (by kernel_rfl) (fun _ _ _ h => h) (Or.inl ⟨by rfl, fun U hU => by go_simp⟩) hS ?_
        try simp only [List.setIfInBounds_toArray, List.set_cons_zero, List.set_cons_succ]
        refine wpAnyH_ready (rs := [7]) (by kernel_rfl) (by simp) ?_
        refine AllReadyH.cons rfl (fun KQ hK => ?_) AllReadyH.nil
        rw [if_pos (by rfl)]
        go_simp
        have LA := (Below.refl (u7).heap.size (u7)).alloc (Nat.le_refl _) (.cells #[.int .u8 0, .slice none 0 0] 43)
        have BXX := Lib.hid (heap_alloc_last (u7) (.cells #[.int .u8 0, .slice none 0 0] 43))
        have BQ := Lib.hid (show w5.heap.size ≤ (u7).heap.size from hS.size)
        have RS := Lib.hid (RS.out.below LA)
        have NQ := Lib.hid (show GV.n = 0 ∨ ∃ b, a4 = some ⟨b, 0, none⟩ ∧ b ≠ (u7).heap.size from NS.out.imp id (fun ⟨b, h1, h2, h3⟩ => ⟨b, h1, by omega⟩))
        refine hK.out _ _ (hS.alloc hS.size _) (fun hS => ?_)
        clear hK LA
        obtain ⟨q, hq⟩ : ∃ q, (u7).heap.size = q := ⟨_, rfl⟩
        obtain ⟨wA, hwA⟩ : ∃ wA, (u7).alloc (.cells #[.int .u8 0, .slice none 0 0] 43) = wA := ⟨_, rfl⟩
        rw [hq] at BXX BQ NQ ⊢
        rw [hwA] at BXX hS RS ⊢
        refine wpAnyH_ready (rs := [8]) (by kernel_rfl) (by simp) ?_
        refine AllReadyH.cons rfl (fun KQ hK => ?_) AllReadyH.nil
        rw [if_pos (by rfl)]
        have q0 := cell_of_row _ (q) 0 _ _ _ BXX.out
        have q1 := cell_of_row _ (q) 1 _ _ _ BXX.out
        have f0 := frozen_of_row _ (q) 0 _ _ BXX.out
        have f1 := frozen_of_row _ (q) 1 _ _ BXX.out
        go_simp
        have BY := Lib.hid (box_set (a := .int .u8 GV.t) (b := .slice a4 GV.n c4) BXX.out)
        have RY := Lib.hid (RS.out.setBoxQ (u1 := .int .u8 GV.t) (u2 := .slice a4 GV.n c4) NQ.out)
        have hSY := (hS.setCell (p := ⟨q, 0, none⟩) BQ.out (.int .u8 GV.t)).setCell (p := ⟨q, 1, none⟩) BQ.out (.slice a4 GV.n c4)
        refine hK.out _ _ hSY (fun hS => ?_)
        clear hK q0 q1 f0 f1
        refine takeS (i := 9) (v := .int .i64 GV.c) rfl rfl (by kernel_rfl) (by kernel_rfl) (by kernel_rfl) (fun _ _ _ h => h) (Or.inl ⟨by rfl, fun U hU => by go_simp⟩) hS ?_
        try simp only [List.setIfInBounds_toArray, List.set_cons_zero, List.set_cons_succ]
        refine wpAnyH_done (by kernel_rfl) ?_ _
        go_wp2_with fail
        go_meet
        exact ⟨_, rfl, q, a4, c4, rfl, rfl, BQ.out, BY.out, RY.out, NQ.out, hS⟩
      · rw [if_pos (by rfl)]
        go_simp
        have LA := (Below.refl (u6).heap.size (u6)).alloc (Nat.le_refl _) (.cells #[.int .u8 0, .slice none 0 0] 43)
        have BXX := Lib.hid (heap_alloc_last (u6) (.cells #[.int .u8 0, .slice none 0 0] 43))
        have BQ := Lib.hid (show w5.heap.size ≤ (u6).heap.size from hS.size)
        refine hK.out _ _ (hS.alloc hS.size _) (fun hS => ?_)
        clear hK LA
        obtain ⟨q, hq⟩ : ∃ q, (u6).heap.size = q := ⟨_, rfl⟩
        obtain ⟨wA, hwA⟩ : ∃ wA, (u6).alloc (.cells #[.int .u8 0, .slice none 0 0] 43) = wA := ⟨_, rfl⟩
        rw [hq] at BXX BQ ⊢
        rw [hwA] at BXX hS ⊢
        refine wpAnyH_ready (rs := [3]) (by kernel_rfl) (by simp) ?_
        refine AllReadyH.cons rfl (fun KQ hK => ?_) AllReadyH.nil
        rw [if_pos (by rfl)]
        go_simp
        have hsz7 := hS.size
        refine (hki.out g4 _ (O5.out.below hS)).mono ?_
        rintro e u7 ⟨v4, rfl, hO0, hb⟩
        obtain ⟨a4, c4, rfl, hR, hO⟩ := hO0.read
        have hlq := (Array.getElem?_eq_some_iff.1 BXX.out).1
        have NQ := Lib.hid (show GV.n = 0 ∨ ∃ b, a4 = some ⟨b, 0, none⟩ ∧ b ≠ q from hO.at_.imp id (fun ⟨b, h1, h2, _⟩ => ⟨b, h1, by omega⟩))
        clear hlq
        have BXX := Lib.hid ((hb.block (q) (Array.getElem?_eq_some_iff.1 BXX.out).1).trans BXX.out)
        have RS := Lib.hid (hO.mono hsz7)
        clear hR hO hO0
        refine hK.out _ _ (below_call hS hS.size hb) (fun hS => ?_)
        clear hb hK
        refine takeS (i := 4) (v := .tuple #[.agg #[.int .u8 GV.t, .slice a4 GV.n c4], .int .i64 GV.c]) rfl rfl (by kernel_rfl) (by kernel_rfl) (by kernel_rfl) (fun _ _ _ h => h) (Or.inl ⟨by rfl, fun U hU => by go_simp⟩) hS ?_
        try simp only [List.setIfInBounds_toArray, List.set_cons_zero, List.set_cons_succ]
        refine takeS (i := 5) (v := .agg #[.int .u8 GV.t, .slice a4 GV.n c4]) rfl rfl (by kernel_rfl) (by kernel_rfl) (by kernel_rfl) (fun _ _ _ h => h) (Or.inl ⟨by rfl, fun U hU => by go_simp⟩) hS ?_
        try simp only [List.setIfInBounds_toArray, List.set_cons_zero, List.set_cons_succ]
        refine takeS (i := 6) (v := .int .i64 GV.c) rfl rfl (by kernel_rfl) (by kernel_rfl) (by kernel_rfl) (fun _ _ _ h => h) (Or.inl ⟨by rfl, fun U hU => by go_simp⟩) hS ?_
        try simp only [List.setIfInBounds_toArray, List.set_cons_zero, List.set_cons_succ]
        refine wpAnyH_ready (rs := [8]) (by kernel_rfl) (by simp) ?_
        refine AllReadyH.cons rfl (fun KQ hK => ?_) AllReadyH.nil
        rw [if_pos (by rfl)]
        have q0 := cell_of_row _ (q) 0 _ _ _ BXX.out
        have q1 := cell_of_row _ (q) 1 _ _ _ BXX.out
        have f0 := frozen_of_row _ (q) 0 _ _ BXX.out
        have f1 := frozen_of_row _ (q) 1 _ _ BXX.out
        go_simp
        have BY := Lib.hid (box_set (a := .int .u8 GV.t) (b := .slice a4 GV.n c4) BXX.out)
        have RY := Lib.hid (RS.out.setBoxQ (u1 := .int .u8 GV.t) (u2 := .slice a4 GV.n c4) NQ.out)
        have hSY := (hS.setCell (p := ⟨q, 0, none⟩) BQ.out (.int .u8 GV.t)).setCell (p := ⟨q, 1, none⟩) BQ.out (.slice a4 GV.n c4)
        refine hK.out _ _ hSY (fun hS => ?_)
        clear hK q0 q1 f0 f1
        refine takeS (i := 9) (v := .int .i64 GV.c) rfl rfl (by kernel_rfl) (by kernel_rfl) (by kernel_rfl) (fun _ _ _ h => h) (Or.inl ⟨by rfl, fun U hU => by go_simp⟩) hS ?_
        try simp only [List.setIfInBounds_toArray, List.set_cons_zero, List.set_cons_succ]
        refine wpAnyH_done (by kernel_rfl) ?_ _
        go_wp2_with fail
        go_meet
        exact ⟨_, rfl, q, a4, c4, rfl, rfl, BQ.out, BY.out, RY.out, NQ.out, hS⟩
    · rw [if_pos (by rfl)]
      go_simp
      have LA := (Below.refl (w5).heap.size (w5)).alloc (Nat.le_refl _) (.cells #[.int .u8 0, .slice none 0 0] 43)
      have BXX := Lib.hid (heap_alloc_last (w5) (.cells #[.int .u8 0, .slice none 0 0] 43))
      have BQ := Lib.hid (show w5.heap.size ≤ (w5).heap.size from hS.size)
      refine hK.out _ _ (hS.alloc hS.size _) (fun hS => ?_)
      clear hK LA
      obtain ⟨wA, hwA⟩ : ∃ wA, (w5).alloc (.cells #[.int .u8 0, .slice none 0 0] 43) = wA := ⟨_, rfl⟩
      rw [hwA] at BXX hS ⊢
      refine wpAnyH_ready (rs := [2]) (by kernel_rfl) (by simp) ?_
      refine AllReadyH.cons rfl (fun KQ hK => ?_) AllReadyH.nil
      rw [if_pos (by rfl)]
      go_simp
      refine (toKey_ key HKL.out _).mono ?_
      rintro e u6 ⟨rfl, hb⟩
      have BXX := Lib.hid ((hb.block (w5.heap.size) (Array.getElem?_eq_some_iff.1 BXX.out).1).trans BXX.out)
      refine hK.out _ _ (below_call hS hS.size hb) (fun hS => ?_)
      clear hb hK
      refine wpAnyH_ready (rs := [3]) (by kernel_rfl) (by simp) ?_
      refine AllReadyH.cons rfl (fun KQ hK => ?_) AllReadyH.nil
      rw [if_pos (by rfl)]
      go_simp
      have hsz7 := hS.size
      refine (hki.out g4 _ (O5.out.below hS)).mono ?_
      rintro e u7 ⟨v4, rfl, hO0, hb⟩
      obtain ⟨a4, c4, rfl, hR, hO⟩ := hO0.read
      have hlq := (Array.getElem?_eq_some_iff.1 BXX.out).1
      have NQ := Lib.hid (show GV.n = 0 ∨ ∃ b, a4 = some ⟨b, 0, none⟩ ∧ b ≠ w5.heap.size from hO.at_.imp id (fun ⟨b, h1, h2, _⟩ => ⟨b, h1, by omega⟩))
      clear hlq
      have BXX := Lib.hid ((hb.block (w5.heap.size) (Array.getElem?_eq_some_iff.1 BXX.out).1).trans BXX.out)
      have RS := Lib.hid (hO.mono hsz7)
      clear hR hO hO0
      refine hK.out _ _ (below_call hS hS.size hb) (fun hS => ?_)
      clear hb hK
      refine takeS (i := 4) (v := .tuple #[.agg #[.int .u8 GV.t, .slice a4 GV.n c4], .int .i64 GV.c]) rfl rfl (by kernel_rfl) (by kernel_rfl) (by kernel_rfl) (fun _ _ _ h => h) (Or.inl ⟨by rfl, fun U hU => by go_simp⟩) hS ?_
      try simp only [List.setIfInBounds_toArray, List.set_cons_zero, List.set_cons_succ]
      refine takeS (i := 5) (v := .agg #[.int .u8 GV.t, .slice a4 GV.n c4]) rfl rfl (by kernel_rfl) (by kernel_rfl) (by kernel_rfl) (fun _ _ _ h => h) (Or.inl ⟨by rfl, fun U hU => by go_simp⟩) hS ?_
      try simp only [List.setIfInBounds_toArray, List.set_cons_zero, List.set_cons_succ]
      refine takeS (i := 6) (v := .int .i64 GV.c) rfl rfl (by kernel_rfl) (by kernel_rfl) (by kernel_rfl) (fun _ _ _ h => h) (Or.inl ⟨by rfl, fun U hU => by go_simp⟩) hS ?_
      try simp only [List.setIfInBounds_toArray, List.set_cons_zero, List.set_cons_succ]
      refine wpAnyH_ready (rs := [8]) (by kernel_rfl) (by simp) ?_
      refine AllReadyH.cons rfl (fun KQ hK => ?_) AllReadyH.nil
      rw [if_pos (by rfl)]
      have q0 := cell_of_row _ (w5.heap.size) 0 _ _ _ BXX.out
      have q1 := cell_of_row _ (w5.heap.size) 1 _ _ _ BXX.out
      have f0 := frozen_of_row _ (w5.heap.size) 0 _ _ BXX.out
      have f1 := frozen_of_row _ (w5.heap.size) 1 _ _ BXX.out
      go_simp
      have BY := Lib.hid (box_set (a := .int .u8 GV.t) (b := .slice a4 GV.n c4) BXX.out)
      have RY := Lib.hid (RS.out.setBoxQ (u1 := .int .u8 GV.t) (u2 := .slice a4 GV.n c4) NQ.out)
      have hSY := (hS.setCell (p := ⟨w5.heap.size, 0, none⟩) BQ.out (.int .u8 GV.t)).setCell (p := ⟨w5.heap.size, 1, none⟩) BQ.out (.slice a4 GV.n c4)
      refine hK.out _ _ hSY (fun hS => ?_)
      clear hK q0 q1 f0 f1
      refine takeS (i := 9) (v := .int .i64 GV.c) rfl rfl (by kernel_rfl) (by kernel_rfl) (by kernel_rfl) (fun _ _ _ h => h) (Or.inl ⟨by rfl, fun U hU => by go_simp⟩) hS ?_
      try simp only [List.setIfInBounds_toArray, List.set_cons_zero, List.set_cons_succ]
      refine wpAnyH_done (by kernel_rfl) ?_ _
      go_wp2_with fail
      go_meet
      exact ⟨_, rfl, w5.heap.size, a4, c4, rfl, rfl, BQ.out, BY.out, RY.out, NQ.out, hS⟩
  obtain ⟨w6, rfl, q9, a7, c7, rfl, rfl, hq9, hBX, hRd, hNQ, hb⟩ := hcut
  have T6 := Lib.hid hBX
  have V6 := Lib.hid hRd
  have NQ := Lib.hid hNQ
  have B6 := Lib.hid (below_call B5.out B5.out.size hb)
  have C6 := Lib.hid (below_call C5.out C5.out.size hb)
  have O6 := Lib.hid (O5.out.below hb)
  have M6 := Lib.hid (M5.out.below hb)
  have X6 := Lib.hid (keep_block X5.out hb)
  have Z6 := Lib.hid (Nat.le_trans (Nat.le_of_lt Z5.out) hb.size)
  have S6 := Lib.hid (keep_block S5.out hb)
  have R6 := Lib.hid (R5.out.below hb)
  have F55 := Lib.hid C5.out.size
  have G55 := Lib.hid B5.out.size
  clear hb hBX hRd hNQ B5 C5 O5 M5 X5 S5 R5
  have q0 := cell_of_row _ q9 0 _ _ _ T6.out
  have q1 := cell_of_row _ q9 1 _ _ _ T6.out
  have p0 := cell_of_row _ q6 0 _ _ _ S6.out
  have p1 := cell_of_row _ q6 1 _ _ _ S6.out
  go_upto_region 8 with fail
  go_wp2_with fail
  clear q0 q1 p0 p1
  obtain ⟨a7x, c7x, hv7, hR7, -⟩ := V6.out.read
  cases hv7
  refine (eqBl GV.t a7 a4 GV.n c7 c4 GV.l HGN.out _ hR7 R6.out).mono ?_
  rintro e w7 ⟨rfl, hb⟩
  have T7 := Lib.hid (keep_block T6.out hb)
  have V7 := Lib.hid (V6.out.below hb)
  have B7 := Lib.hid (below_call B6.out B6.out.size hb)
  have C7 := Lib.hid (below_call C6.out C6.out.size hb)
  have O7 := Lib.hid (O6.out.below hb)
  have M7 := Lib.hid (M6.out.below hb)
  have X7 := Lib.hid (keep_block X6.out hb)
  have Z7 := Lib.hid (Nat.le_trans Z6.out hb.size)
  have S7 := Lib.hid (keep_block S6.out hb)
  have R7 := Lib.hid (R6.out.below hb)
  have E7 := Lib.hid (keep_block E3.out C7.out)
  have F7 := Lib.hid (keep_block F3.out C7.out)
  clear hb hR7 V6 R6 B6 C6 O6 M6 X6 Z6 S6 T6
  go_upto_region 10 with fail
  refine wp_region_held_drew (S := Below (w7).heap.size (w7)) (by kernel_rfl) ((Below.refl _ _).drew) (fun hS => ?_)
  refine takeS (i := 0) (v := .agg #[.slice (some ⟨g4, 0, none⟩) n n]) rfl rfl (by kernel_rfl) (by kernel_rfl) (by kernel_rfl) (fun _ _ _ h => h) (Or.inl ⟨by rfl, fun U hU => by have q0 := cell_of_row _ (x0) 0 _ _ _ (keep_block X7.out hU); go_simp⟩) hS ?_
  try simp only [List.setIfInBounds_toArray, List.set_cons_zero, List.set_cons_succ]
  refine takeS (i := 1) (v := .agg #[.slice a n ca]) rfl rfl (by kernel_rfl) (by kernel_rfl) (by kernel_rfl) (fun _ _ _ h => h) (Or.inl ⟨by rfl, fun U hU => by have q0 := cell_of_row _ (w.heap.size) 0 _ _ _ (keep_block E7.out hU); go_simp⟩) hS ?_
  try simp only [List.setIfInBounds_toArray, List.set_cons_zero, List.set_cons_succ]
  refine wpAnyH_ready (rs := [2]) (by kernel_rfl) (by simp) ?_
  refine AllReadyH.cons rfl (fun KQ hK => ?_) AllReadyH.nil
  rw [if_pos (by rfl)]
  go_simp
  refine (toSt a n ca bs (by omega) _ (HIA.out.below ((B7.out).trans (hS.mono (B7.out).size))) HNA.out).mono ?_
  rintro e u5 ⟨g5, rfl, ho, hb⟩
  have OA := Lib.hid ho
  have OB := Lib.hid (O7.out.below (below_call hS hS.size hb))
  refine hK.out _ _ (below_call hS hS.size hb) (fun hS => ?_)
  clear hb hK ho
  refine wpAnyH_ready (rs := [3]) (by kernel_rfl) (by simp) ?_
  refine AllReadyH.cons rfl (fun KQ hK => ?_) AllReadyH.nil
  rw [if_pos (by rfl)]
  go_simp
  refine (eqSt g4 g5 n bs (by omega) HLA.out HFA.out _ OB.out OA.out).mono ?_
  rintro e u6 ⟨rfl, hb⟩
  refine hK.out _ _ (below_call hS hS.size hb) (fun hS => ?_)
  clear hb hK OA OB
  refine takeS (i := 4) (v := .bool false) rfl rfl (by kernel_rfl) (by kernel_rfl) (by kernel_rfl) (fun _ _ _ h => h) (Or.inl ⟨by rfl, fun U hU => by go_simp⟩) hS ?_
  try simp only [List.setIfInBounds_toArray, List.set_cons_zero, List.set_cons_succ]
  refine wpAnyH_done (by kernel_rfl) ?_ _
  have T8 := Lib.hid (keep_block T7.out hS)
  have V8 := Lib.hid (V7.out.below hS)
  have B8 := Lib.hid (below_call B7.out B7.out.size hS)
  have C8 := Lib.hid (below_call C7.out C7.out.size hS)
  have M8 := Lib.hid (M7.out.below hS)
  have X8 := Lib.hid (keep_block X7.out hS)
  have Z8 := Lib.hid (Nat.le_trans Z7.out hS.size)
  have S8 := Lib.hid (keep_block S7.out hS)
  have R8 := Lib.hid (R7.out.below hS)
  clear hS T7 V7 B7 C7 M7 X7 Z7 S7 R7 E7 F7 O7
  have q0 := cell_of_row _ x0 0 _ _ _ X8.out
  go_upto_region 13 with fail
  go_wp2_with fail
  clear q0
  refine (markSt w3.heap.size x0 g4 n bs 1 (by omega) (by have := HSZ.out; omega) (by omega) HLA.out _ Z8.out M8.out).mono ?_
  rintro e w9 ⟨rfl, hk⟩
  have hkB : Below w3.heap.size u6 w9 := hk.below C8.out.size (fun k h => h.1)
  have V9 := Lib.hid (V8.out.keepX (fun k h => Nat.lt_trans h.2 Z5.out) hk)
  have T9 := Lib.hid (hk.hold (g := q9) (fun h => by have := Z5.out; omega) T8.out)
  have B9 := Lib.hid (B8.out.trans (hkB.mono B3.out.size))
  have C9 := Lib.hid (C8.out.trans hkB)
  have S9 := Lib.hid (keep_row_baseB S8.out (Array.getElem?_eq_some_iff.1 S3.out).1 hkB)
  have R9 := Lib.hid (R3.out.below C9.out)
  clear hk hkB V8 B8 C8 M8 X8 Z8 S8 R8 T8
  generalize hr2 : (1 : Int) + ((n + szS bs : Nat) : Int) = r2
  have r2n : ¬ r2 < 0 := by omega
  clear hr2
  have q0 := cell_of_row _ q9 0 _ _ _ T9.out
  have q1 := cell_of_row _ q9 1 _ _ _ T9.out
  have p0 := cell_of_row _ q6 0 _ _ _ S9.out
  have p1 := cell_of_row _ q6 1 _ _ _ S9.out
  go_upto_region 14 with fail
  go_wp2_with fail
  clear q0 q1 p0 p1
  obtain ⟨a7x, c7x, hv7, hR7, -⟩ := V9.out.read
  cases hv7
  refine (eqBl GV.t a7 a4 GV.n c7 c4 GV.l HGN.out _ hR7 R9.out).mono ?_
  rintro e w10 ⟨rfl, hb⟩
  have T10 := Lib.hid (keep_block T9.out hb)
  have V10 := Lib.hid (V9.out.below hb)
  have B10 := Lib.hid (below_call B9.out B9.out.size hb)
  have C10 := Lib.hid (below_call C9.out C9.out.size hb)
  have S10 := Lib.hid (keep_block S9.out hb)
  clear hb hR7 T9 V9 B9 C9 S9 R9
  have hmk := Lib.hid (fun W h => markBlK GV.t a7 GV.n c7 w5.heap.size GV.l 1 (by omega) (by omega) HGN.out W h)
  have hhd := Lib.hid (fun W h => heldBl GV.t a7 GV.n c7 1 (by omega) (by omega) HGN.out W h)
  generalize hm : (1 : Int) + (GV.n : Int) = m at hmk hhd
  have m0 : ¬ m < 0 := by omega
  clear hm
  have q0 := cell_of_row _ q9 0 _ _ _ T10.out
  have q1 := cell_of_row _ q9 1 _ _ _ T10.out
  go_upto_region 17 with fail
  go_wp2_with fail
  clear q0 q1
  refine (hmk.out _ V10.out).mono ?_
  rintro e w11 ⟨rfl, hO, hk⟩
  have hw5 : w5.heap.size ≤ w10.heap.size := by have := (Array.getElem?_eq_some_iff.1 T10.out).1; omega
  have hkB : Below w5.heap.size w10 w11 := hk.below hw5 (fun k ⟨hz, ha⟩ => by
    rcases V10.out.at_ with h0 | ⟨b, h1, h2, _⟩
    · exact absurd h0 hz
    · rw [ha] at h1
      cases h1
      exact h2)
  have T11 := Lib.hid (hk.hold (g := q9) (fun ⟨hz, ha⟩ => by
    rcases NQ.out with h0 | ⟨b, h1, h2⟩
    · exact hz h0
    · rw [ha] at h1
      cases h1
      exact h2 rfl) T10.out)
  obtain ⟨a7x, c7x, hv7, hR7, -⟩ := hO.read
  cases hv7
  have V11 := Lib.hid hR7
  have B11 := Lib.hid (B10.out.trans (hkB.mono G55.out))
  have C11 := Lib.hid (C10.out.trans (hkB.mono F55.out))
  have S11 := Lib.hid (keep_row_baseB S10.out (Nat.lt_of_lt_of_le (Array.getElem?_eq_some_iff.1 S3.out).1 F55.out) hkB)
  clear hk hkB hO hR7 T10 V10 B10 C10 S10 hmk
  have q0 := cell_of_row _ q9 0 _ _ _ T11.out
  have q1 := cell_of_row _ q9 1 _ _ _ T11.out
  go_upto_region 19 with fail
  go_wp2_with fail
  clear q0 q1
  refine (hhd.out _ V11.out).mono ?_
  rintro e w12 ⟨rfl, hb⟩
  have T12 := Lib.hid (keep_block T11.out hb)
  have V12 := Lib.hid (V11.out.below hb)
  have B12 := Lib.hid (below_call B11.out B11.out.size hb)
  have C12 := Lib.hid (below_call C11.out C11.out.size hb)
  have S12 := Lib.hid (keep_block S11.out hb)
  have E12 := Lib.hid (keep_block E3.out C12.out)
  have F12 := Lib.hid (keep_block F3.out C12.out)
  clear hb T11 V11 B11 C11 S11
  go_upto_region 24 with fail
  go_cut [14, 15] (fun s6 s7 wx => ∃ u8, u8 = wx ∧ ∃ (q : Nat) (a4 : Option Addr) (c4 : Nat), s6 = .pointer (some ⟨q, 0, none⟩) ∧ s7 = .int .i64 GV.c ∧ w12.heap.size ≤ q ∧ wx.heap[q]? = some (.cells #[.int .u8 GV.t, .slice a4 GV.n c4] 43) ∧ OwnB wx w12.heap.size (.slice a4 GV.n c4) GV.n GV.l ∧ (GV.n = 0 ∨ ∃ b, a4 = some ⟨b, 0, none⟩ ∧ b ≠ q) ∧ Below w12.heap.size w12 wx)
  case first =>
    refine wp_region_held_drew (S := Below w12.heap.size w12) (by kernel_rfl) ((Below.refl _ _).drew) (fun hS => ?_)
    refine takeS (i := 0) (v := .agg #[.slice a n ca]) rfl rfl (by kernel_rfl) (by kernel_rfl) (by kernel_rfl) (fun _ _ _ h => h) (Or.inl ⟨by rfl, fun U hU => by have q0 := cell_of_row _ w.heap.size 0 _ _ _ (keep_block E12.out hU); go_simp⟩) hS ?_
    try simp only [List.setIfInBounds_toArray, List.set_cons_zero, List.set_cons_succ]
    refine takeS (i := 2) (v := .agg (ints .u8 key)) rfl rfl (by kernel_rfl) (by kernel_rfl) (by kernel_rfl) (fun _ _ _ h => h) (yields_rowS (by rfl) 40 _ rfl (w.heap.size + 1) rfl (ints .u8 key) 40 _ (fun U hU => keep_block F12.out hU) Try.underlying40 rfl (by rw [ints_size, HKL.out]; exact sizeKeyL)) hS ?_
    try simp only [List.setIfInBounds_toArray, List.set_cons_zero, List.set_cons_succ]
    refine wpAnyH_ready (rs := [1, 8]) (by kernel_rfl) (by simp) ?_
    refine AllReadyH.cons rfl (fun KQ hK => ?_) (AllReadyH.cons rfl (fun KQ hK => ?_) AllReadyH.nil)
    · rw [if_pos (by rfl)]
      go_simp
      refine (toSt a n ca bs (by omega) _ (HIA.out.below ((B12.out).trans (hS.mono B12.out.size))) HNA.out).mono ?_
      rintro e u5 ⟨g5, rfl, ho, hb⟩
      have OS := Lib.hid ho
      clear ho
      refine hK.out _ _ (below_call hS hS.size hb) (fun hS => ?_)
      clear hb hK
      refine wpAnyH_ready (rs := [3, 8]) (by kernel_rfl) (by simp) ?_
      refine AllReadyH.cons rfl (fun KQ hK => ?_) (AllReadyH.cons rfl (fun KQ hK => ?_) AllReadyH.nil)
      · rw [if_pos (by rfl)]
        go_simp
        refine (toKey_ key HKL.out _).mono ?_
        rintro e u6 ⟨rfl, hb⟩
        have OS := Lib.hid (OS.out.below hb)
        refine hK.out _ _ (below_call hS hS.size hb) (fun hS => ?_)
        clear hb hK
        refine wpAnyH_ready (rs := [4, 8]) (by kernel_rfl) (by simp) ?_
        refine AllReadyH.cons rfl (fun KQ hK => ?_) (AllReadyH.cons rfl (fun KQ hK => ?_) AllReadyH.nil)
        · rw [if_pos (by rfl)]
          go_simp
          have hsz7 := hS.size
          refine (hki.out g5 _ OS.out).mono ?_
          rintro e u7 ⟨v4, rfl, hO0, hb⟩
          obtain ⟨a4, c4, rfl, hR, hO⟩ := hO0.read
          have NS := Lib.hid (show GV.n = 0 ∨ ∃ b, a4 = some ⟨b, 0, none⟩ ∧ True ∧ b < u7.heap.size from hO.at_.imp id (fun ⟨b, h1, _, h3⟩ => ⟨b, h1, trivial, h3⟩))
          have RS := Lib.hid (hO.mono hsz7)
          clear hR hO hO0
          refine hK.out _ _ (below_call hS hS.size hb) (fun hS => ?_)
          clear hb hK OS
          refine takeS (i := 5) (v := .tuple #[.agg #[.int .u8 GV.t, .slice a4 GV.n c4], .int .i64 GV.c]) rfl rfl (by kernel_rfl) (by kernel_rfl) (by kernel_rfl) (fun _ _ _ h => h) (Or.inl ⟨by rfl, fun U hU => by go_simp⟩) hS ?_
          try simp only [List.setIfInBounds_toArray, List.set_cons_zero, List.set_cons_succ]
          refine takeS (i := 6) (v := .agg #[.int .u8 GV.t, .slice a4 GV.n c4]) rfl rfl (by kernel_rfl) (by kernel_rfl) (by kernel_rfl) (fun _ _ _ h => h) (Or.inl ⟨by rfl, fun U hU => by go_simp⟩) hS ?_
          try simp only [List.setIfInBounds_toArray, List.set_cons_zero, List.set_cons_succ]
          refine takeS (i := 7) (v := .int .i64 GV.c) rfl rfl (by kernel_rfl) (by kernel_rfl) (by kernel_rfl) (fun _ _ _ h => h) (Or.inl ⟨by rfl, fun U hU => by go_simp⟩) hS ?_
          try simp only [List.setIfInBounds_toArray, List.set_cons_zero, List.set_cons_succ]
          refine wpAnyH_ready (rs := [8]) (by kernel_rfl) (by simp) ?_
          refine AllReadyH.cons rfl (fun KQ hK => ?_) AllReadyH.nil
          rw [if_pos (by rfl)]
          go_simp
          have LA := (Below.refl (u7).heap.size (u7)).alloc (Nat.le_refl _) (.cells #[.int .u8 0, .slice none 0 0] 43)
          have BXX := Lib.hid (heap_alloc_last (u7) (.cells #[.int .u8 0, .slice none 0 0] 43))
          have BQ := Lib.hid (show w12.heap.size ≤ (u7).heap.size from hS.size)
          have RS := Lib.hid (RS.out.below LA)
          have NQ := Lib.hid (show GV.n = 0 ∨ ∃ b, a4 = some ⟨b, 0, none⟩ ∧ b ≠ (u7).heap.size from NS.out.imp id (fun ⟨b, h1, h2, h3⟩ => ⟨b, h1, by omega⟩))
          refine hK.out _ _ (hS.alloc hS.size _) (fun hS => ?_)
          clear hK LA
          obtain ⟨q, hq⟩ : ∃ q, (u7).heap.size = q := ⟨_, rfl⟩
          obtain ⟨wA, hwA⟩ : ∃ wA, (u7).alloc (.cells #[.int .u8 0, .slice none 0 0] 43) = wA := ⟨_, rfl⟩
          rw [hq] at BXX BQ NQ ⊢
          rw [hwA] at BXX hS RS ⊢
          refine wpAnyH_ready (rs := [9]) (by kernel_rfl) (by simp) ?_
          refine AllReadyH.cons rfl (fun KQ hK => ?_) AllReadyH.nil
          rw [if_pos (by rfl)]
          have q0 := cell_of_row _ (q) 0 _ _ _ BXX.out
          have q1 := cell_of_row _ (q) 1 _ _ _ BXX.out
          have f0 := frozen_of_row _ (q) 0 _ _ BXX.out
          have f1 := frozen_of_row _ (q) 1 _ _ BXX.out
          go_simp
          have BY := Lib.hid (box_set (a := .int .u8 GV.t) (b := .slice a4 GV.n c4) BXX.out)
          have RY := Lib.hid (RS.out.setBoxQ (u1 := .int .u8 GV.t) (u2 := .slice a4 GV.n c4) NQ.out)
          have hSY := (hS.setCell (p := ⟨q, 0, none⟩) BQ.out (.int .u8 GV.t)).setCell (p := ⟨q, 1, none⟩) BQ.out (.slice a4 GV.n c4)
          refine hK.out _ _ hSY (fun hS => ?_)
          clear hK q0 q1 f0 f1
          refine takeS (i := 10) (v := .int .i64 GV.c) rfl rfl (by kernel_rfl) (by kernel_rfl) (by kernel_rfl) (fun _ _ _ h => h) (Or.inl ⟨by rfl, fun U hU => by go_simp⟩) hS ?_
          try simp only [List.setIfInBounds_toArray, List.set_cons_zero, List.set_cons_succ]
          refine wpAnyH_done (by kernel_rfl) ?_ _
          go_wp2_with fail
          go_meet
          exact ⟨_, rfl, q, a4, c4, rfl, rfl, BQ.out, BY.out, RY.out, NQ.out, hS⟩
        · rw [if_pos (by rfl)]
          go_simp
          have LA := (Below.refl (u6).heap.size (u6)).alloc (Nat.le_refl _) (.cells #[.int .u8 0, .slice none 0 0] 43)
          have BXX := Lib.hid (heap_alloc_last (u6) (.cells #[.int .u8 0, .slice none 0 0] 43))
          have BQ := Lib.hid (show w12.heap.size ≤ (u6).heap.size from hS.size)
          have OS := Lib.hid (OS.out.below LA)
          refine hK.out _ _ (hS.alloc hS.size _) (fun hS => ?_)
          clear hK LA
          obtain ⟨q, hq⟩ : ∃ q, (u6).heap.size = q := ⟨_, rfl⟩
          obtain ⟨wA, hwA⟩ : ∃ wA, (u6).alloc (.cells #[.int .u8 0, .slice none 0 0] 43) = wA := ⟨_, rfl⟩
          rw [hq] at BXX BQ ⊢
          rw [hwA] at BXX hS OS ⊢
          refine wpAnyH_ready (rs := [4]) (by kernel_rfl) (by simp) ?_
          refine AllReadyH.cons rfl (fun KQ hK => ?_) AllReadyH.nil
          rw [if_pos (by rfl)]
          go_simp
          have hsz7 := hS.size
          refine (hki.out g5 _ OS.out).mono ?_
          rintro e u7 ⟨v4, rfl, hO0, hb⟩
          obtain ⟨a4, c4, rfl, hR, hO⟩ := hO0.read
          have hlq := (Array.getElem?_eq_some_iff.1 BXX.out).1
          have NQ := Lib.hid (show GV.n = 0 ∨ ∃ b, a4 = some ⟨b, 0, none⟩ ∧ b ≠ q from hO.at_.imp id (fun ⟨b, h1, h2, _⟩ => ⟨b, h1, by omega⟩))
          clear hlq
          have BXX := Lib.hid ((hb.block (q) (Array.getElem?_eq_some_iff.1 BXX.out).1).trans BXX.out)
          have RS := Lib.hid (hO.mono hsz7)
          clear hR hO hO0
          refine hK.out _ _ (below_call hS hS.size hb) (fun hS => ?_)
          clear hb hK OS
          refine takeS (i := 5) (v := .tuple #[.agg #[.int .u8 GV.t, .slice a4 GV.n c4], .int .i64 GV.c]) rfl rfl (by kernel_rfl) (by kernel_rfl) (by kernel_rfl) (fun _ _ _ h => h) (Or.inl ⟨by rfl, fun U hU => by go_simp⟩) hS ?_
          try simp only [List.setIfInBounds_toArray, List.set_cons_zero, List.set_cons_succ]
          refine takeS (i := 6) (v := .agg #[.int .u8 GV.t, .slice a4 GV.n c4]) rfl rfl (by kernel_rfl) (by kernel_rfl) (by kernel_rfl) (fun _ _ _ h => h) (Or.inl ⟨by rfl, fun U hU => by go_simp⟩) hS ?_
          try simp only [List.setIfInBounds_toArray, List.set_cons_zero, List.set_cons_succ]
          refine takeS (i := 7) (v := .int .i64 GV.c) rfl rfl (by kernel_rfl) (by kernel_rfl) (by kernel_rfl) (fun _ _ _ h => h) (Or.inl ⟨by rfl, fun U hU => by go_simp⟩) hS ?_
          try simp only [List.setIfInBounds_toArray, List.set_cons_zero, List.set_cons_succ]
          refine wpAnyH_ready (rs := [9]) (by kernel_rfl) (by simp) ?_
          refine AllReadyH.cons rfl (fun KQ hK => ?_) AllReadyH.nil
          rw [if_pos (by rfl)]
          have q0 := cell_of_row _ (q) 0 _ _ _ BXX.out
          have q1 := cell_of_row _ (q) 1 _ _ _ BXX.out
          have f0 := frozen_of_row _ (q) 0 _ _ BXX.out
          have f1 := frozen_of_row _ (q) 1 _ _ BXX.out
          go_simp
          have BY := Lib.hid (box_set (a := .int .u8 GV.t) (b := .slice a4 GV.n c4) BXX.out)
          have RY := Lib.hid (RS.out.setBoxQ (u1 := .int .u8 GV.t) (u2 := .slice a4 GV.n c4) NQ.out)
          have hSY := (hS.setCell (p := ⟨q, 0, none⟩) BQ.out (.int .u8 GV.t)).setCell (p := ⟨q, 1, none⟩) BQ.out (.slice a4 GV.n c4)
          refine hK.out _ _ hSY (fun hS => ?_)
          clear hK q0 q1 f0 f1
          refine takeS (i := 10) (v := .int .i64 GV.c) rfl rfl (by kernel_rfl) (by kernel_rfl) (by kernel_rfl) (fun _ _ _ h => h) (Or.inl ⟨by rfl, fun U hU => by go_simp⟩) hS ?_
          try simp only [List.setIfInBounds_toArray, List.set_cons_zero, List.set_cons_succ]
          refine wpAnyH_done (by kernel_rfl) ?_ _
          go_wp2_with fail
          go_meet
          exact ⟨_, rfl, q, a4, c4, rfl, rfl, BQ.out, BY.out, RY.out, NQ.out, hS⟩
      · rw [if_pos (by rfl)]
        go_simp
        have LA := (Below.refl (u5).heap.size (u5)).alloc (Nat.le_refl _) (.cells #[.int .u8 0, .slice none 0 0] 43)
        have BXX := Lib.hid (heap_alloc_last (u5) (.cells #[.int .u8 0, .slice none 0 0] 43))
        have BQ := Lib.hid (show w12.heap.size ≤ (u5).heap.size from hS.size)
        have OS := Lib.hid (OS.out.below LA)
        refine hK.out _ _ (hS.alloc hS.size _) (fun hS => ?_)
        clear hK LA
        obtain ⟨q, hq⟩ : ∃ q, (u5).heap.size = q := ⟨_, rfl⟩
        obtain ⟨wA, hwA⟩ : ∃ wA, (u5).alloc (.cells #[.int .u8 0, .slice none 0 0] 43) = wA := ⟨_, rfl⟩
        rw [hq] at BXX BQ ⊢
        rw [hwA] at BXX hS OS ⊢
        refine wpAnyH_ready (rs := [3]) (by kernel_rfl) (by simp) ?_
        refine AllReadyH.cons rfl (fun KQ hK => ?_) AllReadyH.nil
        rw [if_pos (by rfl)]
        go_simp
        refine (toKey_ key HKL.out _).mono ?_
        rintro e u6 ⟨rfl, hb⟩
        have OS := Lib.hid (OS.out.below hb)
        have BXX := Lib.hid ((hb.block (q) (Array.getElem?_eq_some_iff.1 BXX.out).1).trans BXX.out)
        refine hK.out _ _ (below_call hS hS.size hb) (fun hS => ?_)
        clear hb hK
        refine wpAnyH_ready (rs := [4]) (by kernel_rfl) (by simp) ?_
        refine AllReadyH.cons rfl (fun KQ hK => ?_) AllReadyH.nil
        rw [if_pos (by rfl)]
        go_simp
        have hsz7 := hS.size
        refine (hki.out g5 _ OS.out).mono ?_
        rintro e u7 ⟨v4, rfl, hO0, hb⟩
        obtain ⟨a4, c4, rfl, hR, hO⟩ := hO0.read
        have hlq := (Array.getElem?_eq_some_iff.1 BXX.out).1
        have NQ := Lib.hid (show GV.n = 0 ∨ ∃ b, a4 = some ⟨b, 0, none⟩ ∧ b ≠ q from hO.at_.imp id (fun ⟨b, h1, h2, _⟩ => ⟨b, h1, by omega⟩))
        clear hlq
        have BXX := Lib.hid ((hb.block (q) (Array.getElem?_eq_some_iff.1 BXX.out).1).trans BXX.out)
        have RS := Lib.hid (hO.mono hsz7)
        clear hR hO hO0
        refine hK.out _ _ (below_call hS hS.size hb) (fun hS => ?_)
        clear hb hK OS
        refine takeS (i := 5) (v := .tuple #[.agg #[.int .u8 GV.t, .slice a4 GV.n c4], .int .i64 GV.c]) rfl rfl (by kernel_rfl) (by kernel_rfl) (by kernel_rfl) (fun _ _ _ h => h) (Or.inl ⟨by rfl, fun U hU => by go_simp⟩) hS ?_
        try simp only [List.setIfInBounds_toArray, List.set_cons_zero, List.set_cons_succ]
        refine takeS (i := 6) (v := .agg #[.int .u8 GV.t, .slice a4 GV.n c4]) rfl rfl (by kernel_rfl) (by kernel_rfl) (by kernel_rfl) (fun _ _ _ h => h) (Or.inl ⟨by rfl, fun U hU => by go_simp⟩) hS ?_
        try simp only [List.setIfInBounds_toArray, List.set_cons_zero, List.set_cons_succ]
        refine takeS (i := 7) (v := .int .i64 GV.c) rfl rfl (by kernel_rfl) (by kernel_rfl) (by kernel_rfl) (fun _ _ _ h => h) (Or.inl ⟨by rfl, fun U hU => by go_simp⟩) hS ?_
        try simp only [List.setIfInBounds_toArray, List.set_cons_zero, List.set_cons_succ]
        refine wpAnyH_ready (rs := [9]) (by kernel_rfl) (by simp) ?_
        refine AllReadyH.cons rfl (fun KQ hK => ?_) AllReadyH.nil
        rw [if_pos (by rfl)]
        have q0 := cell_of_row _ (q) 0 _ _ _ BXX.out
        have q1 := cell_of_row _ (q) 1 _ _ _ BXX.out
        have f0 := frozen_of_row _ (q) 0 _ _ BXX.out
        have f1 := frozen_of_row _ (q) 1 _ _ BXX.out
        go_simp
        have BY := Lib.hid (box_set (a := .int .u8 GV.t) (b := .slice a4 GV.n c4) BXX.out)
        have RY := Lib.hid (RS.out.setBoxQ (u1 := .int .u8 GV.t) (u2 := .slice a4 GV.n c4) NQ.out)
        have hSY := (hS.setCell (p := ⟨q, 0, none⟩) BQ.out (.int .u8 GV.t)).setCell (p := ⟨q, 1, none⟩) BQ.out (.slice a4 GV.n c4)
        refine hK.out _ _ hSY (fun hS => ?_)
        clear hK q0 q1 f0 f1
        refine takeS (i := 10) (v := .int .i64 GV.c) rfl rfl (by kernel_rfl) (by kernel_rfl) (by kernel_rfl) (fun _ _ _ h => h) (Or.inl ⟨by rfl, fun U hU => by go_simp⟩) hS ?_
        try simp only [List.setIfInBounds_toArray, List.set_cons_zero, List.set_cons_succ]
        refine wpAnyH_done (by kernel_rfl) ?_ _
        go_wp2_with fail
        go_meet
        exact ⟨_, rfl, q, a4, c4, rfl, rfl, BQ.out, BY.out, RY.out, NQ.out, hS⟩
    · rw [if_pos (by rfl)]
      go_simp
      have LA := (Below.refl (w12).heap.size (w12)).alloc (Nat.le_refl _) (.cells #[.int .u8 0, .slice none 0 0] 43)
      have BXX := Lib.hid (heap_alloc_last (w12) (.cells #[.int .u8 0, .slice none 0 0] 43))
      have BQ := Lib.hid (show w12.heap.size ≤ (w12).heap.size from hS.size)
      refine hK.out _ _ (hS.alloc hS.size _) (fun hS => ?_)
      clear hK LA
      obtain ⟨wA, hwA⟩ : ∃ wA, (w12).alloc (.cells #[.int .u8 0, .slice none 0 0] 43) = wA := ⟨_, rfl⟩
      rw [hwA] at BXX hS ⊢
      refine wpAnyH_ready (rs := [1]) (by kernel_rfl) (by simp) ?_
      refine AllReadyH.cons rfl (fun KQ hK => ?_) AllReadyH.nil
      rw [if_pos (by rfl)]
      go_simp
      refine (toSt a n ca bs (by omega) _ (HIA.out.below ((B12.out).trans (hS.mono B12.out.size))) HNA.out).mono ?_
      rintro e u5 ⟨g5, rfl, ho, hb⟩
      have BXX := Lib.hid ((hb.block (w12.heap.size) (Array.getElem?_eq_some_iff.1 BXX.out).1).trans BXX.out)
      have OS := Lib.hid ho
      clear ho
      refine hK.out _ _ (below_call hS hS.size hb) (fun hS => ?_)
      clear hb hK
      refine wpAnyH_ready (rs := [3]) (by kernel_rfl) (by simp) ?_
      refine AllReadyH.cons rfl (fun KQ hK => ?_) AllReadyH.nil
      rw [if_pos (by rfl)]
      go_simp
      refine (toKey_ key HKL.out _).mono ?_
      rintro e u6 ⟨rfl, hb⟩
      have OS := Lib.hid (OS.out.below hb)
      have BXX := Lib.hid ((hb.block (w12.heap.size) (Array.getElem?_eq_some_iff.1 BXX.out).1).trans BXX.out)
      refine hK.out _ _ (below_call hS hS.size hb) (fun hS => ?_)
      clear hb hK
      refine wpAnyH_ready (rs := [4]) (by kernel_rfl) (by simp) ?_
      refine AllReadyH.cons rfl (fun KQ hK => ?_) AllReadyH.nil
      rw [if_pos (by rfl)]
      go_simp
      have hsz7 := hS.size
      refine (hki.out g5 _ OS.out).mono ?_
      rintro e u7 ⟨v4, rfl, hO0, hb⟩
      obtain ⟨a4, c4, rfl, hR, hO⟩ := hO0.read
      have hlq := (Array.getElem?_eq_some_iff.1 BXX.out).1
      have NQ := Lib.hid (show GV.n = 0 ∨ ∃ b, a4 = some ⟨b, 0, none⟩ ∧ b ≠ w12.heap.size from hO.at_.imp id (fun ⟨b, h1, h2, _⟩ => ⟨b, h1, by omega⟩))
      clear hlq
      have BXX := Lib.hid ((hb.block (w12.heap.size) (Array.getElem?_eq_some_iff.1 BXX.out).1).trans BXX.out)
      have RS := Lib.hid (hO.mono hsz7)
      clear hR hO hO0
      refine hK.out _ _ (below_call hS hS.size hb) (fun hS => ?_)
      clear hb hK OS
      refine takeS (i := 5) (v := .tuple #[.agg #[.int .u8 GV.t, .slice a4 GV.n c4], .int .i64 GV.c]) rfl rfl (by kernel_rfl) (by kernel_rfl) (by kernel_rfl) (fun _ _ _ h => h) (Or.inl ⟨by rfl, fun U hU => by go_simp⟩) hS ?_
      try simp only [List.setIfInBounds_toArray, List.set_cons_zero, List.set_cons_succ]
      refine takeS (i := 6) (v := .agg #[.int .u8 GV.t, .slice a4 GV.n c4]) rfl rfl (by kernel_rfl) (by kernel_rfl) (by kernel_rfl) (fun _ _ _ h => h) (Or.inl ⟨by rfl, fun U hU => by go_simp⟩) hS ?_
      try simp only [List.setIfInBounds_toArray, List.set_cons_zero, List.set_cons_succ]
      refine takeS (i := 7) (v := .int .i64 GV.c) rfl rfl (by kernel_rfl) (by kernel_rfl) (by kernel_rfl) (fun _ _ _ h => h) (Or.inl ⟨by rfl, fun U hU => by go_simp⟩) hS ?_
      try simp only [List.setIfInBounds_toArray, List.set_cons_zero, List.set_cons_succ]
      refine wpAnyH_ready (rs := [9]) (by kernel_rfl) (by simp) ?_
      refine AllReadyH.cons rfl (fun KQ hK => ?_) AllReadyH.nil
      rw [if_pos (by rfl)]
      have q0 := cell_of_row _ (w12.heap.size) 0 _ _ _ BXX.out
      have q1 := cell_of_row _ (w12.heap.size) 1 _ _ _ BXX.out
      have f0 := frozen_of_row _ (w12.heap.size) 0 _ _ BXX.out
      have f1 := frozen_of_row _ (w12.heap.size) 1 _ _ BXX.out
      go_simp
      have BY := Lib.hid (box_set (a := .int .u8 GV.t) (b := .slice a4 GV.n c4) BXX.out)
      have RY := Lib.hid (RS.out.setBoxQ (u1 := .int .u8 GV.t) (u2 := .slice a4 GV.n c4) NQ.out)
      have hSY := (hS.setCell (p := ⟨w12.heap.size, 0, none⟩) BQ.out (.int .u8 GV.t)).setCell (p := ⟨w12.heap.size, 1, none⟩) BQ.out (.slice a4 GV.n c4)
      refine hK.out _ _ hSY (fun hS => ?_)
      clear hK q0 q1 f0 f1
      refine takeS (i := 10) (v := .int .i64 GV.c) rfl rfl (by kernel_rfl) (by kernel_rfl) (by kernel_rfl) (fun _ _ _ h => h) (Or.inl ⟨by rfl, fun U hU => by go_simp⟩) hS ?_
      try simp only [List.setIfInBounds_toArray, List.set_cons_zero, List.set_cons_succ]
      refine wpAnyH_done (by kernel_rfl) ?_ _
      go_wp2_with fail
      go_meet
      exact ⟨_, rfl, w12.heap.size, a4, c4, rfl, rfl, BQ.out, BY.out, RY.out, NQ.out, hS⟩
  obtain ⟨w13, rfl, q14, a14, c14, rfl, rfl, hq14, hBX, hRd, -, hb⟩ := hcut
  have T13 := Lib.hid (keep_block T12.out hb)
  have V13 := Lib.hid (V12.out.below hb)
  have B13 := Lib.hid (below_call B12.out B12.out.size hb)
  have C13 := Lib.hid (below_call C12.out C12.out.size hb)
  have S13 := Lib.hid (keep_block S12.out hb)
  obtain ⟨a7x, c7x, hv7, hR7, -⟩ := hRd.read
  cases hv7
  have q0 := cell_of_row _ q14 0 _ _ _ hBX
  have q1 := cell_of_row _ q14 1 _ _ _ hBX
  have p0 := cell_of_row _ q6 0 _ _ _ S13.out
  have p1 := cell_of_row _ q6 1 _ _ _ S13.out
  clear hb hBX hRd
  go_upto_region 25 with fail
  go_wp2_with fail
  clear q0 q1 p0 p1
  refine (eqBl GV.t a14 a4 GV.n c14 c4 GV.l HGN.out _ hR7 (R3.out.below C13.out)).mono ?_
  rintro e w14 ⟨rfl, hb⟩
  have T14 := Lib.hid (keep_block T13.out hb)
  have V14 := Lib.hid (V13.out.below hb)
  have B14 := Lib.hid (below_call B13.out B13.out.size hb)
  have q0 := cell_of_row _ q9 0 _ _ _ T14.out
  have q1 := cell_of_row _ q9 1 _ _ _ T14.out
  clear hb hR7 T13 V13 B13 C13 S13
  go_upto_region 28 with fail
  go_wp2_with fail
  clear q0 q1
  refine (hhd.out _ V14.out).mono ?_
  rintro e w15 ⟨rfl, hb⟩
  have B15 := Lib.hid (below_call B14.out B14.out.size hb)
  go_wp2_with fail
  go_ret
  exact ⟨rfl, B15.out⟩
theorem FnExactGetBlob_walk (a : Option Addr) (n ca : Nat) (bs : List BlV) (key : List Int) (w : World) (hA : IsBls w a n bs) (hkl : key.length = 32) (hkf : ∀ z ∈ key, 0 ≤ z ∧ z ≤ 255) :
    Calls Try.prog 6 #[.agg #[.slice a n ca], .agg (ints .u8 key)] w fun e w' => e = .returned (.bool true) ∧ Below w.heap.size w w' := FnExactGetBlob_in a n ca bs key w hA hkl hkf
end Go.Proofs.Ytabepfdononppaa
