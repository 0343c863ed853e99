/- The key of peaks: the program. Written by wip/gen/peaki.py. -/
import Derived.Test.YtfnmmpnmbommeaaPeakS
namespace Go.Proofs.Ytfnmmpnmbommeaa
open Go.ChangeShapes Go.WideShapes Go.ChangeAt Go.RowKit
set_option linter.unusedVariables false
/-- What is popped of n keys. -/
def popV (fl : List Int) (n : Nat) : List Int := if n = 0 then z32 else keyAt fl (n - 1)
theorem popV_len {fl : List Int} {n m : Nat} (h : fl.length = 32 * m) (hn : n ≤ m) : (popV fl n).length = 32 := by
  unfold popV
  split
  · rfl
  · exact keyAt_len h (by omega)
theorem popV_range {fl : List Int} (fb : ∀ z ∈ fl, 0 ≤ z ∧ z ≤ 255) (n : Nat) : ∀ z ∈ popV fl n, 0 ≤ z ∧ z ≤ 255 := by
  unfold popV
  split
  · intro z hz
    rw [List.eq_of_mem_replicate hz]
    omega
  · exact keyAt_range fb _
theorem pop_any (g n : Nat) (fl : List Int) (hn : n ≤ 1048576) (w : World) (hs : Stk g n fl w) :
    Calls Try.prog 60 #[.pointer (some ⟨g, 0, none⟩)] w fun e w' => e = .returned (.tuple #[.agg (ints .u8 (popV fl n)), .bool (decide (0 < n))]) ∧ Stk g (n - 1) fl w' ∧ Keep w.heap.size (· = g) w w' := by
  by_cases h0 : n = 0
  · subst h0
    refine (pop_none g fl w hs).mono fun e w' ⟨he, hb⟩ => ⟨by rw [he]; rfl, hs.below hb, Keep.of _ hb⟩
  · refine (pop_some g n fl (by omega) hn w hs).mono fun e w' ⟨he, h1, h2⟩ => ⟨?_, h1, h2⟩
    have hp : popV fl n = keyAt fl (n - 1) := by unfold popV; rw [if_neg h0]
    have hd : decide (0 < n) = true := decide_eq_true (by omega)
    rw [he, hp, hd]
set_option maxRecDepth 100000 in
set_option maxHeartbeats 4000000 in
theorem kop_zero (a : Option Addr) (cap : Nat) (w : World) (hr : RdK w a 0 []) :
    Calls Try.prog 21 #[.slice a 0 cap, .int .i64 0] w fun x w' => x = .returned (.tuple #[.agg (ints .u8 (hashK 3 [])), .int .i64 0]) ∧ Below w.heap.size w w' := by
  have Hz := Lib.hid z32_ints
  have hg0 : gcode 0 0 256 = 0 := by decide +kernel
  have hgi := fun W => check_impl a 0 cap 0 256 (by omega) (by omega) (by omega) W
  rw [hg0] at hgi
  have Hg := Lib.hid hgi
  clear hgi hg0
  have Hvl := Lib.hid (hashK_len 3 [])
  have BW := Lib.hid ((Below.refl w.heap.size w).alloc (Nat.le_refl _) (.cells (ints .u8 z32) 29))
  have GK := Lib.hid (heap_alloc_last w (.cells (ints .u8 z32) 29))
  obtain ⟨W0, hW0⟩ : ∃ W0, w.alloc (.cells (ints .u8 z32) 29) = W0 := ⟨_, rfl⟩
  rw [hW0] at BW GK
  have Hs := Lib.hid (stackof_impl a 0 cap [] (by omega) W0 (hr.below BW.out))
  have hli := fun W => listkey_impl none 0 0 [] (by omega) (by simp) W ⟨rfl, Or.inl rfl⟩
  have e1 : lkeyV [] 0 = hashK 3 [] := by unfold lkeyV; rw [if_neg (by omega), if_pos rfl]
  have e2 : lkeyE 0 = 0 := by unfold lkeyE; rw [if_neg (by omega)]
  rw [e1, e2] at hli
  have Hl := Lib.hid hli
  clear hli e1 e2 hr
  generalize hashK 3 [] = V at Hl Hvl ⊢
  rw [Hz.out] at hW0
  go_enter Try.func21, Try.ntmps21
  go_wp2_with fail
  refine (Hg.out _).mono ?_
  rintro x w0 ⟨rfl, rfl⟩
  clear hW0
  go_wp2_with fail
  refine Hs.out.mono ?_
  rintro x w1 ⟨g, rfl, hs1, hg1, hg2, hb1⟩
  have S1 := Lib.hid hs1
  have B1 := Lib.hid (below_call BW.out BW.out.size hb1)
  have G1 := Lib.hid (keep_block GK.out hb1)
  clear hs1 hb1 hg1 hg2
  go_wp2_with fail
  refine (pop_none g [] _ S1.out).mono ?_
  rintro x w2 ⟨rfl, hb2⟩
  have B2 := Lib.hid (below_call B1.out B1.out.size hb2)
  have G2 := Lib.hid (keep_block G1.out hb2)
  clear hb2
  have B3 := Lib.hid (below_call B2.out B2.out.size (laid_below w2 (ints .u8 z32) (ints .u8 z32) 29))
  have G3 := Lib.hid (laid_old (ints .u8 z32) (ints .u8 z32) 29 G2.out)
  go_wp2_with (refine wpList_store_row rfl 29 (.tmp 8) _ rfl w2.heap.size (ints .u8 z32) rfl rfl 29 (ints .u8 z32) (by rw [Hz.out]; exact heap_alloc_last _ _) (by kernel_rfl) rfl (ints_one _ _) ?_)
  rw [← Hz.out]
  generalize (w2.alloc (.cells (ints .u8 z32) 29)).setRow w2.heap.size (ints .u8 z32) = W3 at B3 G3 ⊢
  refine (Hl.out _).mono ?_
  rintro x w4 ⟨rfl, hb⟩
  have G4 := Lib.hid (keep_block G3.out hb)
  have B4 := Lib.hid (below_call B3.out B3.out.size hb)
  clear hb
  go_wp2_with (refine wpList_store_row rfl 29 _ _ rfl w.heap.size (ints .u8 V) rfl rfl 29 (ints .u8 z32) G4.out (by rw [ints_size, Hvl.out]; exact sizeKey) (by rw [ints_size, ints_size, Hvl.out]; rfl) (ints_one _ _) ?_)
  refine bodyPost_ret (results_cell2_row rfl _ _ w.heap.size 29 (ints .u8 V) (0, 0) _ rfl (setRow_heap _ _ (ints .u8 z32) _ _ _ G4.out) Try.underlying29 rfl (by rw [ints_size, Hvl.out]; exact sizeKey)) rfl ⟨rfl, ?_⟩
  exact Below.setRow B4.out (Nat.le_refl _) _
/-- How many keys a stack has, as its slice tells. -/
def stkN (W : World) (g : Nat) : Nat := match W.heap[g]? with
  | some (Obj.cells cs _ _) => (match cs[0]? with | some (Value.slice _ n _) => n | _ => 0)
  | _ => 0
theorem Stk.count {g n : Nat} {fl : List Int} {W : World} (h : Stk g n fl W) : stkN W g = n := by
  obtain ⟨a, cap, h1, _⟩ := h
  unfold stkN
  rw [h1]
  rfl
def boolN : Value → Nat
  | .bool true => 1
  | _ => 0
set_option maxRecDepth 100000 in
set_option maxHeartbeats 8000000 in
theorem kop_many (a : Option Addr) (l cap : Nat) (n : Int) (fl : List Int) (h0 : 0 < l) (hl : l ≤ 1048576) (hc : gcode l n 256 = 0) (fb : ∀ z ∈ fl, 0 ≤ z ∧ z ≤ 255) (w : World) (hr : RdK w a l fl) :
    Calls Try.prog 21 #[.slice a l cap, .int .i64 n] w fun x w' => x = .returned (.tuple #[.agg (ints .u8 (ofR fl l (l - 1))), .int .i64 0]) ∧ Below w.heap.size w w' := by
  have Hz := Lib.hid z32_ints
  have hgi := fun W => check_impl a l cap n 256 hl (by omega) (by omega) W
  rw [hc] at hgi
  have Hg := Lib.hid hgi
  clear hgi hc
  have HGD := Lib.hid (ofR_good hr.1 fb h0)
  have HLN := Lib.hid hr.1
  have HFB := Lib.hid fb
  have BW := Lib.hid ((Below.refl w.heap.size w).alloc (Nat.le_refl _) (.cells (ints .u8 z32) 29))
  have GK := Lib.hid (heap_alloc_last w (.cells (ints .u8 z32) 29))
  obtain ⟨W0, hW0⟩ : ∃ W0, w.alloc (.cells (ints .u8 z32) 29) = W0 := ⟨_, rfl⟩
  rw [hW0] at BW GK
  have HSZ : Hid (W0.heap.size = w.heap.size + 1) := Lib.hid (by rw [← hW0]; simp)
  have Hs := Lib.hid (stackof_impl a l cap fl hl W0 (hr.below BW.out))
  have Hp1 := Lib.hid (popV_len hr.1 (Nat.le_refl l))
  have Hp2 := Lib.hid (popV_len hr.1 (show l - 1 ≤ l by omega))
  have HO0 : Hid (ofR fl l 0 = popV fl l) := Lib.hid (by unfold popV; rw [if_neg (by omega)]; rfl)
  have HQ : Hid (∀ d, d < l - 1 → ofR fl l (d + 1) = nodeK (popV fl (l - 1 - d)) (ofR fl l d)) := Lib.hid (by
    intro d hd
    unfold popV
    rw [if_neg (by omega), show l - 1 - d - 1 = l - 2 - d by omega]
    rfl)
  have HPL := Lib.hid (fun d => popV_len (n := l - 1 - d) hr.1 (by omega))
  have HPR := Lib.hid (fun d => popV_range fb (l - 1 - d))
  clear hr fb
  generalize hP1 : popV fl l = P1 at Hp1 HO0
  have HP1 := Lib.hid hP1
  generalize hP2 : popV fl (l - 1) = P2 at Hp2
  have HP2 := Lib.hid hP2
  clear hP1 hP2
  rw [Hz.out] at hW0
  go_enter Try.func21, Try.ntmps21
  go_wp2_with fail
  refine (Hg.out _).mono ?_
  rintro x w0 ⟨rfl, rfl⟩
  clear hW0
  go_wp2_with fail
  refine Hs.out.mono ?_
  rintro x w1 ⟨g, rfl, hs1, hg1, hg2, hb1⟩
  have S1 := Lib.hid hs1
  have HG1 := Lib.hid hg1
  have HG2 := Lib.hid hg2
  have B1 := Lib.hid (below_call BW.out BW.out.size hb1)
  have G1 := Lib.hid (keep_block GK.out hb1)
  clear hs1 hb1 hg1 hg2
  go_wp2_with fail
  refine (pop_any g l fl hl _ S1.out).mono ?_
  rintro x w2 ⟨rfl, hs2, hk2⟩
  rw [show decide (0 < l) = true from decide_eq_true h0, HP1.out]
  have S2 := Lib.hid hs2
  have K2 := Lib.hid hk2
  have B2 := Lib.hid (B1.out.trans (hk2.below B1.out.size (fun k e => by have := HG1.out; have := BW.out.size; omega)))
  have G2 := Lib.hid (hk2.hold (g := w.heap.size) (fun e => by have := HG1.out; have := HSZ.out; omega) G1.out)
  clear hs2 hk2
  have B3 := Lib.hid (below_call B2.out B2.out.size (laid_below w2 (ints .u8 z32) (ints .u8 P1) 29))
  have G3 := Lib.hid (laid_old (ints .u8 z32) (ints .u8 P1) 29 G2.out)
  have N3 := Lib.hid (laid_new w2 (ints .u8 z32) (ints .u8 P1) 29)
  have S3 := Lib.hid (S2.out.below (laid_below w2 (ints .u8 z32) (ints .u8 P1) 29))
  have HV3 : Hid (g < w2.heap.size) := Lib.hid (by have := K2.out.size; have := HG2.out; omega)
  go_wp2_with (refine wpList_store_row rfl 29 (.tmp 8) _ rfl w2.heap.size (ints .u8 P1) rfl rfl 29 (ints .u8 z32) (by rw [Hz.out]; exact heap_alloc_last _ _) (by rw [ints_size, Hp1.out]; exact sizeKey) (by rw [ints_size, ints_size, Hp1.out]; rfl) (ints_one _ _) ?_)
  rw [← Hz.out]
  generalize (w2.alloc (.cells (ints .u8 z32) 29)).setRow w2.heap.size (ints .u8 P1) = W3 at B3 G3 N3 S3 ⊢
  generalize hkb : w2.heap.size = kb at N3 HV3 ⊢
  clear hkb
  refine (pop_any g (l - 1) fl (by omega) _ S3.out).mono ?_
  rintro x w4 ⟨rfl, hs4, hk4⟩
  rw [HP2.out]
  have S4 := Lib.hid hs4
  have K4 := Lib.hid hk4
  have B4 := Lib.hid (B3.out.trans (hk4.below B3.out.size (fun k e => by have := HG1.out; have := BW.out.size; omega)))
  have G4 := Lib.hid (hk4.hold (g := w.heap.size) (fun e => by have := HG1.out; have := HSZ.out; omega) G3.out)
  have N4 := Lib.hid (hk4.hold (g := kb) (fun e => by have := HV3.out; omega) N3.out)
  clear hs4 hk4
  have B5 := Lib.hid (below_call B4.out B4.out.size (laid_below w4 (ints .u8 z32) (ints .u8 P2) 29))
  have G5 := Lib.hid (laid_old (ints .u8 z32) (ints .u8 P2) 29 G4.out)
  have N5 := Lib.hid (laid_old (ints .u8 z32) (ints .u8 P2) 29 N4.out)
  have M5 := Lib.hid (laid_new w4 (ints .u8 z32) (ints .u8 P2) 29)
  have S5 := Lib.hid (S4.out.below (laid_below w4 (ints .u8 z32) (ints .u8 P2) 29))
  have HW4 : Hid (kb < w4.heap.size) := Lib.hid (Array.getElem?_eq_some_iff.1 N4.out).1
  go_wp2_with (refine wpList_store_row rfl 29 (.tmp 10) _ rfl w4.heap.size (ints .u8 P2) rfl rfl 29 (ints .u8 z32) (by rw [Hz.out]; exact heap_alloc_last _ _) (by rw [ints_size, Hp2.out]; exact sizeKey) (by rw [ints_size, ints_size, Hp2.out]; rfl) (ints_one _ _) ?_)
  rw [← Hz.out]
  generalize (w4.alloc (.cells (ints .u8 z32) 29)).setRow w4.heap.size (ints .u8 P2) = W5 at B5 G5 N5 M5 S5 ⊢
  generalize w4.heap.size = pb at M5 HW4 ⊢
  go_loopw [10, 11] (fun pv mv wr => ∃ d p : Nat, d ≤ l - 1 ∧ pv = .pointer (some ⟨p, 0, none⟩) ∧ mv = .bool (decide (0 < l - 1 - d)) ∧ kb < p ∧ Below w.heap.size w wr ∧ wr.heap[w.heap.size]? = some (.cells (ints .u8 z32) 29) ∧ wr.heap[kb]? = some (.cells (ints .u8 (ofR fl l d)) 29) ∧ wr.heap[p]? = some (.cells (ints .u8 (popV fl (l - 1 - d))) 29) ∧ Stk g (l - 1 - d - 1) fl wr) (fun _ mv wr => stkN wr g + boolN mv)
  case atStart => exact ⟨0, pb, by omega, rfl, by simp, HW4.out, B5.out, G5.out, by rw [HO0.out]; exact N5.out, by rw [Nat.sub_zero, HP2.out]; exact M5.out, S5.out⟩
  case round =>
    obtain ⟨d, p, hd, rfl, rfl, hkp, hB, hG, hN, hM, hS⟩ := hrel
    have HB := Lib.hid hB
    have HGr := Lib.hid hG
    have HN := Lib.hid hN
    have HM := Lib.hid hM
    have HS := Lib.hid hS
    have HKP := Lib.hid hkp
    have HWK : Hid (w.heap.size < kb) := Lib.hid (by have := HV3.out; have := HG1.out; have := HSZ.out; omega)
    have HGK := Lib.hid HV3.out
    clear hB hG hN hM hS hkp
    by_cases hlt : d < l - 1
    · have hm : decide (0 < l - 1 - d) = true := decide_eq_true (by omega)
      rw [hm]
      have HQd := Lib.hid (HQ.out d hlt)
      have HkV := Lib.hid (HGD.out d).1
      have HkP := Lib.hid (HPL.out d)
      have Hnode := Lib.hid (fun W => node_impl (popV fl (l - 1 - d)) (ofR fl l d) (HPL.out d) (HPR.out d) (HGD.out d).1 (HGD.out d).2 W)
      have HkQ := Lib.hid (nodeK_len (popV fl (l - 1 - d)) (ofR fl l d))
      have HSN := Lib.hid HS.out.count
      have HPL1 := Lib.hid (HPL.out (d + 1))
      rw [show l - 1 - (d + 1) = l - 1 - d - 1 by omega] at HPL1
      clear hm
      generalize popV fl (l - 1 - d) = P at HQd HkP HM Hnode HkQ
      generalize ofR fl l d = V at HQd HkV HN Hnode HkQ
      generalize nodeK P V = Q at HQd Hnode HkQ
      generalize hR : popV fl (l - 1 - d - 1) = R at HPL1
      have HR := Lib.hid hR
      clear hR
      go_wp2_with (first | (refine wpList_load_row rfl 29 (.tmp 10) rfl (p) rfl 29 (ints .u8 P) (0, 0) _ HM.out Try.underlying29 rfl (by rw [ints_size, HkP.out]; exact sizeKey) ?_) | (refine wpList_load_row rfl 29 (.tmp 8) rfl (kb) rfl 29 (ints .u8 V) (0, 0) _ HN.out Try.underlying29 rfl (by rw [ints_size, HkV.out]; exact sizeKey) ?_))
      refine (Hnode.out _).mono ?_
      rintro x u1 ⟨rfl, hb⟩
      have C1 := Lib.hid (below_call HB.out HB.out.size hb)
      have N1 := Lib.hid (keep_block HN.out hb)
      have M1 := Lib.hid (keep_block HM.out hb)
      have G1' := Lib.hid (keep_block HGr.out hb)
      have S1' := Lib.hid (HS.out.below hb)
      clear hb
      have C2 := Lib.hid (Below.setRow C1.out (by have := HWK.out; omega : w.heap.size ≤ kb) (ints .u8 Q))
      have N2 := Lib.hid (setRow_heap u1 kb (ints .u8 V) (ints .u8 Q) _ _ N1.out)
      have M2 := Lib.hid ((setRow_other u1 kb p (ints .u8 Q) (by have := HKP.out; omega)).trans M1.out)
      have G2' := Lib.hid ((setRow_other u1 kb w.heap.size (ints .u8 Q) (by have := HWK.out; omega)).trans G1'.out)
      have S2' := Lib.hid (S1'.out.above (Below.setRow (g := kb) (Below.refl (g + 1) u1) (by have := HGK.out; omega) (ints .u8 Q)))
      have HU2 := Lib.hid (Array.getElem?_eq_some_iff.1 M2.out).1
      have HZS : Hid ((u1.setRow kb (ints .u8 Q)).heap.size = u1.heap.size) := Lib.hid (by simp [World.setRow])
      have l3 := laid_below (u1.setRow kb (ints .u8 Q)) (ints .u8 z32) (ints .u8 P) 29
      have c3 := below_call C2.out C2.out.size l3
      have n3 := keep_block N2.out l3
      have m3 := laid_new (u1.setRow kb (ints .u8 Q)) (ints .u8 z32) (ints .u8 P) 29
      have g3 := keep_block G2'.out l3
      have s3 := S2'.out.below l3
      have z3 := heap_alloc_last (u1.setRow kb (ints .u8 Q)) (.cells (ints .u8 z32) 29)
      rw [HZS.out] at c3 n3 m3 g3 s3 z3
      have C3 := Lib.hid c3
      have N3' := Lib.hid n3
      have M3 := Lib.hid m3
      have G3' := Lib.hid g3
      have S3' := Lib.hid s3
      have Z3 := Lib.hid z3
      have HP' : Hid (kb < u1.heap.size) := Lib.hid (by have := HKP.out; have := HU2.out; have := HZS.out; omega)
      clear l3 c3 n3 m3 g3 s3 z3
      go_wp2_with (first | (refine wpList_store_row rfl 29 (.tmp 8) _ rfl (kb) (ints .u8 Q) rfl rfl 29 (ints .u8 V) N1.out (by rw [ints_size, HkQ.out]; exact sizeKey) (by rw [ints_size, ints_size, HkQ.out, HkV.out]) (ints_one _ _) ?_) | (refine wpList_load_row rfl 29 (.tmp 10) rfl (p) rfl 29 (ints .u8 P) (0, 0) _ M2.out Try.underlying29 rfl (by rw [ints_size, HkP.out]; exact sizeKey) ?_) | (refine wpList_store_row rfl 29 (.tmp 10) _ rfl u1.heap.size (ints .u8 P) rfl rfl 29 (ints .u8 z32) (by rw [← Hz.out]; exact Z3.out) (by rw [ints_size, HkP.out]; exact sizeKey) (by rw [ints_size, ints_size, HkP.out]; rfl) (ints_one _ _) ?_))
      rw [← Hz.out]
      clear Z3
      generalize ((u1.setRow kb (ints .u8 Q)).alloc (.cells (ints .u8 z32) 29)).setRow u1.heap.size (ints .u8 P) = U3 at C3 N3' M3 G3' S3' ⊢
      generalize u1.heap.size = p2 at M3 HP' ⊢
      refine (pop_any g (l - 1 - d - 1) fl (by omega) _ S3'.out).mono ?_
      rintro x u4 ⟨rfl, hs4, hk4⟩
      rw [HR.out]
      have S4' := Lib.hid hs4
      have C4 := Lib.hid (C3.out.trans (hk4.below C3.out.size (fun k e => by have := HG1.out; have := BW.out.size; omega)))
      have G4' := Lib.hid (hk4.hold (g := w.heap.size) (fun e => by have := HG1.out; have := HSZ.out; omega) G3'.out)
      have N4' := Lib.hid (hk4.hold (g := kb) (fun e => by have := HGK.out; omega) N3'.out)
      have M4 := Lib.hid (hk4.hold (g := p2) (fun e => by have := HGK.out; have := HP'.out; omega) M3.out)
      clear hs4 hk4
      have C5 := Lib.hid (Below.setRow C4.out (by have := HWK.out; have := HP'.out; omega : w.heap.size ≤ p2) (ints .u8 R))
      have M5' := Lib.hid (setRow_heap u4 p2 (ints .u8 P) (ints .u8 R) _ _ M4.out)
      have N5' := Lib.hid ((setRow_other u4 p2 kb (ints .u8 R) (by have := HP'.out; omega)).trans N4'.out)
      have G5' := Lib.hid ((setRow_other u4 p2 w.heap.size (ints .u8 R) (by have := HWK.out; have := HP'.out; omega)).trans G4'.out)
      have S5' := Lib.hid (S4'.out.above (Below.setRow (g := p2) (Below.refl (g + 1) u4) (by have := HGK.out; have := HP'.out; omega) (ints .u8 R)))
      have hdd : l - 1 - (d + 1) = l - 1 - d - 1 := by omega
      have HDD := Lib.hid hdd
      clear hdd
      go_wp2_with (refine wpList_store_row rfl 29 (.tmp 10) _ rfl (p2) (ints .u8 R) rfl rfl 29 (ints .u8 P) M4.out (by rw [ints_size, HPL1.out]; exact sizeKey) (by rw [ints_size, ints_size, HPL1.out, HkP.out]) (ints_one _ _) ?_)
      go_roundw
      case rel => exact ⟨d + 1, p2, by omega, rfl, by rw [HDD.out], HP'.out, C5.out, G5'.out, by rw [HQd.out]; exact N5'.out, by rw [HDD.out, HR.out]; exact M5'.out, by rw [HDD.out]; exact S5'.out⟩
      case measure =>
        rw [S5'.out.count, HSN.out]
        by_cases h : 0 < l - 1 - d - 1
        · rw [decide_eq_true h]
          simp [boolN]
          omega
        · rw [decide_eq_false h]
          simp [boolN]
          omega
    · obtain rfl : d = l - 1 := by omega
      have hm : decide (0 < l - 1 - (l - 1)) = false := decide_eq_false (by omega)
      rw [hm]
      have HkV := Lib.hid (HGD.out (l - 1)).1
      clear hm hlt
      generalize hV : ofR fl l (l - 1) = V at HN HkV ⊢
      go_wp2_with (first | (refine wpList_load_row rfl 29 (.tmp 8) rfl (kb) rfl 29 (ints .u8 V) (0, 0) _ HN.out Try.underlying29 rfl (by rw [ints_size, HkV.out]; exact sizeKey) ?_) | (refine wpList_store_row rfl 29 (.tmp 4) _ rfl w.heap.size (ints .u8 V) rfl rfl 29 (ints .u8 z32) HGr.out (by rw [ints_size, HkV.out]; exact sizeKey) (by rw [ints_size, ints_size, HkV.out]; rfl) (ints_one _ _) ?_))
      refine bodyPost_ret (results_cell2_row rfl _ _ w.heap.size 29 (ints .u8 V) (0, 0) _ rfl (setRow_heap _ _ (ints .u8 z32) _ _ _ HGr.out) Try.underlying29 rfl (by rw [ints_size, HkV.out]; exact sizeKey)) rfl ⟨by rw [hV]; rfl, ?_⟩
      exact Below.setRow HB.out (Nat.le_refl _) _
set_option maxRecDepth 100000 in
set_option maxHeartbeats 2000000 in
theorem kop_bad (a : Option Addr) (l cap : Nat) (n : Int) (hl : l ≤ 1048576) (hc : gcode l n 256 ≠ 0) (w : World) :
    Calls Try.prog 21 #[.slice a l cap, .int .i64 n] w fun x w' => x = .returned (.tuple #[.agg (ints .u8 z32), .int .i64 (gcode l n 256)]) ∧ Below w.heap.size w w' := by
  have Hz := Lib.hid z32_ints
  have Hg := Lib.hid (fun W => check_impl a l cap n 256 hl (by omega) (by omega) W)
  have BW := Lib.hid ((Below.refl w.heap.size w).alloc (Nat.le_refl _) (.cells (ints .u8 z32) 29))
  have GK := Lib.hid (heap_alloc_last w (.cells (ints .u8 z32) 29))
  obtain ⟨W0, hW0⟩ : ∃ W0, w.alloc (.cells (ints .u8 z32) 29) = W0 := ⟨_, rfl⟩
  rw [hW0] at BW GK
  generalize gcode l n 256 = c at hc Hg ⊢
  rw [Hz.out] at hW0
  go_enter Try.func21, Try.ntmps21
  go_wp2_with fail
  refine (Hg.out _).mono ?_
  rintro x w1 ⟨rfl, rfl⟩
  clear hW0
  go_wp2_with (refine wpList_store_row rfl 29 _ _ rfl w.heap.size (ints .u8 z32) rfl (by rw [Hz.out]; rfl) 29 (ints .u8 z32) GK.out (by kernel_rfl) rfl (ints_one _ _) ?_)
  refine bodyPost_ret (results_cell2_row rfl _ _ w.heap.size 29 (ints .u8 z32) (0, 0) _ rfl (setRow_heap _ _ (ints .u8 z32) _ _ _ GK.out) Try.underlying29 rfl (by kernel_rfl)) rfl ⟨rfl, ?_⟩
  exact Below.setRow BW.out (Nat.le_refl _) _
theorem kop_impl (a : Option Addr) (l cap : Nat) (n : Int) (fl : List Int) (hl : l ≤ 1048576) (fb : ∀ z ∈ fl, 0 ≤ z ∧ z ≤ 255) (w : World) (hr : RdK w a l fl) :
    Calls Try.prog 21 #[.slice a l cap, .int .i64 n] w fun x w' => x = .returned (.tuple #[.agg (ints .u8 (kopV fl l n)), .int .i64 (kopE l n)]) ∧ Below w.heap.size w w' := by
  unfold kopE
  by_cases hc : gcode l n 256 = 0
  · by_cases h0 : n = 0
    · have hl0 : l = 0 := by
        obtain ⟨_, _, _, e⟩ := gcode_zero hc (by omega)
        rw [e, h0]
        decide +kernel
      have e1 : kopV fl l n = hashK 3 [] := by unfold kopV; rw [if_neg (by simp [hc]), if_pos h0]
      rw [e1, hc]
      subst hl0
      subst h0
      obtain rfl : fl = [] := List.eq_nil_of_length_eq_zero hr.1
      exact kop_zero a cap w hr
    · have e1 : kopV fl l n = ofR fl l (l - 1) := by unfold kopV; rw [if_neg (by simp [hc]), if_neg h0]
      rw [e1, hc]
      exact kop_many a l cap n fl (gcode_pos hc (by omega) h0) hl hc fb w hr
  · have e1 : kopV fl l n = z32 := by unfold kopV; rw [if_pos hc]
    rw [e1]
    exact kop_bad a l cap n hl hc w
end Go.Proofs.Ytfnmmpnmbommeaa
