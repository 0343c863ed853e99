/- FnListProofs answers true at every input, and leaves all that was there as it was. -/
import Derived.Test.YtjijgckljjcfiaaLsA
import Derived.Test.YtjijgckljjcfiaaCopB
import Derived.Test.YtjijgckljjcfiaaDepth
import Derived.Test.YtjijgckljjcfiaaOpen
namespace Go.Proofs.Ytjijgckljjcfiaa
open Go.ChangeShapes Go.WideShapes Go.ChangeAt Go.RowKit
set_option linter.unusedVariables false
set_option linter.unusedSimpArgs false
theorem xor_neT (x y : Int) (h0 : 0 ≤ x) (h1 : x ≤ 255) (g0 : 0 < y) (g1 : y ≤ 255) : bits BinOp.xor IntKind.u8 x y ≠ x := by
  have h := u8_xor x y h0 (by omega) (by omega) (by omega)
  rw [h]
  intro e
  have e2 : x.toNat ^^^ y.toNat = x.toNat := by omega
  have e3 : y.toNat = 0 := by
    have := congrArg (fun n => x.toNat ^^^ n) e2
    simpa [← Nat.xor_assoc] using this
  omega
theorem set_neT {l : List Int} {i : Nat} {y : Int} (hi : i < l.length) (h : y ≠ l[i]) : l ≠ l.set i y := fun e => by
  have := congrArg (fun m => m[i]?) e
  simp only [List.getElem?_set_self hi, List.getElem?_eq_getElem hi] at this
  exact h (Option.some.inj this).symm
theorem RdK_setX {w : World} {a : Option Addr} {n g i : Nat} {fl : List Int} {z : Value} (h : RdK w a n fl) (hne : ∀ b o, a = some ⟨b, o, none⟩ → 0 < n → b ≠ g) : RdK (w.setCell ⟨g, i, none⟩ z) a n fl := by
  obtain ⟨hl, h2⟩ := h
  refine ⟨hl, ?_⟩
  rcases h2 with h0 | ⟨b', o', e, hb, hc⟩
  · exact Or.inl h0
  · by_cases hn : n = 0
    · exact Or.inl hn
    · have := hne b' o' e (by omega)
      refine Or.inr ⟨b', o', e, by simpa using hb, fun j hj => ?_⟩
      rw [World.cell?_setCell_other _ _ _ _ (by intro e; injection e with e1; exact this e1.symm)]
      exact hc j hj
set_option maxRecDepth 100000 in
set_option maxHeartbeats 16000000 in
theorem lp_in (a1 a2 : Option Addr) (n1 n2 c1 c2 : Nat) (l1 l2 : List Int) (hn1 : n1 ≤ 3000) (hn2 : n2 ≤ 3000) (fb1 : ∀ z ∈ l1, 0 ≤ z ∧ z ≤ 255) (fb2 : ∀ z ∈ l2, 0 ≤ z ∧ z ≤ 255) (w : World) (hr1 : Rd .u8 w a1 n1 l1) (hr2 : Rd .u8 w a2 n2 l2) :
    Calls Try.prog 3 #[.slice a1 n1 c1, .slice a2 n2 c2] w fun e w' => e = .returned (.bool true) ∧ Below w.heap.size w w' := by
  have Hz := Lib.hid z32_ints
  obtain ⟨i0, z0, hi, hz0, hz1, hz2, hzs, hzc⟩ := keyParts
  have Hi := Lib.hid hi
  have Hlg := Lib.hid (fun U => long_no a1 a2 n1 n2 c1 c2 ⟨hn1, hn2⟩ U)
  have Hk1 := Lib.hid (keys_src a1 n1 c1 l1 10 (by omega) fb1 (by omega) w hr1)
  have Hat := Lib.hid (fun (k : Nat) (hk : k ≤ 100) (N : Int) (h1 : 1 ≤ N) (h2 : N ≤ 1000000) U (hU : Below w.heap.size w U) => at_law a2 n2 c2 l2 (by omega) fb2 k hk N h1 h2 U (hr2.below hU))
  clear hr1 hr2 fb1 fb2 hi
  go_enter Try.func3, Try.ntmps3
  go_wp2_with fail
  refine (Hlg.out _).mono ?_
  rintro x w0 ⟨rfl, rfl⟩
  go_wp2_with fail
  refine Hk1.out.mono ?_
  rintro x w1 ⟨v1, m1, f1, rfl, o1, hm1, hl1, hf1, hb1⟩
  have B1 := Lib.hid hb1
  have O1 := Lib.hid o1
  have F1 := Lib.hid hf1
  clear o1 hb1 hf1
  go_wp2_with fail
  refine (Hat.out 0 (by omega) 256 (by omega) (by omega) _ B1.out).mono ?_
  rintro x w1' ⟨r, rfl, r0, r1, rfl⟩
  have r2 : r ≤ 255 := by omega
  have HKY : Hid (L32 (z32.set 0 r)) := Lib.hid ⟨by rw [List.length_set]; rfl, fun z hz => by
    rcases List.mem_or_eq_of_mem_set hz with hz | rfl
    · exact z32_byteB z hz
    · omega⟩
  have HKZ : Hid (ints .u8 (z32.set 0 r) = #[.int .u8 r, .int .u8 0, .int .u8 0, .int .u8 0, .int .u8 0, .int .u8 0, .int .u8 0, .int .u8 0, .int .u8 0, .int .u8 0, .int .u8 0, .int .u8 0, .int .u8 0, .int .u8 0, .int .u8 0, .int .u8 0, .int .u8 0, .int .u8 0, .int .u8 0, .int .u8 0, .int .u8 0, .int .u8 0, .int .u8 0, .int .u8 0, .int .u8 0, .int .u8 0, .int .u8 0, .int .u8 0, .int .u8 0, .int .u8 0, .int .u8 0, .int .u8 0]) := Lib.hid rfl
  generalize z32.set 0 r = key at HKY HKZ
  go_wp2_with (first | (refine wpList_buildSlice_one rfl 24 28 _ rfl Try.underlying24 Hi.out hz0 (ints .u8 key) (by rw [HKZ.out]; rfl) (by rw [ints_size, HKY.out.1, hz1]) (by rw [hz1]; decide) (by rw [hz1]; decide) ?_) | (at_builtin; refine wpList_append_own _ rfl _ _ 24 rfl w.heap.size 28 i0 z0 32 32 Try.underlying24 Hi.out hz0 hz1 hz2 hzs (by decide) _ m1 _ rfl (O1.out.alloc _) ⟨w1.heap.size, 0, none⟩ 1 1 (key.map (Value.int .u8)) rfl (by rw [List.length_map, HKY.out.1]) ?c1 ?c2 ?c3 ?c4 ?c5 ?_))
  case c1 =>
    intro p u hu
    rw [addr_add]
    have hg := heap_alloc_last w1 (.cells (ints .u8 key) 28)
    rw [Nat.zero_add, cell_of_row _ w1.heap.size p _ _ _ hg, ← hu]
    simp [ints]
  case c2 =>
    intro u hu
    obtain ⟨z, _, rfl⟩ := List.mem_map.1 hu
    rfl
  case c3 => unfold maxLen; omega
  case c4 => omega
  case c5 => have := B1.out.size; simp; omega
  intro v3 w3 hown3 hgrow3 hnil3
  have B3 := Lib.hid ((B1.out.alloc B1.out.size (.cells (ints .u8 key) 28)).grown hgrow3 (by have := B1.out.size; simp; omega) (fun g e => (O1.out.lt g e).1))
  rw [← List.map_append] at hown3
  have FB : Hid (∀ z ∈ f1 ++ key, 0 ≤ z ∧ z ≤ 255) := Lib.hid (fun z hz => by
    rcases List.mem_append.1 hz with hz | hz
    · exact F1.out z hz
    · exact HKY.out.2 z hz)
  have HL := Lib.hid (show (f1 ++ key).length = 32 * (m1 + 1) by rw [List.length_append, hl1, HKY.out.1]; omega)
  generalize f1 ++ key = fl at hown3 FB HL
  have hL : m1 + 1 ≤ 11 := by omega
  have hL1 : 1 ≤ m1 + 1 := by omega
  generalize m1 + 1 = L at hown3 HL hL hL1
  obtain ⟨lb, lc, rfl, hlc, hlm, _⟩ := owned_formG hown3 hL1
  obtain ⟨_, _, e, hR⟩ := RdK.owned HL.out hown3
  obtain ⟨e1, -, -⟩ := Value.slice.inj e
  rw [← e1] at hR
  have R3 := Lib.hid hR
  have O3 := Lib.hid hown3
  clear e1 e hR hown3 hgrow3 hnil3 O1 F1 B1 HKY HKZ hm1 hl1 Hk1 Hlg r0 r1 r2
  have k1 : (1 : Int) ≤ (L : Int) := by omega
  have k2 : (L : Int) ≤ 11 := by omega
  have hL2 : ¬ 256 < L := by omega
  have HlL := Lib.hid (fun (b : Nat) c (m : List Int) (hm : ∀ z ∈ m, 0 ≤ z ∧ z ≤ 255) U (hU : RdK U (some ⟨b, 0, none⟩) L m) => by
    have := listkey_impl (some ⟨b, 0, none⟩) L c m (by omega) hm U hU
    have e : lkeyV m L = tkey (keyAt m) 0 L := by
      unfold lkeyV
      rw [if_neg (by omega), if_neg (by omega)]
    unfold lkeyE at this
    rw [e, if_neg (by omega)] at this
    exact this)
  have HNl := Lib.hid (tkey32 (b := 0) HL.out FB.out hL1 (by omega))
  obtain ⟨now, hnow⟩ : ∃ now, tkey (keyAt fl) 0 L = now := ⟨_, rfl⟩
  have HNW := Lib.hid hnow
  rw [hnow] at HNl
  clear hnow
  go_wp2_with fail
  refine (HlL.out _ _ _ FB.out _ R3.out).mono ?_
  rw [HNW.out]
  rintro x w4 ⟨rfl, hb4⟩
  have L4 := laid_below w4 (ints .u8 z32) (ints .u8 now) 28
  have BW4 := hb4.trans (L4.mono hb4.size)
  have G4 := Lib.hid (laid_new w4 (ints .u8 z32) (ints .u8 now) 28)
  have B4 := Lib.hid (below_call B3.out B3.out.size BW4)
  have R4 := Lib.hid (R3.out.below BW4)
  have O4 := Lib.hid (owns_below O3.out BW4)
  clear L4 BW4 hb4
  go_wp2_with (refine wpList_store_row rfl 28 (.tmp 7) _ rfl w4.heap.size (ints .u8 now) rfl rfl 28 (ints .u8 z32) (by rw [Hz.out]; exact heap_alloc_last _ _) (by rw [ints_size, HNl.out.1]; exact sizeKey) (by rw [ints_size, ints_size, HNl.out.1]; rfl) (ints_one _ _) ?_)
  rw [← Hz.out]
  generalize hW4 : (w4.alloc (.cells (ints .u8 z32) 28)).setRow w4.heap.size (ints .u8 now) = W4 at G4 B4 R4 O4 ⊢
  generalize w4.heap.size = x4 at G4 ⊢
  clear hW4
  refine (Hat.out 1 (by omega) (L : Int) (by omega) (by omega) _ B4.out).mono ?_
  rintro x W4' ⟨r, rfl, r0, r1, rfl⟩
  obtain ⟨q, rfl⟩ := Int.eq_ofNat_of_zero_le r0
  have q0 : (0 : Int) ≤ (q : Int) := r0
  have q1 : (q : Int) < (L : Int) := r1
  have q2 : (q : Int) ≤ 11 := by omega
  clear r0 r1
  have HD := Lib.hid (dN_le L q)
  have HPl := Lib.hid (lp_len (i := q) HL.out (by omega))
  have HPR := Lib.hid (lp_range FB.out L q)
  have HY := Lib.hid (by have := lp_yes (i := q) HL.out (by omega) (by omega); rwa [HNW.out] at this)
  have HN6 := Lib.hid (lp_none (i := q) HL.out (by omega) (by omega))
  have HOT := Lib.hid (fun leaf (h1 : Is32 leaf) (h2 : leaf ≠ keyAt fl q) => by have := lp_other (i := q) HL.out FB.out (by omega) (by omega) h1 h2; rwa [HNW.out] at this)
  have HKX : Hid (Is32 (keyAt fl q)) := Lib.hid ⟨keyAt_len HL.out (by omega), keyAt_range FB.out q⟩
  have HR1 := Lib.hid (fun U (hU : RdK U (some ⟨lb, 0, none⟩) L fl) => by
    have := pf_impl (some ⟨lb, 0, none⟩) L lc fl (q : Int) (by omega) hlc hlm FB.out U hU
    unfold pfE pfN pfV at this
    have hq : 0 ≤ (q : Int) ∧ (q : Int) < (L : Int) := ⟨by omega, by omega⟩
    rw [if_neg hL2, if_neg hL2, if_neg hL2, if_pos hq, if_pos hq, if_pos hq, Int.toNat_natCast] at this
    exact this)
  have HTD := Lib.hid (fun U => by
    have := td_impl (L : Int) (q : Int) U
    unfold tdV tdE at this
    have hq : isLf (L : Int) (q : Int) := ⟨by omega, by omega, by omega⟩
    rw [if_pos hq, if_pos hq, Int.toNat_natCast, Int.toNat_natCast] at this
    exact this)
  have HC1 := Lib.hid (fun A C U (hc : dN L q ≤ C) (hm : C ≤ maxLen) (hp : RdK U A (dN L q) (prf (keyAt fl) 0 L q)) => by
    have := cp_impl now (L : Int) (q : Int) (keyAt fl q) A (dN L q) C (prf (keyAt fl) 0 L q) HNl.out.1 HKX.out (by have := HD.out; omega) hc hm HPR.out U hp
    rw [HY.out.1, HY.out.2] at this
    exact this)
  have HC2 := Lib.hid (fun A C U (hc : dN L q + 1 ≤ C) (hm : C ≤ maxLen) (hp : RdK U A (dN L q + 1) (prf (keyAt fl) 0 L q ++ now)) => by
    have := cp_impl now (L : Int) (q : Int) (keyAt fl q) A (dN L q + 1) C (prf (keyAt fl) 0 L q ++ now) HNl.out.1 HKX.out (by have := HD.out; omega) hc hm (fun z hz => by
      rcases List.mem_append.1 hz with hz | hz
      · exact HPR.out z hz
      · exact HNl.out.2 z hz) U hp
    have e := lp_long (root := now) (leaf := keyAt fl q) (gl := prf (keyAt fl) 0 L q ++ now) (n := L) (i := q) (by omega) (by omega)
    rw [e.1, e.2] at this
    exact this)
  have HC3 := Lib.hid (fun A C U (hc : dN L q ≤ C) (hm : C ≤ maxLen) (hp : RdK U A (dN L q) (prf (keyAt fl) 0 L q)) => by
    have := cp_impl now (L : Int) (L : Int) (keyAt fl q) A (dN L q) C (prf (keyAt fl) 0 L q) HNl.out.1 HKX.out (by have := HD.out; omega) hc hm HPR.out U hp
    have e := lp_out (root := now) (leaf := keyAt fl q) (gl := prf (keyAt fl) 0 L q) (n := L) (P := dN L q) (by have := HD.out; omega)
    rw [e.1, e.2] at this
    exact this)
  have HCO := Lib.hid (fun A C U (hc : dN L q ≤ C) (hm : C ≤ maxLen) (hr : RdK U (some ⟨lb, 0, none⟩) L fl) (hp : RdK U A (dN L q) (prf (keyAt fl) 0 L q)) => by
    have := cop_impl (some ⟨lb, 0, none⟩) A L (dN L q) lc C (q : Int) (keyAt fl q) fl (prf (keyAt fl) 0 L q) (by omega) (by have := HD.out; omega) hlc hc hlm hm HKX.out FB.out HPR.out U hr hp
    rw [HN6.out] at this
    exact this)
  have HV1 := Lib.hid (spV_len (n := L) (i := (q : Int)) (leaf := keyAt fl q) HKX.out HL.out HPl.out FB.out HPR.out)
  have HALL : Hid (∀ leaf, Is32 leaf → leaf ≠ keyAt fl q → ∃ b E V, (∀ A C U, dN L q ≤ C → C ≤ maxLen → RdK U A (dN L q) (prf (keyAt fl) 0 L q) → Calls Try.prog 21 #[.agg (ints .u8 now), .int .i64 (L : Int), .int .i64 (q : Int), .agg (ints .u8 leaf), .slice A (dN L q) C] U fun e w' => e = .returned (.tuple #[.bool b, .int .i64 0]) ∧ Below U.heap.size U w') ∧
      (∀ A C U, dN L q ≤ C → C ≤ maxLen → RdK U (some ⟨lb, 0, none⟩) L fl → RdK U A (dN L q) (prf (keyAt fl) 0 L q) → Calls Try.prog 22 #[.slice (some ⟨lb, 0, none⟩) L lc, .int .i64 (q : Int), .agg (ints .u8 leaf), .slice A (dN L q) C] U fun e w' => e = .returned (.tuple #[.agg (ints .u8 V), .int .i64 E]) ∧ Below U.heap.size U w') ∧
      V.length = 128 ∧ (b = true → E = 0 ∧ isCl V) ∧ (b = false → E = 4)) := Lib.hid (fun leaf h1 h2 => by
    obtain ⟨e1, e2, e3⟩ := HOT.out leaf h1 h2
    refine ⟨cpV now (L : Int) (q : Int) leaf (dN L q) (prf (keyAt fl) 0 L q), spE L (q : Int) leaf (dN L q) fl (prf (keyAt fl) 0 L q), spV L (q : Int) leaf (dN L q) fl (prf (keyAt fl) 0 L q), fun A C U hc hm hp => ?_, fun A C U hc hm hr hp => ?_, spV_len h1 HL.out HPl.out FB.out HPR.out, e2, e3⟩
    · have := cp_impl now (L : Int) (q : Int) leaf A (dN L q) C (prf (keyAt fl) 0 L q) HNl.out.1 h1 (by have := HD.out; omega) hc hm HPR.out U hp
      rw [e1] at this
      exact this
    · exact cop_impl (some ⟨lb, 0, none⟩) A L (dN L q) lc C (q : Int) leaf fl (prf (keyAt fl) 0 L q) (by omega) (by have := HD.out; omega) hlc hc hlm hm h1 FB.out HPR.out U hr hp)
  generalize spV L (q : Int) (keyAt fl q) (dN L q) fl (prf (keyAt fl) 0 L q) = V1 at HCO HV1
  generalize prf (keyAt fl) 0 L q = pl at HPl HPR HR1 HC1 HC2 HC3 HCO HALL
  generalize dN L q = D at HD HPl HR1 HTD HC1 HC2 HC3 HCO HALL
  obtain ⟨kx, hkx⟩ : ∃ kx, keyAt fl q = kx := ⟨_, rfl⟩
  have HKW := Lib.hid hkx
  rw [hkx] at HKX HC1 HC2 HC3 HCO HALL
  clear hkx HY HN6 HOT
  have j11 : q < L := by omega
  have j12 : ¬ (L : Int) ≤ (q : Int) := by omega
  have d0 : (0 : Int) ≤ (D : Int) := by omega
  have d1 : (D : Int) ≤ 11 := by have := HD.out; omega
  go_wp2_with fail
  refine (HR1.out _ R4.out).mono ?_
  rintro x w5 ⟨v5, rfl, ho5, hb5⟩
  obtain ⟨pa, pc, rfl, hpc, hpm⟩ := owns_slcC ho5
  have B5 := Lib.hid (below_call B4.out B4.out.size hb5)
  have G5 := Lib.hid (keep_block G4.out hb5)
  have R5 := Lib.hid (R4.out.below hb5)
  have P5 := Lib.hid (rdk_of_owned HPl.out ho5)
  have Q5 := Lib.hid ho5
  clear ho5 hb5 R4 O4 G4 HR1
  go_wp2_with fail
  refine (HTD.out _).mono ?_
  rintro x w6 ⟨rfl, hb⟩
  have B6 := Lib.hid (below_call B5.out B5.out.size hb)
  have G6 := Lib.hid (keep_block G5.out hb)
  have R6 := Lib.hid (R5.out.below hb)
  have P6 := Lib.hid (P5.out.below hb)
  have Q6 := Lib.hid (owns_below Q5.out hb)
  have K6 := Lib.hid (by have := R6.out.key q j11; rwa [Nat.zero_add, HKW.out] at this)
  clear hb R5 G5 P5 Q5 HTD
  go_upto_region 9 with fail
  refine wp_region_held_drew (S := Below (w6).heap.size (w6)) (by kernel_rfl) ((Below.refl _ _).drew) (fun hS => ?_)
  refine take_at (i := 0) (v := .agg (ints .u8 now)) rfl rfl (by kernel_rfl) (by kernel_rfl) (by kernel_rfl) (fun _ _ _ h => h) (yields_box (by rfl) 28 _ rfl (x4) rfl _ 28 _ G6.out Try.underlying28 rfl (by rw [ints_size, HNl.out.1]; exact sizeKey)) hS ?_
  try simp only [List.setIfInBounds_toArray, List.set_cons_zero, List.set_cons_succ]
  refine take_at (i := 1) (v := .int .i64 (L : Int)) rfl rfl (by kernel_rfl) (by kernel_rfl) (by kernel_rfl) (fun _ _ _ h => h) (Or.inl ⟨by rfl, fun U hU => by go_simp⟩) hS ?_
  try simp only [List.setIfInBounds_toArray, List.set_cons_zero, List.set_cons_succ]
  refine take_at (i := 2) (v := .int .i64 (q : Int)) rfl rfl (by kernel_rfl) (by kernel_rfl) (by kernel_rfl) (fun _ _ _ h => h) (Or.inl ⟨by rfl, fun U hU => by go_simp⟩) hS ?_
  try simp only [List.setIfInBounds_toArray, List.set_cons_zero, List.set_cons_succ]
  refine take_at (i := 3) (v := .slice (some ⟨lb, 0, none⟩) L lc) rfl rfl (by kernel_rfl) (by kernel_rfl) (by kernel_rfl) (fun _ _ _ h => h) (Or.inl ⟨by rfl, fun U hU => by go_simp⟩) hS ?_
  try simp only [List.setIfInBounds_toArray, List.set_cons_zero, List.set_cons_succ]
  refine take_at (i := 4) (v := .int .i64 (q : Int)) rfl rfl (by kernel_rfl) (by kernel_rfl) (by kernel_rfl) (fun _ _ _ h => h) (Or.inl ⟨by rfl, fun U hU => by go_simp⟩) hS ?_
  try simp only [List.setIfInBounds_toArray, List.set_cons_zero, List.set_cons_succ]
  refine take_at (i := 5) (v := .pointer (some ⟨lb, q * 32, none⟩)) rfl rfl (by kernel_rfl) (by kernel_rfl) (by kernel_rfl) (fun _ _ _ h => h) (Or.inl ⟨by rfl, fun U hU => by go_simp⟩) hS ?_
  try simp only [List.setIfInBounds_toArray, List.set_cons_zero, List.set_cons_succ]
  refine take_at (i := 6) (v := .agg (ints .u8 kx)) rfl rfl (by kernel_rfl) (by kernel_rfl) (by kernel_rfl) (fun _ _ _ h => h) (yieldsIf_load_mid (by rfl) 28 _ rfl lb (q * 32) rfl (kx.map (Value.int .u8)) _ (fun U hU => rangeAt_below K6.out hU) Try.underlying28 rfl (by rw [List.length_map, HKX.out.1]; exact sizeKey)) hS ?_
  try simp only [List.setIfInBounds_toArray, List.set_cons_zero, List.set_cons_succ]
  refine take_at (i := 7) (v := .slice pa D pc) rfl rfl (by kernel_rfl) (by kernel_rfl) (by kernel_rfl) (fun _ _ _ h => h) (Or.inl ⟨by rfl, fun U hU => by go_simp⟩) hS ?_
  try simp only [List.setIfInBounds_toArray, List.set_cons_zero, List.set_cons_succ]
  refine wpAnyH_ready (rs := [8]) (by kernel_rfl) (by simp) ?_
  refine AllReadyH.cons rfl (fun KQ hK => ?_) AllReadyH.nil
  rw [if_pos (by rfl)]
  go_simp
  refine (HC1.out _ _ _ hpc hpm (P6.out.below hS)).mono ?_
  rintro x w7 ⟨rfl, hb⟩
  refine hK.out _ _ (below_call hS hS.size hb) (fun hS => ?_)
  clear hb hK
  refine take_at (i := 9) (v := .tuple #[.bool true, .int .i64 0]) rfl rfl (by kernel_rfl) (by kernel_rfl) (by kernel_rfl) (fun _ _ _ h => h) (Or.inl ⟨by rfl, fun U hU => by go_simp⟩) hS ?_
  try simp only [List.setIfInBounds_toArray, List.set_cons_zero, List.set_cons_succ]
  refine take_at (i := 10) (v := .bool true) rfl rfl (by kernel_rfl) (by kernel_rfl) (by kernel_rfl) (fun _ _ _ h => h) (Or.inl ⟨by rfl, fun U hU => by go_simp⟩) hS ?_
  try simp only [List.setIfInBounds_toArray, List.set_cons_zero, List.set_cons_succ]
  refine take_at (i := 11) (v := .int .i64 0) rfl rfl (by kernel_rfl) (by kernel_rfl) (by kernel_rfl) (fun _ _ _ h => h) (Or.inl ⟨by rfl, fun U hU => by go_simp⟩) hS ?_
  try simp only [List.setIfInBounds_toArray, List.set_cons_zero, List.set_cons_succ]
  refine take_at (i := 12) (v := .bool true) rfl rfl (by kernel_rfl) (by kernel_rfl) (by kernel_rfl) (fun _ _ _ h => h) (Or.inl ⟨by rfl, fun U hU => by go_simp⟩) hS ?_
  try simp only [List.setIfInBounds_toArray, List.set_cons_zero, List.set_cons_succ]
  refine take_at (i := 13) (v := .int .i64 0) rfl rfl (by kernel_rfl) (by kernel_rfl) (by kernel_rfl) (fun _ _ _ h => h) (Or.inl ⟨by rfl, fun U hU => by go_simp⟩) hS ?_
  try simp only [List.setIfInBounds_toArray, List.set_cons_zero, List.set_cons_succ]
  refine wpAnyH_done (by kernel_rfl) ?_ _
  have B7 := Lib.hid (below_call B6.out B6.out.size hS)
  have G7 := Lib.hid (keep_block G6.out hS)
  have R7 := Lib.hid (R6.out.below hS)
  have P7 := Lib.hid (P6.out.below hS)
  have Q7 := Lib.hid (owns_below Q6.out hS)
  clear hS R6 G6 P6 Q6 K6 HC1
  have K7 := Lib.hid (by have := R7.out.key q j11; rwa [Nat.zero_add, HKW.out] at this)
  have HZo : Hid ((ints .u8 now).size = 32) := Lib.hid (by rw [ints_size]; exact HNl.out.1)
  have HTo : Hid ((ints .u8 now).toList = now.map (Value.int .u8)) := Lib.hid (by simp [ints])
  have HPo : Hid (∀ y ∈ pl.map (Value.int .u8), y.oneCell' = true) := Lib.hid (fun u hu => by
    obtain ⟨z, _, rfl⟩ := List.mem_map.1 hu
    rfl)
  have HOo : Hid (∀ y ∈ (ints .u8 now).toList, y.oneCell' = true) := Lib.hid (fun u hu => by
    rw [HTo.out] at hu
    obtain ⟨z, _, rfl⟩ := List.mem_map.1 hu
    rfl)
  go_upto_region 12 with fail
  go_cut [16, 17] (fun s16 s17 wx => s16 = .bool false ∧ s17 = .int .i64 0 ∧ ∃ w8, w8 = wx ∧ Below w7.heap.size w7 w8)
  case first =>
    refine wp_region_held_drew (S := Below (w7).heap.size (w7)) (by kernel_rfl) ((Below.refl _ _).drew) (fun hS => ?_)
    generalize w7.drew = U0 at hS ⊢
    refine take_at (i := 0) (v := .agg (ints .u8 now)) rfl rfl (by kernel_rfl) (by kernel_rfl) (by kernel_rfl) (fun _ _ _ h => h) (yields_box (by rfl) 28 _ rfl (x4) rfl _ 28 _ G7.out Try.underlying28 rfl (by rw [ints_size, HNl.out.1]; exact sizeKey)) hS ?_
    try simp only [List.setIfInBounds_toArray, List.set_cons_zero, List.set_cons_succ]
    refine take_at (i := 1) (v := .int .i64 (L : Int)) rfl rfl (by kernel_rfl) (by kernel_rfl) (by kernel_rfl) (fun _ _ _ h => h) (Or.inl ⟨by rfl, fun U hU => by go_simp⟩) hS ?_
    try simp only [List.setIfInBounds_toArray, List.set_cons_zero, List.set_cons_succ]
    refine take_at (i := 2) (v := .int .i64 (q : Int)) rfl rfl (by kernel_rfl) (by kernel_rfl) (by kernel_rfl) (fun _ _ _ h => h) (Or.inl ⟨by rfl, fun U hU => by go_simp⟩) hS ?_
    try simp only [List.setIfInBounds_toArray, List.set_cons_zero, List.set_cons_succ]
    refine take_at (i := 3) (v := .slice (some ⟨lb, 0, none⟩) L lc) rfl rfl (by kernel_rfl) (by kernel_rfl) (by kernel_rfl) (fun _ _ _ h => h) (Or.inl ⟨by rfl, fun U hU => by go_simp⟩) hS ?_
    try simp only [List.setIfInBounds_toArray, List.set_cons_zero, List.set_cons_succ]
    refine take_at (i := 4) (v := .int .i64 (q : Int)) rfl rfl (by kernel_rfl) (by kernel_rfl) (by kernel_rfl) (fun _ _ _ h => h) (Or.inl ⟨by rfl, fun U hU => by go_simp⟩) hS ?_
    try simp only [List.setIfInBounds_toArray, List.set_cons_zero, List.set_cons_succ]
    refine take_at (i := 5) (v := .pointer (some ⟨lb, q * 32, none⟩)) rfl rfl (by kernel_rfl) (by kernel_rfl) (by kernel_rfl) (fun _ _ _ h => h) (Or.inl ⟨by rfl, fun U hU => by go_simp⟩) hS ?_
    try simp only [List.setIfInBounds_toArray, List.set_cons_zero, List.set_cons_succ]
    refine take_at (i := 6) (v := .agg (ints .u8 kx)) rfl rfl (by kernel_rfl) (by kernel_rfl) (by kernel_rfl) (fun _ _ _ h => h) (yieldsIf_load_mid (by rfl) 28 _ rfl lb (q * 32) rfl (kx.map (Value.int .u8)) _ (fun U hU => rangeAt_below K7.out hU) Try.underlying28 rfl (by rw [List.length_map, HKX.out.1]; exact sizeKey)) hS ?_
    try simp only [List.setIfInBounds_toArray, List.set_cons_zero, List.set_cons_succ]
    refine take_at (i := 8) (v := .slice pa D pc) rfl rfl (by kernel_rfl) (by kernel_rfl) (by kernel_rfl) (fun _ _ _ h => h) (Or.inl ⟨by rfl, fun U hU => by go_simp⟩) hS ?_
    try simp only [List.setIfInBounds_toArray, List.set_cons_zero, List.set_cons_succ]
    refine take_at (i := 10) (v := .agg (ints .u8 now)) rfl rfl (by kernel_rfl) (by kernel_rfl) (by kernel_rfl) (fun _ _ _ h => h) (yields_box (by rfl) 28 _ rfl (x4) rfl _ 28 _ G7.out Try.underlying28 rfl (by rw [ints_size, HNl.out.1]; exact sizeKey)) hS ?_
    try simp only [List.setIfInBounds_toArray, List.set_cons_zero, List.set_cons_succ]
    refine wpAnyH_ready (rs := [7, 11]) (by kernel_rfl) (by simp) ?_
    refine AllReadyH.cons rfl (fun KQ hK => ?_) (AllReadyH.cons rfl (fun KQ hK => ?_) AllReadyH.nil)
    · rw [if_pos (by rfl)]
      go_simp
      have hE := owns_base hS.size (owns_empty U0 28 32)
      refine hK.out _ _ (hS.alloc hS.size _) (fun hS => ?_)
      clear hK
      generalize U0.heap.size = be at hE ⊢
      generalize U0.alloc (.cells #[] 28) = U1 at hE hS ⊢
      refine wpAnyH_ready (rs := [9, 11]) (by kernel_rfl) (by simp) ?_
      refine AllReadyH.cons rfl (fun KQ hK => ?_) (AllReadyH.cons rfl (fun KQ hK => ?_) AllReadyH.nil)
      · rw [if_pos (by rfl)]
        refine wp_append_rows _ _ 24 rfl 28 i0 z0 32 32 Try.underlying24 Hi.out hz0 hz1 hz2 hzs (by decide) _ 0 _ rfl hE _ D _ rfl (owns_below Q7.out hS) HPo.out (by have := HD.out; unfold maxLen; omega) (by have := HD.out; omega) hS.size ?_
        intro v6 U2 hown hgrow
        simp only [Act.put]
        refine hK.out _ _ (hS.grown hgrow hS.size (fun g e => (hE.lt g e).1)) (fun hS => ?_)
        clear hK
        refine wpAnyH_ready (rs := [11]) (by kernel_rfl) (by simp) ?_
        refine AllReadyH.cons rfl (fun KQ hK => ?_) AllReadyH.nil
        rw [if_pos (by rfl)]
        refine wp_buildSlice_one 24 28 _ rfl Try.underlying24 Hi.out hz0 (ints .u8 now) rfl (by rw [HZo.out, hz1]) (by rw [hz1]; decide) (by rw [hz1]; decide) ?_
        simp only [Act.put]
        have hX := heap_alloc_last U2 (.cells (ints .u8 now) 28)
        have hown := owns_below hown ((Below.refl U2.heap.size U2).alloc (Nat.le_refl _) (.cells (ints .u8 now) 28))
        refine hK.out _ _ (hS.alloc hS.size _) (fun hS => ?_)
        clear hK
        generalize U2.heap.size = gx at hX ⊢
        generalize U2.alloc (.cells (ints .u8 now) 28) = U3 at hX hown hS ⊢
        refine wpAnyH_ready (rs := [12]) (by kernel_rfl) (by simp) ?_
        refine AllReadyH.cons rfl (fun KQ hK => ?_) AllReadyH.nil
        rw [if_pos (by rfl)]
        refine wp_append_rows _ _ 24 rfl 28 i0 z0 32 32 Try.underlying24 Hi.out hz0 hz1 hz2 hzs (by decide) _ (0 + D) _ rfl hown _ 1 _ rfl (one_of_heapG hX HZo.out) HOo.out (by have := HD.out; unfold maxLen; omega) (by have := HD.out; omega) hS.size ?_
        intro v9 U9 hown9 hgrow9
        simp only [Act.put]
        refine hK.out _ _ (hS.grown hgrow9 hS.size (fun g e => (hown.lt g e).1)) (fun hS => ?_)
        clear hK
        rw [HTo.out, List.nil_append, ← List.map_append, Nat.zero_add] at hown9
        obtain ⟨qb, qc, rfl, hqc, hqm, _⟩ := owned_formG hown9 (by omega)
        have hR := rdk_of_owned (L := pl ++ now) (by rw [List.length_append, HPl.out, HNl.out.1]; omega) hown9
        clear hown9 hgrow9
        refine wpAnyH_ready (rs := [13]) (by kernel_rfl) (by simp) ?_
        refine AllReadyH.cons rfl (fun KQ hK => ?_) AllReadyH.nil
        rw [if_pos (by rfl)]
        go_simp
        refine (HC2.out _ _ _ hqc hqm hR).mono ?_
        rintro x U10 ⟨rfl, hb⟩
        refine hK.out _ _ (below_call hS hS.size hb) (fun hS => ?_)
        clear hb hK
        refine take_at (i := 14) (v := .tuple #[.bool false, .int .i64 0]) rfl rfl (by kernel_rfl) (by kernel_rfl) (by kernel_rfl) (fun _ _ _ h => h) (Or.inl ⟨by rfl, fun U hU => by go_simp⟩) hS ?_
        try simp only [List.setIfInBounds_toArray, List.set_cons_zero, List.set_cons_succ]
        refine take_at (i := 15) (v := .bool false) rfl rfl (by kernel_rfl) (by kernel_rfl) (by kernel_rfl) (fun _ _ _ h => h) (Or.inl ⟨by rfl, fun U hU => by go_simp⟩) hS ?_
        try simp only [List.setIfInBounds_toArray, List.set_cons_zero, List.set_cons_succ]
        refine take_at (i := 16) (v := .int .i64 0) rfl rfl (by kernel_rfl) (by kernel_rfl) (by kernel_rfl) (fun _ _ _ h => h) (Or.inl ⟨by rfl, fun U hU => by go_simp⟩) hS ?_
        try simp only [List.setIfInBounds_toArray, List.set_cons_zero, List.set_cons_succ]
        refine take_at (i := 17) (v := .bool false) rfl rfl (by kernel_rfl) (by kernel_rfl) (by kernel_rfl) (fun _ _ _ h => h) (Or.inl ⟨by rfl, fun U hU => by go_simp⟩) hS ?_
        try simp only [List.setIfInBounds_toArray, List.set_cons_zero, List.set_cons_succ]
        refine take_at (i := 18) (v := .int .i64 0) rfl rfl (by kernel_rfl) (by kernel_rfl) (by kernel_rfl) (fun _ _ _ h => h) (Or.inl ⟨by rfl, fun U hU => by go_simp⟩) hS ?_
        try simp only [List.setIfInBounds_toArray, List.set_cons_zero, List.set_cons_succ]
        refine wpAnyH_done (by kernel_rfl) ?_ _
        go_wp2_with fail
        go_meet
        exact ⟨rfl, rfl, _, rfl, hS⟩
      · rw [if_pos (by rfl)]
        refine wp_buildSlice_one 24 28 _ rfl Try.underlying24 Hi.out hz0 (ints .u8 now) rfl (by rw [HZo.out, hz1]) (by rw [hz1]; decide) (by rw [hz1]; decide) ?_
        simp only [Act.put]
        have hX := heap_alloc_last U1 (.cells (ints .u8 now) 28)
        have hne : U1.heap.size ≠ be := by have := (hE.lt be rfl).2; omega
        have hE := owns_below hE ((Below.refl U1.heap.size U1).alloc (Nat.le_refl _) (.cells (ints .u8 now) 28))
        refine hK.out _ _ (hS.alloc hS.size _) (fun hS => ?_)
        clear hK
        generalize U1.heap.size = gx at hX hne ⊢
        generalize U1.alloc (.cells (ints .u8 now) 28) = U2 at hX hE hS ⊢
        refine wpAnyH_ready (rs := [9]) (by kernel_rfl) (by simp) ?_
        refine AllReadyH.cons rfl (fun KQ hK => ?_) AllReadyH.nil
        rw [if_pos (by rfl)]
        refine wp_append_rows _ _ 24 rfl 28 i0 z0 32 32 Try.underlying24 Hi.out hz0 hz1 hz2 hzs (by decide) _ 0 _ rfl hE _ D _ rfl (owns_below Q7.out hS) HPo.out (by have := HD.out; unfold maxLen; omega) (by have := HD.out; omega) hS.size ?_
        intro v6 U3 hown hgrow
        simp only [Act.put]
        have hX := (hgrow.block gx (Array.getElem?_eq_some_iff.1 hX).1 (fun e => hne (Option.some.inj e))).trans hX
        refine hK.out _ _ (hS.grown hgrow hS.size (fun g e => (hE.lt g e).1)) (fun hS => ?_)
        clear hK
        refine wpAnyH_ready (rs := [12]) (by kernel_rfl) (by simp) ?_
        refine AllReadyH.cons rfl (fun KQ hK => ?_) AllReadyH.nil
        rw [if_pos (by rfl)]
        refine wp_append_rows _ _ 24 rfl 28 i0 z0 32 32 Try.underlying24 Hi.out hz0 hz1 hz2 hzs (by decide) _ (0 + D) _ rfl hown _ 1 _ rfl (one_of_heapG hX HZo.out) HOo.out (by have := HD.out; unfold maxLen; omega) (by have := HD.out; omega) hS.size ?_
        intro v9 U9 hown9 hgrow9
        simp only [Act.put]
        refine hK.out _ _ (hS.grown hgrow9 hS.size (fun g e => (hown.lt g e).1)) (fun hS => ?_)
        clear hK
        rw [HTo.out, List.nil_append, ← List.map_append, Nat.zero_add] at hown9
        obtain ⟨qb, qc, rfl, hqc, hqm, _⟩ := owned_formG hown9 (by omega)
        have hR := rdk_of_owned (L := pl ++ now) (by rw [List.length_append, HPl.out, HNl.out.1]; omega) hown9
        clear hown9 hgrow9
        refine wpAnyH_ready (rs := [13]) (by kernel_rfl) (by simp) ?_
        refine AllReadyH.cons rfl (fun KQ hK => ?_) AllReadyH.nil
        rw [if_pos (by rfl)]
        go_simp
        refine (HC2.out _ _ _ hqc hqm hR).mono ?_
        rintro x U10 ⟨rfl, hb⟩
        refine hK.out _ _ (below_call hS hS.size hb) (fun hS => ?_)
        clear hb hK
        refine take_at (i := 14) (v := .tuple #[.bool false, .int .i64 0]) rfl rfl (by kernel_rfl) (by kernel_rfl) (by kernel_rfl) (fun _ _ _ h => h) (Or.inl ⟨by rfl, fun U hU => by go_simp⟩) hS ?_
        try simp only [List.setIfInBounds_toArray, List.set_cons_zero, List.set_cons_succ]
        refine take_at (i := 15) (v := .bool false) rfl rfl (by kernel_rfl) (by kernel_rfl) (by kernel_rfl) (fun _ _ _ h => h) (Or.inl ⟨by rfl, fun U hU => by go_simp⟩) hS ?_
        try simp only [List.setIfInBounds_toArray, List.set_cons_zero, List.set_cons_succ]
        refine take_at (i := 16) (v := .int .i64 0) rfl rfl (by kernel_rfl) (by kernel_rfl) (by kernel_rfl) (fun _ _ _ h => h) (Or.inl ⟨by rfl, fun U hU => by go_simp⟩) hS ?_
        try simp only [List.setIfInBounds_toArray, List.set_cons_zero, List.set_cons_succ]
        refine take_at (i := 17) (v := .bool false) rfl rfl (by kernel_rfl) (by kernel_rfl) (by kernel_rfl) (fun _ _ _ h => h) (Or.inl ⟨by rfl, fun U hU => by go_simp⟩) hS ?_
        try simp only [List.setIfInBounds_toArray, List.set_cons_zero, List.set_cons_succ]
        refine take_at (i := 18) (v := .int .i64 0) rfl rfl (by kernel_rfl) (by kernel_rfl) (by kernel_rfl) (fun _ _ _ h => h) (Or.inl ⟨by rfl, fun U hU => by go_simp⟩) hS ?_
        try simp only [List.setIfInBounds_toArray, List.set_cons_zero, List.set_cons_succ]
        refine wpAnyH_done (by kernel_rfl) ?_ _
        go_wp2_with fail
        go_meet
        exact ⟨rfl, rfl, _, rfl, hS⟩
    · rw [if_pos (by rfl)]
      refine wp_buildSlice_one 24 28 _ rfl Try.underlying24 Hi.out hz0 (ints .u8 now) rfl (by rw [HZo.out, hz1]) (by rw [hz1]; decide) (by rw [hz1]; decide) ?_
      simp only [Act.put]
      have hX := heap_alloc_last U0 (.cells (ints .u8 now) 28)
      refine hK.out _ _ (hS.alloc hS.size _) (fun hS => ?_)
      clear hK
      generalize U0.heap.size = gx at hX ⊢
      generalize U0.alloc (.cells (ints .u8 now) 28) = U1 at hX hS ⊢
      refine wpAnyH_ready (rs := [7]) (by kernel_rfl) (by simp) ?_
      refine AllReadyH.cons rfl (fun KQ hK => ?_) AllReadyH.nil
      rw [if_pos (by rfl)]
      go_simp
      have hE := owns_base hS.size (owns_empty U1 28 32)
      have hne : gx ≠ U1.heap.size := by have := (Array.getElem?_eq_some_iff.1 hX).1; omega
      have hX := keep_block hX ((Below.refl U1.heap.size U1).alloc (Nat.le_refl _) (.cells #[] 28))
      refine hK.out _ _ (hS.alloc hS.size _) (fun hS => ?_)
      clear hK
      generalize U1.heap.size = be at hE hne ⊢
      generalize U1.alloc (.cells #[] 28) = U2 at hE hS hX ⊢
      refine wpAnyH_ready (rs := [9]) (by kernel_rfl) (by simp) ?_
      refine AllReadyH.cons rfl (fun KQ hK => ?_) AllReadyH.nil
      rw [if_pos (by rfl)]
      refine wp_append_rows _ _ 24 rfl 28 i0 z0 32 32 Try.underlying24 Hi.out hz0 hz1 hz2 hzs (by decide) _ 0 _ rfl hE _ D _ rfl (owns_below Q7.out hS) HPo.out (by have := HD.out; unfold maxLen; omega) (by have := HD.out; omega) hS.size ?_
      intro v6 U3 hown hgrow
      simp only [Act.put]
      have hX := (hgrow.block gx (Array.getElem?_eq_some_iff.1 hX).1 (fun e => hne (Option.some.inj e))).trans hX
      refine hK.out _ _ (hS.grown hgrow hS.size (fun g e => (hE.lt g e).1)) (fun hS => ?_)
      clear hK
      refine wpAnyH_ready (rs := [12]) (by kernel_rfl) (by simp) ?_
      refine AllReadyH.cons rfl (fun KQ hK => ?_) AllReadyH.nil
      rw [if_pos (by rfl)]
      refine wp_append_rows _ _ 24 rfl 28 i0 z0 32 32 Try.underlying24 Hi.out hz0 hz1 hz2 hzs (by decide) _ (0 + D) _ rfl hown _ 1 _ rfl (one_of_heapG hX HZo.out) HOo.out (by have := HD.out; unfold maxLen; omega) (by have := HD.out; omega) hS.size ?_
      intro v9 U9 hown9 hgrow9
      simp only [Act.put]
      refine hK.out _ _ (hS.grown hgrow9 hS.size (fun g e => (hown.lt g e).1)) (fun hS => ?_)
      clear hK
      rw [HTo.out, List.nil_append, ← List.map_append, Nat.zero_add] at hown9
      obtain ⟨qb, qc, rfl, hqc, hqm, _⟩ := owned_formG hown9 (by omega)
      have hR := rdk_of_owned (L := pl ++ now) (by rw [List.length_append, HPl.out, HNl.out.1]; omega) hown9
      clear hown9 hgrow9
      refine wpAnyH_ready (rs := [13]) (by kernel_rfl) (by simp) ?_
      refine AllReadyH.cons rfl (fun KQ hK => ?_) AllReadyH.nil
      rw [if_pos (by rfl)]
      go_simp
      refine (HC2.out _ _ _ hqc hqm hR).mono ?_
      rintro x U10 ⟨rfl, hb⟩
      refine hK.out _ _ (below_call hS hS.size hb) (fun hS => ?_)
      clear hb hK
      refine take_at (i := 14) (v := .tuple #[.bool false, .int .i64 0]) rfl rfl (by kernel_rfl) (by kernel_rfl) (by kernel_rfl) (fun _ _ _ h => h) (Or.inl ⟨by rfl, fun U hU => by go_simp⟩) hS ?_
      try simp only [List.setIfInBounds_toArray, List.set_cons_zero, List.set_cons_succ]
      refine take_at (i := 15) (v := .bool false) rfl rfl (by kernel_rfl) (by kernel_rfl) (by kernel_rfl) (fun _ _ _ h => h) (Or.inl ⟨by rfl, fun U hU => by go_simp⟩) hS ?_
      try simp only [List.setIfInBounds_toArray, List.set_cons_zero, List.set_cons_succ]
      refine take_at (i := 16) (v := .int .i64 0) rfl rfl (by kernel_rfl) (by kernel_rfl) (by kernel_rfl) (fun _ _ _ h => h) (Or.inl ⟨by rfl, fun U hU => by go_simp⟩) hS ?_
      try simp only [List.setIfInBounds_toArray, List.set_cons_zero, List.set_cons_succ]
      refine take_at (i := 17) (v := .bool false) rfl rfl (by kernel_rfl) (by kernel_rfl) (by kernel_rfl) (fun _ _ _ h => h) (Or.inl ⟨by rfl, fun U hU => by go_simp⟩) hS ?_
      try simp only [List.setIfInBounds_toArray, List.set_cons_zero, List.set_cons_succ]
      refine take_at (i := 18) (v := .int .i64 0) rfl rfl (by kernel_rfl) (by kernel_rfl) (by kernel_rfl) (fun _ _ _ h => h) (Or.inl ⟨by rfl, fun U hU => by go_simp⟩) hS ?_
      try simp only [List.setIfInBounds_toArray, List.set_cons_zero, List.set_cons_succ]
      refine wpAnyH_done (by kernel_rfl) ?_ _
      go_wp2_with fail
      go_meet
      exact ⟨rfl, rfl, _, rfl, hS⟩
  case rest =>
    obtain ⟨rfl, rfl, w8, rfl, hbc⟩ := hcut
    have B8 := Lib.hid (below_call B7.out B7.out.size hbc)
    have G8 := Lib.hid (keep_block G7.out hbc)
    have R8 := Lib.hid (R7.out.below hbc)
    have P8 := Lib.hid (P7.out.below hbc)
    have Q8 := Lib.hid (owns_below Q7.out hbc)
    have K8 := Lib.hid (by have := R8.out.key q j11; rwa [Nat.zero_add, HKW.out] at this)
    clear hbc G7 R7 P7 Q7 K7 HC2 HZo HTo HPo HOo
    go_upto_region 13 with fail
    refine wp_region_held_drew (S := Below (w8).heap.size (w8)) (by kernel_rfl) ((Below.refl _ _).drew) (fun hS => ?_)
    refine take_at (i := 0) (v := .agg (ints .u8 now)) rfl rfl (by kernel_rfl) (by kernel_rfl) (by kernel_rfl) (fun _ _ _ h => h) (yields_box (by rfl) 28 _ rfl (x4) rfl _ 28 _ G8.out Try.underlying28 rfl (by rw [ints_size, HNl.out.1]; exact sizeKey)) hS ?_
    try simp only [List.setIfInBounds_toArray, List.set_cons_zero, List.set_cons_succ]
    refine take_at (i := 1) (v := .int .i64 (L : Int)) rfl rfl (by kernel_rfl) (by kernel_rfl) (by kernel_rfl) (fun _ _ _ h => h) (Or.inl ⟨by rfl, fun U hU => by go_simp⟩) hS ?_
    try simp only [List.setIfInBounds_toArray, List.set_cons_zero, List.set_cons_succ]
    refine take_at (i := 2) (v := .int .i64 (L : Int)) rfl rfl (by kernel_rfl) (by kernel_rfl) (by kernel_rfl) (fun _ _ _ h => h) (Or.inl ⟨by rfl, fun U hU => by go_simp⟩) hS ?_
    try simp only [List.setIfInBounds_toArray, List.set_cons_zero, List.set_cons_succ]
    refine take_at (i := 3) (v := .slice (some ⟨lb, 0, none⟩) L lc) rfl rfl (by kernel_rfl) (by kernel_rfl) (by kernel_rfl) (fun _ _ _ h => h) (Or.inl ⟨by rfl, fun U hU => by go_simp⟩) hS ?_
    try simp only [List.setIfInBounds_toArray, List.set_cons_zero, List.set_cons_succ]
    refine take_at (i := 4) (v := .int .i64 (q : Int)) rfl rfl (by kernel_rfl) (by kernel_rfl) (by kernel_rfl) (fun _ _ _ h => h) (Or.inl ⟨by rfl, fun U hU => by go_simp⟩) hS ?_
    try simp only [List.setIfInBounds_toArray, List.set_cons_zero, List.set_cons_succ]
    refine take_at (i := 5) (v := .pointer (some ⟨lb, q * 32, none⟩)) rfl rfl (by kernel_rfl) (by kernel_rfl) (by kernel_rfl) (fun _ _ _ h => h) (Or.inl ⟨by rfl, fun U hU => by go_simp⟩) hS ?_
    try simp only [List.setIfInBounds_toArray, List.set_cons_zero, List.set_cons_succ]
    refine take_at (i := 6) (v := .agg (ints .u8 kx)) rfl rfl (by kernel_rfl) (by kernel_rfl) (by kernel_rfl) (fun _ _ _ h => h) (yieldsIf_load_mid (by rfl) 28 _ rfl lb (q * 32) rfl (kx.map (Value.int .u8)) _ (fun U hU => rangeAt_below K8.out hU) Try.underlying28 rfl (by rw [List.length_map, HKX.out.1]; exact sizeKey)) hS ?_
    try simp only [List.setIfInBounds_toArray, List.set_cons_zero, List.set_cons_succ]
    refine take_at (i := 7) (v := .slice pa D pc) rfl rfl (by kernel_rfl) (by kernel_rfl) (by kernel_rfl) (fun _ _ _ h => h) (Or.inl ⟨by rfl, fun U hU => by go_simp⟩) hS ?_
    try simp only [List.setIfInBounds_toArray, List.set_cons_zero, List.set_cons_succ]
    refine wpAnyH_ready (rs := [8]) (by kernel_rfl) (by simp) ?_
    refine AllReadyH.cons rfl (fun KQ hK => ?_) AllReadyH.nil
    rw [if_pos (by rfl)]
    go_simp
    refine (HC3.out _ _ _ hpc hpm (P8.out.below hS)).mono ?_
    rintro x w9 ⟨rfl, hb⟩
    refine hK.out _ _ (below_call hS hS.size hb) (fun hS => ?_)
    clear hb hK
    refine take_at (i := 9) (v := .tuple #[.bool false, .int .i64 2]) rfl rfl (by kernel_rfl) (by kernel_rfl) (by kernel_rfl) (fun _ _ _ h => h) (Or.inl ⟨by rfl, fun U hU => by go_simp⟩) hS ?_
    try simp only [List.setIfInBounds_toArray, List.set_cons_zero, List.set_cons_succ]
    refine take_at (i := 10) (v := .bool false) rfl rfl (by kernel_rfl) (by kernel_rfl) (by kernel_rfl) (fun _ _ _ h => h) (Or.inl ⟨by rfl, fun U hU => by go_simp⟩) hS ?_
    try simp only [List.setIfInBounds_toArray, List.set_cons_zero, List.set_cons_succ]
    refine take_at (i := 11) (v := .int .i64 2) rfl rfl (by kernel_rfl) (by kernel_rfl) (by kernel_rfl) (fun _ _ _ h => h) (Or.inl ⟨by rfl, fun U hU => by go_simp⟩) hS ?_
    try simp only [List.setIfInBounds_toArray, List.set_cons_zero, List.set_cons_succ]
    refine take_at (i := 12) (v := .bool false) rfl rfl (by kernel_rfl) (by kernel_rfl) (by kernel_rfl) (fun _ _ _ h => h) (Or.inl ⟨by rfl, fun U hU => by go_simp⟩) hS ?_
    try simp only [List.setIfInBounds_toArray, List.set_cons_zero, List.set_cons_succ]
    refine take_at (i := 13) (v := .int .i64 2) rfl rfl (by kernel_rfl) (by kernel_rfl) (by kernel_rfl) (fun _ _ _ h => h) (Or.inl ⟨by rfl, fun U hU => by go_simp⟩) hS ?_
    try simp only [List.setIfInBounds_toArray, List.set_cons_zero, List.set_cons_succ]
    refine wpAnyH_done (by kernel_rfl) ?_ _
    have B9 := Lib.hid (below_call B8.out B8.out.size hS)
    have G9 := Lib.hid (keep_block G8.out hS)
    have R9 := Lib.hid (R8.out.below hS)
    have P9 := Lib.hid (P8.out.below hS)
    have K9 := Lib.hid (by have := R9.out.key q j11; rwa [Nat.zero_add, HKW.out] at this)
    clear hS G8 R8 P8 Q8 K8 HC3
    go_wp2_with (refine (wpList_load_ints rfl 28 (.tmp 130) rfl lb (q * 32) rfl .u8 kx _ K9.out Try.underlying28 rfl (by rw [HKX.out.1]; exact sizeKey) ?_))
    refine (HCO.out _ _ _ hpc hpm R9.out P9.out).mono ?_
    rintro x w10 ⟨rfl, hb⟩
    have Hzc := Lib.hid z128_ints
    have LA := laid_below w10 (ints .u8 z128) (ints .u8 V1) 38
    have BW := hb.trans (LA.mono hb.size)
    have B10 := Lib.hid (below_call B9.out B9.out.size BW)
    have G10 := Lib.hid (keep_block G9.out BW)
    have R10 := Lib.hid (R9.out.below BW)
    have P10 := Lib.hid (P9.out.below BW)
    rw [Hzc.out] at G10 R10 P10 B10
    clear LA BW hb G9 R9 P9 K9 HCO
    go_upto_region 17 with (first | (refine wpList_store_row rfl 38 (.tmp 20) _ rfl w10.heap.size (ints .u8 V1) rfl rfl 38 (ints .u8 z128) (by rw [Hzc.out]; exact heap_alloc_last _ _) (by rw [ints_size, HV1.out]; exact sizeClash) (by rw [ints_size, ints_size, HV1.out]; rfl) (ints_one _ _) ?_) | fail)
    generalize (w10.alloc (.cells Try.zeroCells38 38)).setRow w10.heap.size (ints .u8 V1) = W10 at G10 R10 P10 B10 ⊢
    have K10 := Lib.hid (by have := R10.out.key q j11; rwa [Nat.zero_add, HKW.out] at this)
    have L2 := laid_below W10 (ints .u8 z32) (ints .u8 kx) 28
    have H11 := Lib.hid (laid_new W10 (ints .u8 z32) (ints .u8 kx) 28)
    have B11 := Lib.hid (below_call B10.out B10.out.size L2)
    have G11 := Lib.hid (keep_block G10.out L2)
    have R11 := Lib.hid (R10.out.below L2)
    have P11 := Lib.hid (P10.out.below L2)
    have HX4 : Hid (x4 ≠ W10.heap.size ∧ lb ≠ W10.heap.size ∧ w.heap.size ≤ W10.heap.size) := Lib.hid ⟨by have := (Array.getElem?_eq_some_iff.1 G10.out).1; omega, by
      rcases R10.out.2 with h0 | ⟨b', o', e, hb', _⟩
      · omega
      · cases e; omega, B10.out.size⟩
    have hP0 : Hid (pa = none ∨ ∃ b, pa = some b) := Lib.hid (by cases pa; exact Or.inl rfl; exact Or.inr ⟨_, rfl⟩)
    clear L2
    go_upto_region 18 with (first | (refine wpList_load_ints rfl 28 (.tmp 151) rfl lb (q * 32) rfl .u8 kx _ K10.out Try.underlying28 rfl (by rw [HKX.out.1]; exact sizeKey) ?_) | (refine wpList_store_row rfl 28 (.tmp 22) _ rfl W10.heap.size (ints .u8 kx) rfl rfl 28 (ints .u8 z32) (by rw [Hz.out]; exact heap_alloc_last _ _) (by rw [ints_size, HKX.out.1]; exact sizeKey) (by rw [ints_size, ints_size, HKX.out.1]; rfl) (ints_one _ _) ?_))
    rw [← Hz.out]
    have P10' := P10
    generalize (W10.alloc (.cells (ints .u8 z32) 28)).setRow W10.heap.size (ints .u8 kx) = W11 at G11 R11 P11 B11 H11 ⊢
    have HPB : Hid (∀ b o, pa = some ⟨b, o, none⟩ → 0 < D → b ≠ W10.heap.size) := Lib.hid (fun b o e h => by
      rcases P10'.out.2 with h0 | ⟨b', o', e', hb', _⟩
      · omega
      · rw [e] at e'; cases e'; omega)
    generalize W10.heap.size = x11 at H11 HX4 HPB ⊢
    clear P10' G10 R10 P10 B10 K10
    try simp only [Act.put]
    go_cut [] (fun wx => ∃ lf, Is32 lf ∧ lf ≠ kx ∧ wx.heap[x11]? = some (.cells (ints .u8 lf) 28) ∧ wx.heap[x4]? = some (.cells (ints .u8 now) 28) ∧ RdK wx (some ⟨lb, 0, none⟩) L fl ∧ RdK wx pa D pl ∧ Below w.heap.size w wx)
    case first =>
      have hr : RdK W11.drew (some ⟨lb, 0, none⟩) L fl := R11.out.below (Below.refl _ _).drew
      have hp : RdK W11.drew pa D pl := P11.out.below (Below.refl _ _).drew
      have hg := keep_block G11.out (Below.refl W11.heap.size W11).drew
      have hh := keep_block H11.out (Below.refl W11.heap.size W11).drew
      have hbb := B11.out.drew
      refine wp_region_held_drew (S := fun _ => True) (by kernel_rfl) trivial (fun hS => ?_)
      generalize W11.drew = U0 at hr hp hg hh hbb ⊢
      refine take_at (i := 0) (v := .slice a2 n2 c2) rfl rfl (by kernel_rfl) (by kernel_rfl) (by kernel_rfl) (fun _ _ _ h => h) (Or.inl ⟨by rfl, fun U hU => by go_simp⟩) hS ?_
      try simp only [List.setIfInBounds_toArray, List.set_cons_zero, List.set_cons_succ]
      refine take_at (i := 4) (v := .slice a2 n2 c2) rfl rfl (by kernel_rfl) (by kernel_rfl) (by kernel_rfl) (fun _ _ _ h => h) (Or.inl ⟨by rfl, fun U hU => by go_simp⟩) hS ?_
      try simp only [List.setIfInBounds_toArray, List.set_cons_zero, List.set_cons_succ]
      refine wpAnyH_ready (rs := [1]) (by kernel_rfl) (by simp) ?_
      refine AllReadyH.cons rfl (fun KQ hK => ?_) AllReadyH.nil
      rw [if_pos (by rfl)]
      go_simp
      refine (Hat.out 2 (by omega) 32 (by omega) (by omega) _ hbb).mono ?_
      rintro x U' ⟨ra, rfl, ra0, ra1, rfl⟩
      refine hK.out _ _ trivial (fun hS => ?_)
      clear hK
      obtain ⟨i, rfl⟩ := Int.eq_ofNat_of_zero_le ra0
      have hi32 : i < 32 := by omega
      have hio : i < kx.length := by have := HKX.out.1; omega
      have i0' : (0 : Int) ≤ (i : Int) := ra0
      have i1' : (i : Int) < 32 := ra1
      have i2' : ¬ (32 : Int) ≤ (i : Int) := by omega
      obtain ⟨y, hy, hy0, hy1⟩ : ∃ y : Int, kx[i] = y ∧ 0 ≤ y ∧ y ≤ 255 := ⟨_, rfl, HKX.out.2 (kx[i]) (List.getElem_mem _)⟩
      have cy : U0.cell? ⟨x11, i, none⟩ = some (.int .u8 y) := by
        have c := (cell_of_row U0 x11 i _ _ _ hh).trans (ints_get .u8 kx i hio)
        rwa [List.getElem?_eq_getElem hio, hy] at c
      have fy : U0.frozen? ⟨x11, i, none⟩ = false := frozen_of_row U0 x11 i _ _ hh
      refine take_at (i := 2) (v := .pointer (some ⟨x11, i, none⟩)) rfl rfl (by kernel_rfl) (by kernel_rfl) (by kernel_rfl) (fun _ _ _ h => h) (Or.inl ⟨by rfl, fun U hU => by go_simp⟩) hS ?_
      try simp only [List.setIfInBounds_toArray, List.set_cons_zero, List.set_cons_succ]
      refine wpAnyH_ready (rs := [3, 5]) (by kernel_rfl) (by simp) ?_
      refine AllReadyH.cons rfl (fun KQ hK => ?_) (AllReadyH.cons rfl (fun KQ hK => ?_) AllReadyH.nil)
      · rw [if_pos (by rfl)]
        go_simp
        refine hK.out _ _ trivial (fun hS => ?_)
        clear hK
        refine wpAnyH_ready (rs := [5]) (by kernel_rfl) (by simp) ?_
        refine AllReadyH.cons rfl (fun KQ hK => ?_) AllReadyH.nil
        rw [if_pos (by rfl)]
        go_simp
        refine (Hat.out 3 (by omega) 255 (by omega) (by omega) _ hbb).mono ?_
        rintro x U' ⟨rb, rfl, rb0, rb1, rfl⟩
        refine hK.out _ _ trivial (fun hS => ?_)
        clear hK
        have rb2 : 1 + rb ≤ 255 := by omega
        have rb3 : 0 ≤ 1 + rb := by omega
        have hwr : IntKind.u8.wrap (1 + rb) = 1 + rb := by rw [IntKind.wrap_u8]; omega
        refine take_at (i := 6) (v := .int .i64 (1 + rb)) rfl rfl (by kernel_rfl) (by kernel_rfl) (by kernel_rfl) (fun _ _ _ h => h) (Or.inl ⟨by rfl, fun U hU => by go_simp; exact IntWalk.i64_in _ ⟨by omega, by omega⟩⟩) hS ?_
        try simp only [List.setIfInBounds_toArray, List.set_cons_zero, List.set_cons_succ]
        refine take_at (i := 7) (v := .int .u8 (1 + rb)) rfl rfl (by kernel_rfl) (by kernel_rfl) (by kernel_rfl) (fun _ _ _ h => h) (Or.inl ⟨by rfl, fun U hU => by go_simp⟩) hS ?_
        try simp only [List.setIfInBounds_toArray, List.set_cons_zero, List.set_cons_succ]
        have hx := xor_rangeT y (1 + rb) hy0 hy1 rb3 rb2
        have hxn := xor_neT y (1 + rb) hy0 hy1 (by omega) rb2
        have hH := heap_setCell_same U0 x11 i _ _ (.int .u8 (bits BinOp.xor IntKind.u8 y (1 + rb))) hh
        rw [ints_set] at hH
        have hG := (heap_setCell_other U0 ⟨x11, i, none⟩ x4 (.int .u8 (bits BinOp.xor IntKind.u8 y (1 + rb))) HX4.out.1).trans hg
        have hB := hbb.trans (Below.setCell (p := ⟨x11, i, none⟩) (Below.refl w.heap.size U0) HX4.out.2.2 (.int .u8 (bits BinOp.xor IntKind.u8 y (1 + rb))))
        have hR := RdK_setX (z := .int .u8 (bits BinOp.xor IntKind.u8 y (1 + rb))) (g := x11) (i := i) hr (fun b o e _ => by cases e; exact HX4.out.2.1)
        have hP := RdK_setX (z := .int .u8 (bits BinOp.xor IntKind.u8 y (1 + rb))) (g := x11) (i := i) hp HPB.out
        have hI : Is32 (kx.set i (bits BinOp.xor IntKind.u8 y (1 + rb))) := ⟨by rw [List.length_set]; exact HKX.out.1, fun z hz => by
          rcases List.mem_or_eq_of_mem_set hz with hz | rfl
          · exact HKX.out.2 z hz
          · exact hx⟩
        have hN : kx.set i (bits BinOp.xor IntKind.u8 y (1 + rb)) ≠ kx := fun e => set_neT hio (by rw [hy]; exact hxn) e.symm
        have b0 := hx.1
        have b1 := hx.2
        refine take_at (i := 8) (v := .int .u8 (bits BinOp.xor IntKind.u8 y (1 + rb))) rfl rfl (by kernel_rfl) (by kernel_rfl) (by kernel_rfl) (fun _ _ _ h => h) (Or.inl ⟨by rfl, fun U hU => by go_simp⟩) hS ?_
        try simp only [List.setIfInBounds_toArray, List.set_cons_zero, List.set_cons_succ]
        refine take_at (i := 9) (v := .pointer (some ⟨x11, i, none⟩)) rfl rfl (by kernel_rfl) (by kernel_rfl) (by kernel_rfl) (fun _ _ _ h => h) (Or.inl ⟨by rfl, fun U hU => by go_simp⟩) hS ?_
        try simp only [List.setIfInBounds_toArray, List.set_cons_zero, List.set_cons_succ]
        refine wpAnyH_ready (rs := [10]) (by kernel_rfl) (by simp) ?_
        refine AllReadyH.cons rfl (fun KQ hK => ?_) AllReadyH.nil
        rw [if_pos (by rfl)]
        go_simp
        refine hK.out _ _ trivial (fun hS => ?_)
        clear hK
        refine wpAnyH_done (by kernel_rfl) ?_ _
        go_wp2_with fail
        go_meet
        exact ⟨_, hI, hN, hH, hG, hR, hP, hB⟩
      · rw [if_pos (by rfl)]
        go_simp
        refine (Hat.out 3 (by omega) 255 (by omega) (by omega) _ hbb).mono ?_
        rintro x U' ⟨rb, rfl, rb0, rb1, rfl⟩
        refine hK.out _ _ trivial (fun hS => ?_)
        clear hK
        have rb2 : 1 + rb ≤ 255 := by omega
        have rb3 : 0 ≤ 1 + rb := by omega
        have hwr : IntKind.u8.wrap (1 + rb) = 1 + rb := by rw [IntKind.wrap_u8]; omega
        refine take_at (i := 6) (v := .int .i64 (1 + rb)) rfl rfl (by kernel_rfl) (by kernel_rfl) (by kernel_rfl) (fun _ _ _ h => h) (Or.inl ⟨by rfl, fun U hU => by go_simp; exact IntWalk.i64_in _ ⟨by omega, by omega⟩⟩) hS ?_
        try simp only [List.setIfInBounds_toArray, List.set_cons_zero, List.set_cons_succ]
        refine take_at (i := 7) (v := .int .u8 (1 + rb)) rfl rfl (by kernel_rfl) (by kernel_rfl) (by kernel_rfl) (fun _ _ _ h => h) (Or.inl ⟨by rfl, fun U hU => by go_simp⟩) hS ?_
        try simp only [List.setIfInBounds_toArray, List.set_cons_zero, List.set_cons_succ]
        refine wpAnyH_ready (rs := [3]) (by kernel_rfl) (by simp) ?_
        refine AllReadyH.cons rfl (fun KQ hK => ?_) AllReadyH.nil
        rw [if_pos (by rfl)]
        go_simp
        refine hK.out _ _ trivial (fun hS => ?_)
        clear hK
        have hx := xor_rangeT y (1 + rb) hy0 hy1 rb3 rb2
        have hxn := xor_neT y (1 + rb) hy0 hy1 (by omega) rb2
        have hH := heap_setCell_same U0 x11 i _ _ (.int .u8 (bits BinOp.xor IntKind.u8 y (1 + rb))) hh
        rw [ints_set] at hH
        have hG := (heap_setCell_other U0 ⟨x11, i, none⟩ x4 (.int .u8 (bits BinOp.xor IntKind.u8 y (1 + rb))) HX4.out.1).trans hg
        have hB := hbb.trans (Below.setCell (p := ⟨x11, i, none⟩) (Below.refl w.heap.size U0) HX4.out.2.2 (.int .u8 (bits BinOp.xor IntKind.u8 y (1 + rb))))
        have hR := RdK_setX (z := .int .u8 (bits BinOp.xor IntKind.u8 y (1 + rb))) (g := x11) (i := i) hr (fun b o e _ => by cases e; exact HX4.out.2.1)
        have hP := RdK_setX (z := .int .u8 (bits BinOp.xor IntKind.u8 y (1 + rb))) (g := x11) (i := i) hp HPB.out
        have hI : Is32 (kx.set i (bits BinOp.xor IntKind.u8 y (1 + rb))) := ⟨by rw [List.length_set]; exact HKX.out.1, fun z hz => by
          rcases List.mem_or_eq_of_mem_set hz with hz | rfl
          · exact HKX.out.2 z hz
          · exact hx⟩
        have hN : kx.set i (bits BinOp.xor IntKind.u8 y (1 + rb)) ≠ kx := fun e => set_neT hio (by rw [hy]; exact hxn) e.symm
        have b0 := hx.1
        have b1 := hx.2
        refine take_at (i := 8) (v := .int .u8 (bits BinOp.xor IntKind.u8 y (1 + rb))) rfl rfl (by kernel_rfl) (by kernel_rfl) (by kernel_rfl) (fun _ _ _ h => h) (Or.inl ⟨by rfl, fun U hU => by go_simp⟩) hS ?_
        try simp only [List.setIfInBounds_toArray, List.set_cons_zero, List.set_cons_succ]
        refine take_at (i := 9) (v := .pointer (some ⟨x11, i, none⟩)) rfl rfl (by kernel_rfl) (by kernel_rfl) (by kernel_rfl) (fun _ _ _ h => h) (Or.inl ⟨by rfl, fun U hU => by go_simp⟩) hS ?_
        try simp only [List.setIfInBounds_toArray, List.set_cons_zero, List.set_cons_succ]
        refine wpAnyH_ready (rs := [10]) (by kernel_rfl) (by simp) ?_
        refine AllReadyH.cons rfl (fun KQ hK => ?_) AllReadyH.nil
        rw [if_pos (by rfl)]
        go_simp
        refine hK.out _ _ trivial (fun hS => ?_)
        clear hK
        refine wpAnyH_done (by kernel_rfl) ?_ _
        go_wp2_with fail
        go_meet
        exact ⟨_, hI, hN, hH, hG, hR, hP, hB⟩
    case rest =>
      obtain ⟨lf, hlf, hne, h1, h2, h3, h4, h5⟩ := hcut
      have H12 := Lib.hid h1
      have G12 := Lib.hid h2
      have R12 := Lib.hid h3
      have P12 := Lib.hid h4
      have B12 := Lib.hid h5
      have HLF := Lib.hid hlf
      obtain ⟨b, E, V, e1, e2, e3, e4, e5⟩ := HALL.out lf hlf hne
      have HQ1 := Lib.hid e1
      have HQ2 := Lib.hid e2
      have HVL := Lib.hid e3
      have HT := Lib.hid e4
      have HF := Lib.hid e5
      clear h1 h2 h3 h4 h5 hlf hne e1 e2 e3 e4 e5 HALL H11 G11 R11 P11 B11
      go_wp2_with (first | (refine wpList_load_row rfl 28 (.tmp 7) rfl x4 rfl 28 (ints .u8 now) (0, 0) _ G12.out Try.underlying28 rfl (by rw [ints_size, HNl.out.1]; exact sizeKey) ?_) | (refine wpList_load_row rfl 28 (.tmp 22) rfl x11 rfl 28 (ints .u8 lf) (0, 0) _ H12.out Try.underlying28 rfl (by rw [ints_size, HLF.out.1]; exact sizeKey) ?_))
      refine (HQ1.out _ _ _ hpc hpm P12.out).mono ?_
      rintro x w13 ⟨rfl, hb⟩
      have B13 := Lib.hid (below_call B12.out B12.out.size hb)
      have G13 := Lib.hid (keep_block G12.out hb)
      have H13 := Lib.hid (keep_block H12.out hb)
      have R13 := Lib.hid (R12.out.below hb)
      have P13 := Lib.hid (P12.out.below hb)
      clear hb G12 H12 R12 P12
      go_wp2_with (first | (refine wpList_load_row rfl 28 (.tmp 22) rfl x11 rfl 28 (ints .u8 lf) (0, 0) _ H13.out Try.underlying28 rfl (by rw [ints_size, HLF.out.1]; exact sizeKey) ?_))
      refine (HQ2.out _ _ _ hpc hpm R13.out P13.out).mono ?_
      rintro x w14 ⟨rfl, hb⟩
      have LA := laid_below w14 (ints .u8 z128) (ints .u8 V) 38
      have BW := hb.trans (LA.mono hb.size)
      have C14 := Lib.hid (laid_new w14 (ints .u8 z128) (ints .u8 V) 38)
      have B14 := Lib.hid (below_call B13.out B13.out.size BW)
      rw [Hzc.out] at C14 B14
      clear hb LA BW G13 H13 R13 P13
      cases b with
      | true =>
        obtain ⟨e, hcl⟩ := HT.out rfl
        subst e
        have HVS := Lib.hid (fun U => valid_cl hcl U)
        have HVI := Lib.hid (fun U => cl_ok hcl U)
        clear hcl HT HF
        go_wp2_with (first | (refine wpList_store_row rfl 38 (.tmp 25) _ rfl w14.heap.size (ints .u8 V) rfl rfl 38 (ints .u8 z128) (by rw [Hzc.out]; exact heap_alloc_last _ _) (by rw [ints_size, HVL.out]; exact sizeClash) (by rw [ints_size, ints_size, HVL.out]; rfl) (ints_one _ _) ?_) | (refine wpList_load_row_g2 (by rfl) 38 (.tmp 25) rfl w14.heap.size rfl 38 (ints .u8 V) (0, 0) _ C14.out Try.underlying38 rfl (by rw [ints_size, HVL.out]; exact sizeClash) ?_))
        refine (HVS.out _).mono ?_
        rintro x w15 ⟨rfl, hb⟩
        have B15 := Lib.hid (below_call B14.out B14.out.size hb)
        have C15 := Lib.hid (keep_block C14.out hb)
        clear hb
        go_wp2_with (first | (refine wpList_load_row_g2 (by rfl) 38 (.tmp 25) rfl w14.heap.size rfl 38 (ints .u8 V) (0, 0) _ C15.out Try.underlying38 rfl (by rw [ints_size, HVL.out]; exact sizeClash) ?_))
        refine (HVI.out _).mono ?_
        rintro x w16 ⟨rfl, hb⟩
        have B16 := Lib.hid (below_call B15.out B15.out.size hb)
        clear hb
        go_wp2_with fail
        go_ret
        exact ⟨rfl, B16.out⟩
      | false =>
        have e := HF.out rfl
        subst e
        clear HT HF
        go_wp2_with (first | (refine wpList_store_row rfl 38 (.tmp 25) _ rfl w14.heap.size (ints .u8 V) rfl rfl 38 (ints .u8 z128) (by rw [Hzc.out]; exact heap_alloc_last _ _) (by rw [ints_size, HVL.out]; exact sizeClash) (by rw [ints_size, ints_size, HVL.out]; rfl) (ints_one _ _) ?_))
        go_ret
        exact ⟨rfl, B14.out⟩
set_option maxRecDepth 100000 in
set_option maxHeartbeats 2000000 in
theorem FnListProofs_walk (a1 : Option Addr) (n1 c1 : Nat) (z1 : List Int) (a2 : Option Addr) (n2 c2 : Nat) (z2 : List Int) (w : World) (f1 : IsRow .u8 w a1 n1 c1 z1) (f2 : IsRow .u8 w a2 n2 c2 z2) :
    Calls Try.prog 3 #[.slice a1 n1 c1, .slice a2 n2 c2] w fun e w' => e = .returned (.bool true) ∧ Below w.heap.size w w' := by
  by_cases h : n1 ≤ 3000 ∧ n2 ≤ 3000
  · exact lp_in a1 a2 n1 n2 c1 c2 (z1.take n1) (z2.take n2) h.1 h.2 (fun z hz => bounds_u8 (rd_wf f1 z hz)) (fun z hz => bounds_u8 (rd_wf f2 z hz)) w (rd_of_row f1) (rd_of_row f2)
  · have Hlg := Lib.hid (fun U => long_yes a1 a2 n1 n2 c1 c2 h U)
    clear h
    go_enter Try.func3, Try.ntmps3
    go_wp2_with fail
    refine (Hlg.out _).mono ?_
    rintro x w0 ⟨rfl, rfl⟩
    go_wp2_with fail
    go_ret
    exact ⟨rfl, Below.refl _ _⟩
end Go.Proofs.Ytjijgckljjcfiaa
namespace Go.Proofs.Ytjijgckljjcfiaa.fnListProofs
open Go.ChangeShapes Go.WideShapes Go.ChangeAt Go.RowKit
set_option linter.unusedVariables false
set_option maxRecDepth 100000 in
theorem lifted (os : Os) (started : os.Started) (H : Type) (enc : TypeId × Value → H) :
    ReturnsInHanded {} Try.checked os 3 .any (Rows.fnListProofsSpec.pre6 enc Try.prog Try.f3 Rows.fnListProofsRow.domain false) (Rows.fnListProofsSpec.post enc Try.prog Try.f3 false true false false) := by
  refine returnsInHanded_of_change (C := Try.checked) own started (by kernel_rfl) Try.func3
    (ChangeSpec.witness6 (enc := enc) (C := Try.checked) false ⟨#[], #[.slice none 0 0, .slice none 0 0], []⟩ 8 (by kernel_rfl) (by kernel_rfl) (by kernel_rfl) (by kernel_rfl)) ?_
  intro W base args ds gs before hval0 hW hcnd _
  have hval : ∀ (j : Nat) t v, Try.f3.params[j]? = some t → args[j]? = some v → Value.okWide Try.prog W .any base t v := hval0
  have hW' := hW
  obtain ⟨p, q, hA0, hV, rfl, hfz, hnd⟩ := hW
  have hA : DataW.TrodAll enc Try.prog W 0 (fun _ => true) true Try.f3.params.toList args.toList ds p := hA0
  rw [Try.params3] at hA hval
  obtain ⟨v0, vs0, d0, ds0, p0, q0, hargs, rfl, rfl, h0, r0⟩ := trodAll_cons hA
  obtain ⟨v1, vs1, d1, ds1, p1, q1, rfl, rfl, rfl, h1, r1⟩ := trodAll_cons r0
  obtain ⟨rfl, rfl, rfl⟩ := trodAll_nil r1
  obtain rfl : args = #[v0, v1] := by cases args; simp_all
  obtain ⟨rfl, rfl⟩ := trodVars_none hV
  have k0 := h0
  have lt0 : ∀ x ∈ p0, x.block < W.heap.size := by obtain ⟨m, hm⟩ := k0; exact DataW.trod_lt m _ _ _ hm
  have k1 := h1
  have lt1 : ∀ x ∈ p1, x.block < W.heap.size := by obtain ⟨m, hm⟩ := k1; exact DataW.trod_lt m _ _ _ hm
  obtain ⟨a0, len0, cap0, rfl⟩ := okWide_slice Try.underlying22 (hval 0 22 v0 rfl rfl)
  obtain ⟨z0, f0⟩ := open_row Try.underlying22 Try.underlying5 (by kernel_rfl) k0
  obtain ⟨a1, len1, cap1, rfl⟩ := okWide_slice Try.underlying22 (hval 1 22 v1 rfl rfl)
  obtain ⟨z1, f1⟩ := open_row Try.underlying22 Try.underlying5 (by kernel_rfl) k1
  clear hA0 hval0
  refine (FnListProofs_walk a0 len0 cap0 z0 a1 len1 cap1 z1 W f0 f1).mono fun e W' ⟨he, bel⟩ => ?_
  subst he
  exact ⟨_, rfl, _, _, _, [], _, [], hW', trodAll_mk1 (shut_bool Try.underlying4 _), (trodAll_cons_mk (Below.trod laidOut (by kernel_rfl) (of_decide_eq_true (by kernel_rfl)) k0 bel lt0) (trodAll_cons_mk (Below.trod laidOut (by kernel_rfl) (of_decide_eq_true (by kernel_rfl)) k1 bel lt1) trodAll_mk0)), rfl, bel.frame _, fun h => by cases h⟩
theorem over : Rows.fnListProofsRow.holds Try.pinned (OpenSpec.ofChange Rows.fnListProofsSpec) :=
  OpenClaim.holds_of_wide 3 Try.f3 rfl rfl rfl rfl rfl rfl rfl ⟨rfl, rfl, rfl, rfl, rfl⟩ rfl rfl rfl rfl rfl (by kernel_rfl) Try.func3 (by kernel_rfl)
    (of_decide_eq_true (by kernel_rfl)) (by unfold Func.isWrapper; first | (rw [if_pos (by decide +kernel)]; kernel_rfl) | (rw [if_neg (by decide +kernel)]; exact ⟨rfl, rfl⟩))
    (fun os started H enc _ => lifted os started H enc)
/-- THE STATEMENT -/
theorem proved : Rows.FnListProofsSaid := over
#print axioms proved
end Go.Proofs.Ytjijgckljjcfiaa.fnListProofs
