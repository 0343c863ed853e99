/- IsPartOf, by the program, whole. Written by hand. -/
import Derived.Test.YtdoelmjaongjfaaQaE
import Derived.Test.YtdoelmjaongjfaaQt
namespace Go.Proofs.Ytdoelmjaongjfaa
open Go.ChangeShapes Go.WideShapes Go.ChangeAt Go.RowKit
set_option linter.unusedVariables false
set_option linter.unusedSimpArgs false
theorem gd_at {cs : List BlV} (h : ascB cs) {i : Nat} {x y : BlV} (hy : cs[i]? = some y) (hk : keyX y = keyX x) : gdB cs x = decide (x.t = y.t ∧ x.l = y.l) := by
  unfold gdB
  rw [inS_iff.2 ⟨y, List.mem_of_getElem? hy, hk⟩, difB_one h (List.mem_of_getElem? hy) hk]
  simp only [Bool.true_and, Bool.not_not]
  exact decide_eq_decide.2 ⟨fun h => ⟨h.1.symm, h.2.symm⟩, fun h => ⟨h.1.symm, h.2.symm⟩⟩
theorem gd_none {cs : List BlV} {x : BlV} (h : ∀ (i : Nat) (y : BlV), cs[i]? = some y → keyX y ≠ keyX x) : gdB cs x = false := by
  unfold gdB
  rw [inS_no.2 (fun y hy => by obtain ⟨i, hi⟩ := List.getElem?_of_mem hy; exact h i y hi)]
  rfl
set_option maxRecDepth 100000 in
set_option maxHeartbeats 8000000 in
theorem ip_spec (g g' n n' : Nat) (bs cs : List BlV) (hn : n ≤ 1048576) (hn' : n' ≤ 1048576) (hl : bs.length = n) (hl' : cs.length = n') (hf : ∀ (i : Nat) (x : BlV), bs[i]? = some x → BlG x) (hf' : ∀ (i : Nat) (x : BlV), cs[i]? = some x → BlG x) (w : World) (ha : OutB w g n n bs) (ha' : OutB w g' n' n' cs) :
    Calls Try.prog 47 #[.agg #[.slice (some ⟨g, 0, none⟩) n n], .agg #[.slice (some ⟨g', 0, none⟩) n' n']] w fun e w' => e = .returned (.tuple #[.bool (ipV bs cs), .int .i64 (ipC bs cs)]) ∧ Below w.heap.size w w' := by
  have BX : Below w.heap.size w ((w.alloc (.cells #[.slice (some ⟨g, 0, none⟩) n n] 29)).alloc (.cells #[.slice (some ⟨g', 0, none⟩) n' n'] 29)) := by go_grown
  have A0 := heap_alloc2_old w (.cells #[.slice (some ⟨g, 0, none⟩) n n] 29) (.cells #[.slice (some ⟨g', 0, none⟩) n' n'] 29)
  have A1 := heap_alloc2_new w (.cells #[.slice (some ⟨g, 0, none⟩) n n] 29) (.cells #[.slice (some ⟨g', 0, none⟩) n' n'] 29)
  obtain ⟨w0, hw0⟩ : ∃ w0, (w.alloc (.cells #[.slice (some ⟨g, 0, none⟩) n n] 29)).alloc (.cells #[.slice (some ⟨g', 0, none⟩) n' n'] 29) = w0 := ⟨_, rfl⟩
  rw [hw0] at BX A0 A1
  have HO := Lib.hid (open_spec w.heap.size g n bs hn hl hf w0 A0 (ha.below BX))
  have HO2 := Lib.hid (fun U (hU : Below w0.heap.size w0 U) => open_spec (w.heap.size + 1) g' n' cs hn' hl' hf' U (keep_block A1 hU) ((ha'.below BX).below hU))
  have HB := Lib.hid BX
  have HL := Lib.hid hl
  have HL' := Lib.hid hl'
  have HF : Hid (∀ (i : Nat) (x : BlV), bs[i]? = some x → BlF x) := Lib.hid (fun i x h => (hf i x h).1)
  have HF' : Hid (∀ (i : Nat) (x : BlV), cs[i]? = some x → BlF x) := Lib.hid (fun i x h => (hf' i x h).1)
  clear ha ha' hf hf' hl hl' A0 A1 BX
  go_enter Try.func47, Try.ntmps47
  go_wp2_with fail
  refine HO.out.mono ?_
  rintro e w1 ⟨h, hb⟩
  have B1 := Lib.hid (HB.out.trans (hb.mono HB.out.size))
  have HO3 := Lib.hid (HO2.out w1 hb)
  clear hb HO HO2 HB hw0
  rcases h with ⟨hP, rfl, v1, v2, ys, hop⟩ | ⟨hP, rfl⟩
  · have HP := Lib.hid hP
    have OP := Lib.hid hop
    clear hP hop
    go_wp2_with fail
    refine HO3.out.mono ?_
    rintro e w2 ⟨h, hb⟩
    have B2 := Lib.hid (below_call B1.out B1.out.size hb)
    have P2 := Lib.hid (OP.out.below hb)
    clear hb HO3 B1 OP
    rcases h with ⟨hP2, rfl, u1, u2, zs, hop⟩ | ⟨hP2, rfl⟩
    · have HC := Lib.hid hP2.asc
      have HE := Lib.hid (ip_yes ⟨HP.out, hP2⟩)
      have Y2 := Lib.hid hop
      clear hP2 hop
      obtain ⟨a1, c1, rfl⟩ := P2.out.shape
      obtain ⟨a2, c2, rfl⟩ := keyOwn P2.out.row2
      have z1 : (0 : Int) ≤ (n : Int) := by omega
      have z2 : (n : Int) ≤ 1048576 := by omega
      go_wp2_with fail
      go_loopw [10] (fun i wr => ∃ k : Nat, k ≤ n ∧ i = .int .i64 (k : Int) ∧ Below w2.heap.size w2 wr ∧ Hid (∀ (j : Nat) (x : BlV), j < k → bs[j]? = some x → gdB cs x = true)) (fun i _ => n - (intOf i).toNat)
      case atStart => exact ⟨0, by omega, rfl, Below.refl _ _, Lib.hid (fun j x hj _ => by omega)⟩
      case round =>
        obtain ⟨k, hk, rfl, hb, hgd⟩ := hrel
        have B4 := Lib.hid hb
        have P4 := Lib.hid (P2.out.below hb)
        have Y4 := Lib.hid (Y2.out.below hb)
        clear hb
        have qx := cell_of_row _ _ 0 _ _ _ P4.out.box
        have qk := cell_of_row _ _ 1 _ _ _ P4.out.box
        rw [HL.out] at qx qk
        by_cases hlt : k < n
        · have b0 : (0 : Int) ≤ (k : Int) := by omega
          have b1 : (k : Int) < (n : Int) := by omega
          obtain ⟨x, hx0⟩ : ∃ x, bs[k]? = some x := ⟨bs[k]'(by have := HL.out; omega), List.getElem?_eq_getElem _⟩
          have HX0 := Lib.hid hx0
          obtain ⟨kg, cap, hv, hrg⟩ := P4.out.anyKey hx0
          cases hv
          obtain ⟨gb, capb, yb, hvb, hb0, hb1, hb2⟩ := P4.out.blob hx0
          cases hvb
          have BA := Lib.hid (show BlAtO wr gb (k * 2) yb x.t x.n x.l from ⟨hb0, hb1, hb2⟩)
          have XF := Lib.hid (HF.out k x hx0)
          obtain ⟨V, hV⟩ : ∃ V, keyX x = V := ⟨_, rfl⟩
          rw [hV] at hrg
          have HV := Lib.hid hV
          have RG := Lib.hid (hrg wr (Below.refl _ _))
          have VK := Lib.hid (show IsK V by rw [← hV]; exact isK_keyX x)
          have HFD := Lib.hid (find_spec w1.heap.size w1.heap.size u1 u2 cs zs V VK.out (by have := HL'.out; omega) wr Y4.out)
          clear hrg hx0 hV hb0 hb1 hb2
          go_upto_region 8 with fail
          go_upto_region 9 with (first
            | (refine wpList_load_ints rfl 46 _ rfl kg (k * 32) rfl .u8 V _ RG.out Try.underlying46 rfl (by rw [VK.out.1]; exact sizeKey) ?_)
            | (go_at_call 64; refine HFD.out.mono ?_; rintro e w5 ⟨r, rfl, hr, hb⟩))
          have B5 := Lib.hid (below_call B4.out B4.out.size hb)
          have P5 := Lib.hid (P4.out.below hb)
          have Y5 := Lib.hid (Y4.out.below hb)
          have BA5 := Lib.hid (show BlAtO w5 gb (k * 2) yb x.t x.n x.l from ⟨(BA.out.keep hb).1, (BA.out.keep hb).2, keep_block BA.out.2.2 hb⟩)
          clear hb qx qk
          rcases hr with ⟨j, y, hy, hky, rfl⟩ | ⟨hno, rfl⟩
          · have j0 : (0 : Int) ≤ (j : Int) := by omega
            have hjl := (List.getElem?_eq_some_iff.1 hy).1
            have j1 : (j : Int) < (cs.length : Int) := by omega
            have j2 : ¬ (j : Int) < 0 := by omega
            have HG := Lib.hid (gd_at (x := x) HC.out hy (hky.trans HV.out.symm))
            obtain ⟨gy, capy, yy, hvy, hy0, hy1, hy2⟩ := Y5.out.blob hy
            subst hvy
            have BY := Lib.hid (show BlAtO w5 gy (j * 2) yy y.t y.n y.l from ⟨hy0, hy1, hy2⟩)
            have YF := Lib.hid (HF'.out j y hy)
            have HSB := Lib.hid (fun U (hU : Below w5.heap.size w5 U) => sb_specA gb (k * 2) gy (j * 2) yb yy x.t y.t x.n y.n x.l y.l U XF.out.1 YF.out.1 XF.out.2.1 YF.out.2.1 XF.out.2.2 YF.out.2.2 ⟨(BA5.out.keep hU).1, (BA5.out.keep hU).2, keep_block BA5.out.2.2 hU⟩ ⟨(BY.out.keep hU).1, (BY.out.keep hU).2, keep_block BY.out.2.2 hU⟩)
            generalize decide (x.t = y.t ∧ x.l = y.l) = D at HSB HG
            have PX := Lib.hid P5.out.box
            have PY := Lib.hid Y5.out.box
            rw [HL.out] at PX
            clear hy hky hy0 hy1 hy2
            refine rq_class (C := Below w5.heap.size w5) (by kernel_rfl) (by kernel_rfl) ((Below.refl _ _).drew) ?_
            refine rq_take (v := .int .i64 (j : Int)) (by kernel_rfl) (fun W hW => by go_simp <;> omega) ?_
            simp only [Act.put, List.setIfInBounds_toArray, List.set_cons_succ, List.set_cons_zero]
            refine rq_take (v := .bool false) (by kernel_rfl) (fun W hW => by go_simp <;> omega) ?_
            simp only [Act.put, List.setIfInBounds_toArray, List.set_cons_succ, List.set_cons_zero]
            refine rq_take (v := .bool false) (by kernel_rfl) (fun W hW => by go_simp <;> omega) ?_
            simp only [Act.put, List.setIfInBounds_toArray, List.set_cons_succ, List.set_cons_zero]
            refine rq_take (v := .pointer (some ⟨w0.heap.size, 0, none⟩)) (by kernel_rfl) (fun W hW => by go_simp <;> omega) ?_
            simp only [Act.put, List.setIfInBounds_toArray, List.set_cons_succ, List.set_cons_zero]
            refine rq_take (v := .pointer (some ⟨w0.heap.size, 0, none⟩)) (by kernel_rfl) (fun W hW => by go_simp <;> omega) ?_
            simp only [Act.put, List.setIfInBounds_toArray, List.set_cons_succ, List.set_cons_zero]
            refine rq_take (v := .pointer (some ⟨w0.heap.size, 0, none⟩)) (by kernel_rfl) (fun W hW => by go_simp <;> omega) ?_
            simp only [Act.put, List.setIfInBounds_toArray, List.set_cons_succ, List.set_cons_zero]
            refine rq_take (v := .slice (some ⟨gb, 0, none⟩) n c1) (by kernel_rfl) (fun W hW => by have cu := cell_of_row _ w0.heap.size 0 _ _ _ (keep_block PX.out hW); go_simp) ?_
            simp only [Act.put, List.setIfInBounds_toArray, List.set_cons_succ, List.set_cons_zero]
            refine rq_take (v := .int .i64 (k : Int)) (by kernel_rfl) (fun W hW => by go_simp <;> omega) ?_
            simp only [Act.put, List.setIfInBounds_toArray, List.set_cons_succ, List.set_cons_zero]
            refine rq_take (v := .pointer (some ⟨gb, k * 2, none⟩)) (by kernel_rfl) (fun W hW => by go_simp <;> omega) ?_
            simp only [Act.put, List.setIfInBounds_toArray, List.set_cons_succ, List.set_cons_zero]
            refine rq_take (v := .pointer (some ⟨w1.heap.size, 0, none⟩)) (by kernel_rfl) (fun W hW => by go_simp <;> omega) ?_
            simp only [Act.put, List.setIfInBounds_toArray, List.set_cons_succ, List.set_cons_zero]
            refine rq_take (v := .pointer (some ⟨w1.heap.size, 0, none⟩)) (by kernel_rfl) (fun W hW => by go_simp <;> omega) ?_
            simp only [Act.put, List.setIfInBounds_toArray, List.set_cons_succ, List.set_cons_zero]
            refine rq_take (v := .pointer (some ⟨w1.heap.size, 0, none⟩)) (by kernel_rfl) (fun W hW => by go_simp <;> omega) ?_
            simp only [Act.put, List.setIfInBounds_toArray, List.set_cons_succ, List.set_cons_zero]
            refine rq_take (v := .slice (some ⟨gy, 0, none⟩) cs.length capy) (by kernel_rfl) (fun W hW => by have cu := cell_of_row _ w1.heap.size 0 _ _ _ (keep_block PY.out hW); go_simp) ?_
            simp only [Act.put, List.setIfInBounds_toArray, List.set_cons_succ, List.set_cons_zero]
            refine rq_take (v := .int .i64 (j : Int)) (by kernel_rfl) (fun W hW => by go_simp <;> omega) ?_
            simp only [Act.put, List.setIfInBounds_toArray, List.set_cons_succ, List.set_cons_zero]
            refine rq_take (v := .pointer (some ⟨gy, j * 2, none⟩)) (by kernel_rfl) (fun W hW => by go_simp <;> omega) ?_
            simp only [Act.put, List.setIfInBounds_toArray, List.set_cons_succ, List.set_cons_zero]
            refine rq_call (v := .bool D) (f := 60) (args := #[.pointer (some ⟨gb, k * 2, none⟩), .pointer (some ⟨gy, j * 2, none⟩)]) (by kernel_rfl) (fun W => by go_simp) (fun W hW => (HSB.out W hW).mono (fun e w'' h => ⟨h.1, below_call hW hW.size h.2⟩)) ?_
            simp only [Act.put, List.setIfInBounds_toArray, List.set_cons_succ, List.set_cons_zero]
            refine rq_take (v := .bool (!D)) (by kernel_rfl) (fun W hW => by go_simp <;> omega) ?_
            simp only [Act.put, List.setIfInBounds_toArray, List.set_cons_succ, List.set_cons_zero]
            refine rq_take (v := .bool (!D)) (by kernel_rfl) (fun W hW => by go_simp <;> omega) ?_
            simp only [Act.put, List.setIfInBounds_toArray, List.set_cons_succ, List.set_cons_zero]
            refine wpQuiet_nil ?_
            intro W hW
            have B6 := Lib.hid (below_call B5.out B5.out.size hW)
            clear hW
            cases D with
            | true =>
              go_wp2_with fail
              go_roundw
              case rel => exact ⟨k + 1, by omega, by go_num, B6.out, Lib.hid (fun i z hi hz => by
                by_cases e : i = k
                · subst e
                  rw [HX0.out] at hz
                  cases hz
                  exact HG.out
                · exact hgd.out i z (by omega) hz)⟩
              case measure => simp [intOf]; omega
            | false =>
              have HY := Lib.hid (part_no (bs := bs) (List.mem_of_getElem? HX0.out) HG.out)
              go_wp2_with fail
              go_returns
              rw [HE.out.1, HE.out.2, HY.out]
              exact ⟨rfl, below_call B2.out B2.out.size B6.out⟩
          · have HG := Lib.hid (gd_none (x := x) (cs := cs) (fun i y hy e => hno i y hy (e.trans HV.out)))
            have HY := Lib.hid (part_no (bs := bs) (List.mem_of_getElem? HX0.out) HG.out)
            clear hno
            go_wp2_with fail
            go_quiet (fail)
            go_wp2_with fail
            go_returns
            rw [HE.out.1, HE.out.2, HY.out]
            exact ⟨rfl, below_call B2.out B2.out.size (below_call B5.out B5.out.size (below_drewN (Below.refl w5.heap.size w5) nq))⟩
        · obtain rfl : k = n := by omega
          have HY := Lib.hid (part_yes (bs := bs) (cs := cs) (fun x hx => by
            obtain ⟨j, hj⟩ := List.getElem?_of_mem hx
            exact hgd.out j x (by have := (List.getElem?_eq_some_iff.1 hj).1; have := HL.out; omega) hj))
          go_wp2_with fail
          go_returns
          rw [HE.out.1, HE.out.2, HY.out]
          exact ⟨rfl, below_call B2.out B2.out.size B4.out⟩
    · have HE := Lib.hid (ip_no (bs := bs) (cs := cs) (fun h => hP2 h.2))
      clear hP2
      go_wp2_with fail
      go_returns
      rw [HE.out.1, HE.out.2]
      exact ⟨rfl, B2.out⟩
  · have HE := Lib.hid (ip_no (bs := bs) (cs := cs) (fun h => hP h.1))
    clear hP
    go_wp2_with fail
    refine HO3.out.mono ?_
    rintro e w2 ⟨h, hb⟩
    have B2 := Lib.hid (below_call B1.out B1.out.size hb)
    clear hb HO3 B1
    have hE : ∃ b2, e = .returned (.tuple #[.pointer (some ⟨w1.heap.size, 0, none⟩), .bool b2]) := by
      rcases h with ⟨_, h2, _⟩ | ⟨_, h2⟩
      · exact ⟨_, h2⟩
      · exact ⟨_, h2⟩
    obtain ⟨b2, rfl⟩ := hE
    clear h
    go_wp2_with fail
    go_returns
    rw [HE.out.1, HE.out.2]
    exact ⟨rfl, B2.out⟩
end Go.Proofs.Ytdoelmjaongjfaa
namespace Go.Proofs.Ytdoelmjaongjfaa
open Go.ChangeShapes Go.WideShapes Go.ChangeAt Go.RowKit
set_option linter.unusedVariables false
set_option linter.unusedSimpArgs false
set_option maxRecDepth 100000 in
set_option maxHeartbeats 4000000 in
theorem ispart_impl (m o : Nat) (bs cs : List BlV) (hasc : ascB bs) (hbf : ∀ x ∈ bs, BlF x) (hcf : ∀ x ∈ cs, BlF x) (w : World) (hm : ShelfAt w m bs) (ho : ShelfAt w o cs) :
    Calls Try.prog 87 #[.map (some m), .map (some o)] w fun e w' => e = .returned (.bool (partB bs cs)) ∧ Below w.heap.size w w' := by
  obtain ⟨ps, hown, hlen, hps⟩ := hm
  obtain ⟨D0, hD, hDs, hD1, hD2⟩ := hown.owns kty
  have hks := hown.key
  have hap := hown.apart kty
  have Hz := Lib.hid z32_ints
  have HO := Lib.hid (fun U (hU : Below w.heap.size w U) => ho.below hU)
  have HBL := Lib.hid (fun p (hp : p ∈ ps) => shelf_mem hlen hps hp)
  have HBF := Lib.hid hbf
  have HCF := Lib.hid hcf
  have HAS := Lib.hid hasc
  have HALL : Hid (∀ x ∈ bs, ∃ p ∈ ps, p.1 = keyX x) := Lib.hid (fun x hx => by
    obtain ⟨i, hi⟩ := List.getElem?_of_mem hx
    have hlt := (List.getElem?_eq_some_iff.1 hi).1
    have hlp : i < ps.length := by omega
    exact ⟨ps[i], List.getElem_mem hlp, (hps i _ x (List.getElem?_eq_getElem hlp) hi).1⟩)
  clear ho hbf hcf hasc hps hlen
  go_enter Try.func87, Try.ntmps87
  go_wp2_with (first | (at_range; refine wpList_range_own _ rfl _ 80 rfl 46 43 kty.law shelfTy hR m ps.length _ rfl hD ?_; intro w0 hrg0 hg0 hs0) | go_in)
  go_frame
  go_loopw [5] (fun _ wr => ∃ (left : Lit → Bool) (cnt : Nat) (xs : List (List Int × Value)), wr.ranges Try.prog 46 hR m w.heap.size ps.length D0 left cnt ∧ Met Try.prog 46 ps left xs ∧ Below w.heap.size w wr ∧ ∀ p ∈ xs, ∀ x ∈ bs, keyX x = p.1 → gdB cs x = true)
    (fun _ wr => wr.rangeLeft m w.heap.size)
  case atStart =>
    exact ⟨_, _, [], hrg0, Met.start kty hks hD2, (Below.refl _ _).grown hg0 (Nat.le_refl _) (fun q hq => by cases hq), fun p hp => by simp at hp⟩
  case round =>
    obtain ⟨left, cnt, xs, hrg, hC, hb, hgd⟩ := hrel
    go_wp2_with (first
      | (at_next; refine wpList_next_ranges _ rfl _ rfl 46 kty.law hR kv id (fun key kl hk => by obtain ⟨x, _, hx⟩ := kv_of_keyOf kty hk; exact ⟨x, hx⟩) (fun v _ _ => ⟨v, rfl⟩) m w.heap.size ps.length D0 _ _ rfl hrg ?_ ?_)
      | go_in)
    · intro hc0 hl0
      have hperm := hC.perm hap hl0
      have hP : partB bs cs = true := by
        unfold partB
        refine decide_eq_true (fun x hx => ?_)
        obtain ⟨p, hp, hpk⟩ := HALL.out x hx
        exact hgd p (hperm.symm.subset hp) x hx hpk.symm
      go_wp2
      go_ret
      exact ⟨by rw [hP]; rfl, hb⟩
    · intro x c kl yd yp w2 cnt2 hkey hlk hv hat hrg2 hlt hg2 hs2 hen
      have hx : IsK x := by
        obtain ⟨x', h1, h2⟩ := kv_of_keyOf kty hkey
        rw [kv_inj h2]
        exact h1
      obtain ⟨p, hp, hpk⟩ := hD1 kl (Maps.has_true_of_atKey hat)
      have e1 : p.1 = x := kv_inj (kty.law.inj hpk hkey)
      have e2 : p.2 = c := by
        have h1 := hD2 p hp kl hpk .nil
        rw [hat] at h1
        have h3 : (yd, yp) = (DataW.held c, []) := (Option.some.inj hv).symm
        cases h3
        injection h1 with h1
        exact h1.symm
      obtain ⟨pa, pv⟩ := p
      dsimp only at e1 e2
      subst e1
      subst e2
      have hat0 : ∀ zd, D0.atKey kl zd = yd := fun zd => by
        have h3 : (yd, yp) = (DataW.held pv, []) := (Option.some.inj hv).symm
        cases h3
        exact hD2 (pa, pv) hp kl hkey zd
      obtain ⟨_, hC2⟩ := hC.step kty hap hD1 hD2 hkey hlk hv hat0
      have HX := Lib.hid hx
      have HPM := Lib.hid hp
      have HLT := Lib.hid hlt
      have RG0 := Lib.hid hrg
      have RG2 := Lib.hid hrg2
      have MC2 := Lib.hid hC2
      obtain ⟨bx, hbm, hbk, by_, hbv, hby⟩ := HBL.out _ hp
      dsimp only at hbv hbk
      subst hbv
      have hen' : (Instr.entry (.pointer (some ⟨w.heap.size, 0, none⟩))).run Try.prog w2 = .ok (.tuple #[.agg (ints .u8 pa), .agg #[.int .u8 bx.t, .slice (some ⟨by_, 0, none⟩) bx.n bx.n]]) w2 := hen
      have B2 := Lib.hid (hb.grown hg2 hb.size (fun q hq => by cases hq; exact Nat.le_refl _))
      have HBM := Lib.hid hbm
      have HBK := Lib.hid hbk
      have HBY := Lib.hid (keep_block hby B2.out)
      have HGD := Lib.hid hgd
      have HXL := Lib.hid hx.1
      have LO := Lib.hid (heap_alloc2_old w2 (.cells (ints .u8 z32) 46) (.cells #[.int .u8 0, .slice none 0 0] 43))
      clear hx hp hlt hkey hrg hrg2 hen hat hat0 hpk hv hlk hC hC2 hg2 hs2 hb hbm hbk hby hgd yd yp
      have XF := Lib.hid (HBF.out bx HBM.out)
      have HEQ := Lib.hid (fun x (hx : x ∈ bs) (e : keyX x = pa) => HAS.out.one hx HBM.out (e.trans HBK.out))
      obtain ⟨xt, xa, xn, xc, xl⟩ := bx
      dsimp only at hen' HBY
      have LN : (((w2.alloc (.cells (ints .u8 z32) 46)).alloc (.cells #[.int .u8 0, .slice none 0 0] 43)).setRow w2.heap.size (ints .u8 pa)).heap[w2.heap.size + 1]? = some (.cells #[.int .u8 0, .slice none 0 0] 43) := (setRow_other _ _ _ _ (by omega)).trans (heap_alloc2_new w2 _ _)
      have LK : (((w2.alloc (.cells (ints .u8 z32) 46)).alloc (.cells #[.int .u8 0, .slice none 0 0] 43)).setRow w2.heap.size (ints .u8 pa)).heap[w2.heap.size]? = some (.cells (ints .u8 pa) 46) := setRow_heap _ _ _ _ _ _ LO.out
      have LB : Below w2.heap.size w2 (((w2.alloc (.cells (ints .u8 z32) 46)).alloc (.cells #[.int .u8 0, .slice none 0 0] 43)).setRow w2.heap.size (ints .u8 pa)) := Below.setRow (((Below.refl w2.heap.size w2).alloc (Nat.le_refl _) _).alloc (by simp) _) (Nat.le_refl _) _
      have hN := box_set (a := .int .u8 xt) (b := .slice (some ⟨by_, 0, none⟩) xn xn) LN
      have hKk := (heap_setCell_other _ ⟨w2.heap.size + 1, 1, none⟩ w2.heap.size (.slice (some ⟨by_, 0, none⟩) xn xn) (by simp)).trans ((heap_setCell_other _ ⟨w2.heap.size + 1, 0, none⟩ w2.heap.size (.int .u8 xt) (by simp)).trans LK)
      have hB := (LB.setCell (p := ⟨w2.heap.size + 1, 0, none⟩) (by simp) (.int .u8 xt)).setCell (p := ⟨w2.heap.size + 1, 1, none⟩) (by simp) (.slice (some ⟨by_, 0, none⟩) xn xn)
      have HN3 := Lib.hid hN
      have HK3 := Lib.hid hKk
      have HB3 := Lib.hid hB
      have c0 := cell_of_row _ (w2.heap.size + 1) 0 _ _ _ LN
      have c1 := cell_of_row _ (w2.heap.size + 1) 1 _ _ _ LN
      have f0 := frozen_of_row _ (w2.heap.size + 1) 0 _ _ LN
      have f1 := frozen_of_row _ (w2.heap.size + 1) 1 _ _ LN
      clear LN LK LB hN hKk hB
      rw [Hz.out] at LO c0 c1 f0 f1 HN3 HK3 HB3
      go_upto_region 4 with (first
        | (refine wpList_store_row rfl 46 _ _ rfl w2.heap.size (ints .u8 pa) rfl rfl 46 (ints .u8 z32) (by rw [Hz.out]; exact LO.out) (by rw [ints_size, HXL.out]; exact sizeKey) (by rw [ints_size, ints_size, HXL.out]; rfl) (ints_one _ _) ?_))
      clear c0 c1 f0 f1 LO hen'
      rw [← Hz.out] at HN3 HK3 HB3 ⊢
      generalize (((((w2.alloc (.cells (ints .u8 z32) 46)).alloc (.cells #[.int .u8 0, .slice none 0 0] 43)).setRow w2.heap.size (ints .u8 pa)).setCell ⟨w2.heap.size + 1, 0, none⟩ (.int .u8 xt)).setCell ⟨w2.heap.size + 1, 1, none⟩ (.slice (some ⟨by_, 0, none⟩) xn xn)) = w3 at HN3 HK3 HB3 ⊢
      have B3 := Lib.hid (below_call B2.out B2.out.size HB3.out)
      have RG3 := Lib.hid (RG2.out.kept (grown_of_below HB3.out) (by simp) (by simp))
      have HY3 := Lib.hid (keep_block HBY.out HB3.out)
      have SO3 := Lib.hid (HO.out w3 B3.out)
      have HH := Lib.hid ((has_impl o cs pa HX.out w3 SO3.out).mono (fun e w' h => show e = .returned (.bool (inS cs pa)) ∧ Below w3.heap.size w3 w' from ⟨h.1.trans (by unfold inS; rfl), h.2⟩))
      have HDD := Lib.hid (fun U (hU : Below w3.heap.size w3 U) => differs_impl o cs pa HX.out ⟨xt, xa, xn, xc, xl⟩ by_ XF.out HCF.out U (SO3.out.below hU) (keep_block HY3.out hU))
      have HGE : Hid (gdB cs (⟨xt, xa, xn, xc, xl⟩ : BlV) = (inS cs pa && !difB cs pa ⟨xt, xa, xn, xc, xl⟩)) := Lib.hid (by unfold gdB; rw [HBK.out])
      have HPN := Lib.hid (fun h => part_no (bs := bs) (cs := cs) HBM.out h)
      have HGA : Hid (gdB cs (⟨xt, xa, xn, xc, xl⟩ : BlV) = true → ∀ x ∈ bs, keyX x = pa → gdB cs x = true) := Lib.hid (fun h x hx e => by rw [HEQ.out x hx e]; exact h)
      generalize inS cs pa = bi at HH HGE
      generalize difB cs pa (⟨xt, xa, xn, xc, xl⟩ : BlV) = bd at HDD HGE
      generalize gdB cs (⟨xt, xa, xn, xc, xl⟩ : BlV) = bg at HGE HPN HGA
      generalize w2.heap.size = gk at HN3 HK3 HB3 ⊢
      clear HBM HBK HEQ
      cases bi with
      | false =>
        have HPP := HPN.out HGE.out
        have HQ := Lib.hid HPP
        clear HPP HPN HGA
        go_wp2_with (first
          | (refine wpList_load_row rfl 46 _ rfl gk rfl 46 (ints .u8 pa) (0, 0) _ HK3.out Try.underlying46 rfl (by rw [ints_size, HXL.out]; exact sizeKey) ?_)
          | (go_at_call 80; refine HH.out.mono ?_; rintro e w4 ⟨rfl, hb⟩))
        go_ret
        exact ⟨by rw [HQ.out]; rfl, below_call B3.out B3.out.size hb⟩
      | true =>
        go_wp2_with (refine wpList_load_row rfl 46 _ rfl gk rfl 46 (ints .u8 pa) (0, 0) _ HK3.out Try.underlying46 rfl (by rw [ints_size, HXL.out]; exact sizeKey) ?_)
        refine HH.out.mono ?_
        rintro e w4 ⟨rfl, hb⟩
        have B4 := Lib.hid (below_call B3.out B3.out.size hb)
        have HK4 := Lib.hid (keep_block HK3.out hb)
        have HN4 := Lib.hid (keep_block HN3.out hb)
        have RG4 := Lib.hid (RG3.out.kept (grown_of_below hb) (by simp) (by simp))
        have HD4 := Lib.hid (HDD.out w4 hb)
        have p0 := cell_of_row _ _ 0 _ _ _ HN4.out
        have p1 := cell_of_row _ _ 1 _ _ _ HN4.out
        clear hb HH HDD HK3 HN3 HB3 RG3 B3
        cases bd with
        | true =>
          have HPP := HPN.out HGE.out
          have HQ := Lib.hid HPP
          clear HPP HPN HGA
          go_wp2_with (first
            | (refine wpList_load_row_g (by rfl) 46 _ rfl gk rfl 46 (ints .u8 pa) (0, 0) _ HK4.out Try.underlying46 rfl (by rw [ints_size, HXL.out]; exact sizeKey) ?_)
            | (go_at_call 104; refine HD4.out.mono ?_; rintro e w5 ⟨rfl, hb⟩))
          go_ret
          exact ⟨by rw [HQ.out]; rfl, below_call B4.out B4.out.size hb⟩
        | false =>
          clear HPN
          go_wp2_with (first
            | (refine wpList_load_row_g (by rfl) 46 _ rfl gk rfl 46 (ints .u8 pa) (0, 0) _ HK4.out Try.underlying46 rfl (by rw [ints_size, HXL.out]; exact sizeKey) ?_)
            | (go_at_call 104; refine HD4.out.mono ?_; rintro e w5 ⟨rfl, hb⟩))
          have RG5 := Lib.hid (RG4.out.kept (grown_of_below hb) (by simp) (by simp))
          go_roundw
          case rel =>
            refine ⟨_, cnt2, _, RG5.out, MC2.out, below_call B4.out B4.out.size hb, fun p hp x hx e => ?_⟩
            rcases List.mem_append.1 hp with hp | hp
            · exact HGD.out p hp x hx e
            · simp at hp
              subst hp
              exact HGA.out HGE.out x hx e
          case measure =>
            rw [RG5.out.left_eq, RG0.out.left_eq]
            exact HLT.out
end Go.Proofs.Ytdoelmjaongjfaa
namespace Go.Proofs.Ytdoelmjaongjfaa
open Go.ChangeShapes Go.WideShapes Go.ChangeAt Go.RowKit
set_option linter.unusedVariables false
set_option linter.unusedSimpArgs false
set_option maxRecDepth 100000 in
set_option maxHeartbeats 8000000 in
theorem ip_impl (g g' n n' : Nat) (bs cs : List BlV) (hn : n ≤ 1048576) (hn' : n' ≤ 1048576) (hl : bs.length = n) (hl' : cs.length = n') (hf : ∀ (i : Nat) (x : BlV), bs[i]? = some x → BlG x) (hf' : ∀ (i : Nat) (x : BlV), cs[i]? = some x → BlG x) (w : World) (ha : OutB w g n n bs) (ha' : OutB w g' n' n' cs) :
    Calls Try.prog 48 #[.agg #[.slice (some ⟨g, 0, none⟩) n n], .agg #[.slice (some ⟨g', 0, none⟩) n' n']] w fun e w' => e = .returned (.tuple #[.bool (ipV bs cs), .int .i64 (ipC bs cs)]) ∧ Below w.heap.size w w' := by
  have BX : Below w.heap.size w ((w.alloc (.cells #[.slice (some ⟨g, 0, none⟩) n n] 29)).alloc (.cells #[.slice (some ⟨g', 0, none⟩) n' n'] 29)) := by go_grown
  have A0 := heap_alloc2_old w (.cells #[.slice (some ⟨g, 0, none⟩) n n] 29) (.cells #[.slice (some ⟨g', 0, none⟩) n' n'] 29)
  have A1 := heap_alloc2_new w (.cells #[.slice (some ⟨g, 0, none⟩) n n] 29) (.cells #[.slice (some ⟨g', 0, none⟩) n' n'] 29)
  obtain ⟨w0, hw0⟩ : ∃ w0, (w.alloc (.cells #[.slice (some ⟨g, 0, none⟩) n n] 29)).alloc (.cells #[.slice (some ⟨g', 0, none⟩) n' n'] 29) = w0 := ⟨_, rfl⟩
  rw [hw0] at BX A0 A1
  have HO := Lib.hid (both_impl g g' n n' bs cs hn hn' hl hl' hf hf' w0 (ha.below BX) (ha'.below BX))
  have HFB : Hid (∀ x ∈ bs, BlF x) := Lib.hid (fun x hx => by obtain ⟨j, hj⟩ := List.getElem?_of_mem hx; exact (hf j x hj).1)
  have HFC : Hid (∀ x ∈ cs, BlF x) := Lib.hid (fun x hx => by obtain ⟨j, hj⟩ := List.getElem?_of_mem hx; exact (hf' j x hj).1)
  have HB := Lib.hid BX
  have H0 := Lib.hid A0
  have H1 := Lib.hid A1
  clear ha ha' hf hf' hl hl' A0 A1 BX
  go_enter Try.func48, Try.ntmps48
  have qs := cell_of_row _ w.heap.size 0 _ _ _ H0.out
  have qt := cell_of_row _ (w.heap.size + 1) 0 _ _ _ H1.out
  go_wp2_with fail
  clear qs qt
  refine HO.out.mono ?_
  rintro e w2 ⟨h, hb⟩
  have B2 := Lib.hid (HB.out.trans (hb.mono HB.out.size))
  clear hb HO HB H0 H1 hw0
  rcases h with ⟨hP, hP2, m, o, rfl, hm0, ho0, hne, hsh, hso⟩ | ⟨hno, u, v, rfl⟩
  · have HI := Lib.hid (ispart_impl m o bs cs hP.asc HFB.out HFC.out w2 hsh hso)
    have HE := Lib.hid (ip_yes ⟨hP, hP2⟩)
    clear hP hP2 hm0 ho0 hne hsh hso
    go_wp2_with fail
    refine HI.out.mono ?_
    rintro e w3 ⟨rfl, hb⟩
    go_wp2_with fail
    go_returns
    rw [HE.out.1, HE.out.2]
    exact ⟨rfl, below_call B2.out B2.out.size hb⟩
  · have HE := Lib.hid (ip_no hno)
    clear hno
    go_wp2_with fail
    go_returns
    rw [HE.out.1, HE.out.2]
    exact ⟨rfl, B2.out⟩
end Go.Proofs.Ytdoelmjaongjfaa
