/- Stores compared. Written by wip/gen/storeg.py. -/
import Derived.Test.YtdoelmjaongjfaaStoreB
import Derived.Test.YtdoelmjaongjfaaTk
namespace Go.Proofs.Ytdoelmjaongjfaa
open Go.ChangeShapes Go.WideShapes Go.ChangeAt Go.RowKit
set_option linter.unusedVariables false
set_option linter.unusedSimpArgs false
def BlF (x : BlV) : Prop := x.n ≤ 1048576 ∧ x.l.length = x.n ∧ ∀ z ∈ x.l, 0 ≤ z ∧ z ≤ 255
def Sam (bs cs : List BlV) : Prop := bs.length = cs.length ∧ ∀ (i : Nat) (x y : BlV), bs[i]? = some x → cs[i]? = some y → x.t = y.t ∧ x.l = y.l
open Classical in
noncomputable def samB (bs cs : List BlV) : Bool := if Sam bs cs then true else false
theorem samB_yes {bs cs : List BlV} (h : Sam bs cs) : samB bs cs = true := by unfold samB; exact if_pos h
theorem samB_no {bs cs : List BlV} (h : ¬ Sam bs cs) : samB bs cs = false := by unfold samB; exact if_neg h
theorem rdN {w : World} {g n : Nat} {l : List Int} {t : TypeId} (hl : l.length = n) (h : w.heap[g]? = some (.cells (ints .u8 l) t)) : Rd .u8 w (some ⟨g, 0, none⟩) n l := by
  have := Rd.row h
  rwa [hl] at this
theorem get_of {bs : List BlV} {n k : Nat} (hl : bs.length = n) (hk : k < n) : ∃ x, bs[k]? = some x := ⟨bs[k]'(by omega), List.getElem?_eq_getElem (by omega)⟩
theorem OutB.setBox {w : World} {g n k q : Nat} {bs : List BlV} {c : Array Value} (h : OutB w g n k bs) (hq : w.heap[q]? = some (.cells c 29)) (v : Value) : OutB (w.setCell ⟨q, 0, none⟩ v) g n k bs := by
  obtain ⟨cs, h1, h2, h3⟩ := h
  have ne : ∀ (y : Nat) (c2 : Array Value) (t : TypeId), w.heap[y]? = some (.cells c2 t) → t ≠ 29 → y ≠ q := fun y c2 t hy ht e => by
    rw [e, hq] at hy
    injection hy with e1
    injection e1 with _ e2
    exact ht e2.symm
  refine ⟨cs, (heap_setCell_other _ _ _ _ (ne g _ _ h1 (by decide))).trans h1, h2, fun i x hi hx => ?_⟩
  obtain ⟨y, y1, y2, y3, y4⟩ := h3 i x hi hx
  exact ⟨y, y1, y2, y3, (heap_setCell_other _ _ _ _ (ne y _ _ y4 (by decide))).trans y4⟩
set_option maxRecDepth 100000 in
set_option maxHeartbeats 4000000 in
theorem eqBlS (ga gb n : Nat) (bs : List BlV) (hn : n ≤ 1048576) (hl : bs.length = n) (hf : ∀ (i : Nat) (x : BlV), bs[i]? = some x → BlF x) (w : World) (ha : OutB w ga n n bs) (hb : OutB w gb n n bs) :
    Calls Try.prog 53 #[.slice (some ⟨ga, 0, none⟩) n n, .slice (some ⟨gb, 0, none⟩) n n] w fun e w' => e = .returned (.bool true) ∧ Below w.heap.size w w' := by
  have HA := Lib.hid ha
  have HB := Lib.hid hb
  have HF := Lib.hid hf
  have HL := Lib.hid hl
  clear ha hb hf hl
  go_enter Try.func53, Try.ntmps53
  go_wp2_with fail
  go_loopw [5] (fun i wr => ∃ k : Nat, k ≤ n ∧ i = .int .i64 k ∧ Below w.heap.size w wr) (fun i _ => n - (intOf i).toNat)
  case atStart => exact ⟨0, by omega, rfl, Below.refl _ _⟩
  case round =>
    obtain ⟨k, hk, rfl, hb⟩ := hrel
    have B1 := Lib.hid hb
    clear hb
    by_cases hlt : k < n
    · have b0 : (0 : Int) ≤ (k : Int) := by omega
      have b1 : (k : Int) < (n : Int) := by omega
      obtain ⟨x, hx⟩ := get_of HL.out hlt
      obtain ⟨f1, f2, f3⟩ := HF.out k x hx
      obtain ⟨ya, hya⟩ := (HA.out.below B1.out).at hlt hx
      obtain ⟨yb, hyb⟩ := (HB.out.below B1.out).at hlt hx
      have C1 := Lib.hid (fun U (hU : Below wr.heap.size wr U) => hya.keep hU)
      have C2 := Lib.hid (fun U (hU : Below wr.heap.size wr U) => hyb.keep hU)
      have HQ := Lib.hid (fun U (hU : Below wr.heap.size wr U) => eqBl x.t (some ⟨ya, 0, none⟩) (some ⟨yb, 0, none⟩) x.n x.n x.n x.l f1 U (rdN f2 (keep_block hya.2.2 hU)) (rdN f2 (keep_block hyb.2.2 hU)))
      clear hya hyb f1 f2 f3 hx
      obtain ⟨xt, xa, xn, xc, xl⟩ := x
      go_wp2_with fail
      refine wp_region_held_drew (S := Below (wr).heap.size (wr)) (by kernel_rfl) ((Below.refl _ _).drew) (fun hS => ?_)
      refine takeS (i := 0) (v := .slice (some ⟨ga, 0, none⟩) n n) rfl rfl (by kernel_rfl) (by kernel_rfl) (by kernel_rfl) (fun _ _ _ h => h) (Or.inl ⟨by rfl, fun U hU => by go_simp⟩) hS ?_
      try simp only [List.setIfInBounds_toArray, List.set_cons_zero, List.set_cons_succ]
      refine takeS (i := 1) (v := .int .i64 (k : Int)) rfl rfl (by kernel_rfl) (by kernel_rfl) (by kernel_rfl) (fun _ _ _ h => h) (Or.inl ⟨by rfl, fun U hU => by go_simp⟩) hS ?_
      try simp only [List.setIfInBounds_toArray, List.set_cons_zero, List.set_cons_succ]
      refine takeS (i := 2) (v := .pointer (some ⟨ga, k * 2, none⟩)) rfl rfl (by kernel_rfl) (by kernel_rfl) (by kernel_rfl) (fun _ _ _ h => h) (Or.inl ⟨by rfl, fun U hU => by go_simp⟩) hS ?_
      try simp only [List.setIfInBounds_toArray, List.set_cons_zero, List.set_cons_succ]
      refine takeS (i := 3) (v := .agg #[.int .u8 xt, .slice (some ⟨ya, 0, none⟩) xn xn]) rfl rfl (by kernel_rfl) (by kernel_rfl) (by kernel_rfl) (fun _ _ _ h => h) (Or.inl ⟨by rfl, fun U hU => by obtain ⟨c0, c1⟩ := C1.out U hU; go_simp⟩) hS ?_
      try simp only [List.setIfInBounds_toArray, List.set_cons_zero, List.set_cons_succ]
      refine takeS (i := 4) (v := .slice (some ⟨gb, 0, none⟩) n n) rfl rfl (by kernel_rfl) (by kernel_rfl) (by kernel_rfl) (fun _ _ _ h => h) (Or.inl ⟨by rfl, fun U hU => by go_simp⟩) hS ?_
      try simp only [List.setIfInBounds_toArray, List.set_cons_zero, List.set_cons_succ]
      refine takeS (i := 5) (v := .int .i64 (k : Int)) rfl rfl (by kernel_rfl) (by kernel_rfl) (by kernel_rfl) (fun _ _ _ h => h) (Or.inl ⟨by rfl, fun U hU => by go_simp⟩) hS ?_
      try simp only [List.setIfInBounds_toArray, List.set_cons_zero, List.set_cons_succ]
      refine takeS (i := 6) (v := .pointer (some ⟨gb, k * 2, none⟩)) rfl rfl (by kernel_rfl) (by kernel_rfl) (by kernel_rfl) (fun _ _ _ h => h) (Or.inl ⟨by rfl, fun U hU => by go_simp⟩) hS ?_
      try simp only [List.setIfInBounds_toArray, List.set_cons_zero, List.set_cons_succ]
      refine takeS (i := 7) (v := .agg #[.int .u8 xt, .slice (some ⟨yb, 0, none⟩) xn xn]) rfl rfl (by kernel_rfl) (by kernel_rfl) (by kernel_rfl) (fun _ _ _ h => h) (Or.inl ⟨by rfl, fun U hU => by obtain ⟨c0, c1⟩ := C2.out U hU; go_simp⟩) hS ?_
      try simp only [List.setIfInBounds_toArray, List.set_cons_zero, List.set_cons_succ]
      refine wpAnyH_ready (rs := [8]) (by kernel_rfl) (by simp) ?_
      refine AllReadyH.cons rfl (fun KQ hK => ?_) AllReadyH.nil
      rw [if_pos (by rfl)]
      go_simp
      refine (HQ.out _ hS).mono ?_
      rintro e w1 ⟨rfl, hb⟩
      refine hK.out _ _ (below_call hS hS.size hb) (fun hS => ?_)
      clear hb hK
      refine takeS (i := 9) (v := .bool false) rfl rfl (by kernel_rfl) (by kernel_rfl) (by kernel_rfl) (fun _ _ _ h => h) (Or.inl ⟨by rfl, fun U hU => by go_simp⟩) hS ?_
      try simp only [List.setIfInBounds_toArray, List.set_cons_zero, List.set_cons_succ]
      refine wpAnyH_done (by kernel_rfl) ?_ _
      have HS := Lib.hid (B1.out.trans (hS.mono B1.out.size))
      clear hS
      go_wp2_with fail
      go_roundw
      case rel => exact ⟨k + 1, by omega, by go_num, HS.out⟩
      case measure => simp [intOf]; omega
    · obtain rfl : k = n := by omega
      go_wp2_with fail
      go_ret
      exact ⟨rfl, B1.out⟩
set_option maxRecDepth 100000 in
set_option maxHeartbeats 4000000 in
theorem ss_spec (ga gb n m : Nat) (bs cs : List BlV) (hn : n ≤ 1048576) (hm : m ≤ 1048576) (hl : bs.length = n) (hl2 : cs.length = m) (hf : ∀ (i : Nat) (x : BlV), bs[i]? = some x → BlF x) (hf2 : ∀ (i : Nat) (x : BlV), cs[i]? = some x → BlF x) (w : World) (ha : OutB w ga n n bs) (hb : OutB w gb m m cs) :
    Calls Try.prog 19 #[.agg #[.slice (some ⟨ga, 0, none⟩) n n], .agg #[.slice (some ⟨gb, 0, none⟩) m m]] w fun e w' => e = .returned (.bool (samB bs cs)) ∧ Below w.heap.size w w' := by
  have A0 := heap_alloc2_old w (.cells #[.slice (some ⟨ga, 0, none⟩) n n] 29) (.cells #[.slice (some ⟨gb, 0, none⟩) m m] 29)
  have A1 := heap_alloc2_new w (.cells #[.slice (some ⟨ga, 0, none⟩) n n] 29) (.cells #[.slice (some ⟨gb, 0, none⟩) m m] 29)
  have B0' := ((Below.refl w.heap.size w).alloc (Nat.le_refl _) (.cells #[.slice (some ⟨ga, 0, none⟩) n n] 29)).alloc (by simp) (.cells #[.slice (some ⟨gb, 0, none⟩) m m] 29)
  obtain ⟨w0, hw0⟩ : ∃ w0, (w.alloc (.cells #[.slice (some ⟨ga, 0, none⟩) n n] 29)).alloc (.cells #[.slice (some ⟨gb, 0, none⟩) m m] 29) = w0 := ⟨_, rfl⟩
  rw [hw0] at A0 A1 B0'
  have E0 := Lib.hid A0
  have F0 := Lib.hid A1
  have B0 := Lib.hid B0'
  have HA := Lib.hid (ha.below B0')
  have HB := Lib.hid (hb.below B0')
  have HF := Lib.hid hf
  have HF2 := Lib.hid hf2
  have HL := Lib.hid hl
  have HL2 := Lib.hid hl2
  clear ha hb hf hf2 hl hl2 A0 A1 B0'
  by_cases hnm : n = m
  · subst hnm
    have z0 : (0 : Int) ≤ (n : Int) := by omega
    have z1 : (n : Int) ≤ 1048576 := by omega
    go_enter Try.func19, Try.ntmps19
    have q0 := cell_of_row _ w.heap.size 0 _ _ _ E0.out
    have r0 := cell_of_row _ (w.heap.size + 1) 0 _ _ _ F0.out
    go_wp2_with fail
    clear q0 r0
    go_loopw [5] (fun i wr => ∃ k : Nat, k ≤ n ∧ i = .int .i64 k ∧ Below w0.heap.size w0 wr ∧ ∀ (j : Nat) (x y : BlV), j < k → bs[j]? = some x → cs[j]? = some y → x.t = y.t ∧ x.l = y.l) (fun i _ => n - (intOf i).toNat)
    case atStart => exact ⟨0, by omega, rfl, Below.refl _ _, fun j x y hj _ _ => by omega⟩
    case round =>
      obtain ⟨k, hk, rfl, hb, hinv⟩ := hrel
      have B1 := Lib.hid hb
      have HI := Lib.hid hinv
      have E1 := Lib.hid (keep_block E0.out hb)
      have F1 := Lib.hid (keep_block F0.out hb)
      clear hb hinv hw0
      have q0 := cell_of_row _ w.heap.size 0 _ _ _ E1.out
      by_cases hlt : k < n
      · have b0 : (0 : Int) ≤ (k : Int) := by omega
        have b1 : (k : Int) < (n : Int) := by omega
        obtain ⟨x, hx⟩ := get_of HL.out hlt
        obtain ⟨y, hy⟩ := get_of HL2.out hlt
        obtain ⟨f1, f2, f3⟩ := HF.out k x hx
        obtain ⟨g1, g2, g3⟩ := HF2.out k y hy
        obtain ⟨ya, hya⟩ := (HA.out.below B1.out).at hlt hx
        obtain ⟨yb, hyb⟩ := (HB.out.below B1.out).at hlt hy
        have hx0 := Lib.hid hx
        have hy0 := Lib.hid hy
        have HQ := Lib.hid (fun U (hU : Below wr.heap.size wr U) => sb_specA ga (k * 2) gb (k * 2) ya yb x.t y.t x.n y.n x.l y.l U f1 g1 f2 g2 f3 g3 ⟨(hya.keep hU).1, (hya.keep hU).2, keep_block hya.2.2 hU⟩ ⟨(hyb.keep hU).1, (hyb.keep hU).2, keep_block hyb.2.2 hU⟩)
        clear hya hyb f1 f2 f3 g1 g2 g3 hx hy
        by_cases he : x.t = y.t ∧ x.l = y.l
        · rw [decide_eq_true he] at HQ
          have HE := Lib.hid he
          clear he
          go_wp2_with fail
          clear q0
          refine wp_region_held_drew (S := Below (wr).heap.size (wr)) (by kernel_rfl) ((Below.refl _ _).drew) (fun hS => ?_)
          refine takeS (i := 0) (v := .pointer (some ⟨w.heap.size, 0, none⟩)) rfl rfl (by kernel_rfl) (by kernel_rfl) (by kernel_rfl) (fun _ _ _ h => h) (Or.inl ⟨by rfl, fun U hU => by go_simp⟩) hS ?_
          try simp only [List.setIfInBounds_toArray, List.set_cons_zero, List.set_cons_succ]
          refine takeS (i := 1) (v := .slice (some ⟨ga, 0, none⟩) n n) rfl rfl (by kernel_rfl) (by kernel_rfl) (by kernel_rfl) (fun _ _ _ h => h) (Or.inl ⟨by rfl, fun U hU => by have q0 := cell_of_row _ w.heap.size 0 _ _ _ (keep_block E1.out hU); go_simp⟩) hS ?_
          try simp only [List.setIfInBounds_toArray, List.set_cons_zero, List.set_cons_succ]
          refine takeS (i := 2) (v := .int .i64 (k : Int)) rfl rfl (by kernel_rfl) (by kernel_rfl) (by kernel_rfl) (fun _ _ _ h => h) (Or.inl ⟨by rfl, fun U hU => by go_simp⟩) hS ?_
          try simp only [List.setIfInBounds_toArray, List.set_cons_zero, List.set_cons_succ]
          refine takeS (i := 3) (v := .pointer (some ⟨ga, k * 2, none⟩)) rfl rfl (by kernel_rfl) (by kernel_rfl) (by kernel_rfl) (fun _ _ _ h => h) (Or.inl ⟨by rfl, fun U hU => by go_simp⟩) hS ?_
          try simp only [List.setIfInBounds_toArray, List.set_cons_zero, List.set_cons_succ]
          refine takeS (i := 4) (v := .pointer (some ⟨w.heap.size + 1, 0, none⟩)) rfl rfl (by kernel_rfl) (by kernel_rfl) (by kernel_rfl) (fun _ _ _ h => h) (Or.inl ⟨by rfl, fun U hU => by go_simp⟩) hS ?_
          try simp only [List.setIfInBounds_toArray, List.set_cons_zero, List.set_cons_succ]
          refine takeS (i := 5) (v := .slice (some ⟨gb, 0, none⟩) n n) rfl rfl (by kernel_rfl) (by kernel_rfl) (by kernel_rfl) (fun _ _ _ h => h) (Or.inl ⟨by rfl, fun U hU => by have q0 := cell_of_row _ (w.heap.size + 1) 0 _ _ _ (keep_block F1.out hU); go_simp⟩) hS ?_
          try simp only [List.setIfInBounds_toArray, List.set_cons_zero, List.set_cons_succ]
          refine takeS (i := 6) (v := .int .i64 (k : Int)) rfl rfl (by kernel_rfl) (by kernel_rfl) (by kernel_rfl) (fun _ _ _ h => h) (Or.inl ⟨by rfl, fun U hU => by go_simp⟩) hS ?_
          try simp only [List.setIfInBounds_toArray, List.set_cons_zero, List.set_cons_succ]
          refine takeS (i := 7) (v := .pointer (some ⟨gb, k * 2, none⟩)) rfl rfl (by kernel_rfl) (by kernel_rfl) (by kernel_rfl) (fun _ _ _ h => h) (Or.inl ⟨by rfl, fun U hU => by go_simp⟩) hS ?_
          try simp only [List.setIfInBounds_toArray, List.set_cons_zero, List.set_cons_succ]
          refine wpAnyH_ready (rs := [8]) (by kernel_rfl) (by simp) ?_
          refine AllReadyH.cons rfl (fun KQ hK => ?_) AllReadyH.nil
          rw [if_pos (by rfl)]
          go_simp
          refine (HQ.out _ hS).mono ?_
          rintro e w1 ⟨rfl, hb⟩
          refine hK.out _ _ (below_call hS hS.size hb) (fun hS => ?_)
          clear hb hK
          refine takeS (i := 9) (v := .bool false) rfl rfl (by kernel_rfl) (by kernel_rfl) (by kernel_rfl) (fun _ _ _ h => h) (Or.inl ⟨by rfl, fun U hU => by go_simp⟩) hS ?_
          try simp only [List.setIfInBounds_toArray, List.set_cons_zero, List.set_cons_succ]
          refine wpAnyH_done (by kernel_rfl) ?_ _
          have HS := Lib.hid (B1.out.trans (hS.mono B1.out.size))
          clear hS
          go_wp2_with fail
          go_roundw
          case rel =>
            refine ⟨k + 1, by omega, by go_num, HS.out, fun j u v hj hu hv => ?_⟩
            by_cases hjk : j = k
            · subst hjk
              rw [hx0.out] at hu
              rw [hy0.out] at hv
              cases hu; cases hv
              exact HE.out
            · exact HI.out j u v (by omega) hu hv
          case measure => simp [intOf]; omega
        · rw [decide_eq_false he] at HQ
          have HE := Lib.hid (samB_no (bs := bs) (cs := cs) (fun h => he (h.2 k x y hx0.out hy0.out)))
          clear he
          go_wp2_with fail
          clear q0
          refine wp_region_held_drew (S := Below (wr).heap.size (wr)) (by kernel_rfl) ((Below.refl _ _).drew) (fun hS => ?_)
          refine takeS (i := 0) (v := .pointer (some ⟨w.heap.size, 0, none⟩)) rfl rfl (by kernel_rfl) (by kernel_rfl) (by kernel_rfl) (fun _ _ _ h => h) (Or.inl ⟨by rfl, fun U hU => by go_simp⟩) hS ?_
          try simp only [List.setIfInBounds_toArray, List.set_cons_zero, List.set_cons_succ]
          refine takeS (i := 1) (v := .slice (some ⟨ga, 0, none⟩) n n) rfl rfl (by kernel_rfl) (by kernel_rfl) (by kernel_rfl) (fun _ _ _ h => h) (Or.inl ⟨by rfl, fun U hU => by have q0 := cell_of_row _ w.heap.size 0 _ _ _ (keep_block E1.out hU); go_simp⟩) hS ?_
          try simp only [List.setIfInBounds_toArray, List.set_cons_zero, List.set_cons_succ]
          refine takeS (i := 2) (v := .int .i64 (k : Int)) rfl rfl (by kernel_rfl) (by kernel_rfl) (by kernel_rfl) (fun _ _ _ h => h) (Or.inl ⟨by rfl, fun U hU => by go_simp⟩) hS ?_
          try simp only [List.setIfInBounds_toArray, List.set_cons_zero, List.set_cons_succ]
          refine takeS (i := 3) (v := .pointer (some ⟨ga, k * 2, none⟩)) rfl rfl (by kernel_rfl) (by kernel_rfl) (by kernel_rfl) (fun _ _ _ h => h) (Or.inl ⟨by rfl, fun U hU => by go_simp⟩) hS ?_
          try simp only [List.setIfInBounds_toArray, List.set_cons_zero, List.set_cons_succ]
          refine takeS (i := 4) (v := .pointer (some ⟨w.heap.size + 1, 0, none⟩)) rfl rfl (by kernel_rfl) (by kernel_rfl) (by kernel_rfl) (fun _ _ _ h => h) (Or.inl ⟨by rfl, fun U hU => by go_simp⟩) hS ?_
          try simp only [List.setIfInBounds_toArray, List.set_cons_zero, List.set_cons_succ]
          refine takeS (i := 5) (v := .slice (some ⟨gb, 0, none⟩) n n) rfl rfl (by kernel_rfl) (by kernel_rfl) (by kernel_rfl) (fun _ _ _ h => h) (Or.inl ⟨by rfl, fun U hU => by have q0 := cell_of_row _ (w.heap.size + 1) 0 _ _ _ (keep_block F1.out hU); go_simp⟩) hS ?_
          try simp only [List.setIfInBounds_toArray, List.set_cons_zero, List.set_cons_succ]
          refine takeS (i := 6) (v := .int .i64 (k : Int)) rfl rfl (by kernel_rfl) (by kernel_rfl) (by kernel_rfl) (fun _ _ _ h => h) (Or.inl ⟨by rfl, fun U hU => by go_simp⟩) hS ?_
          try simp only [List.setIfInBounds_toArray, List.set_cons_zero, List.set_cons_succ]
          refine takeS (i := 7) (v := .pointer (some ⟨gb, k * 2, none⟩)) rfl rfl (by kernel_rfl) (by kernel_rfl) (by kernel_rfl) (fun _ _ _ h => h) (Or.inl ⟨by rfl, fun U hU => by go_simp⟩) hS ?_
          try simp only [List.setIfInBounds_toArray, List.set_cons_zero, List.set_cons_succ]
          refine wpAnyH_ready (rs := [8]) (by kernel_rfl) (by simp) ?_
          refine AllReadyH.cons rfl (fun KQ hK => ?_) AllReadyH.nil
          rw [if_pos (by rfl)]
          go_simp
          refine (HQ.out _ hS).mono ?_
          rintro e w1 ⟨rfl, hb⟩
          refine hK.out _ _ (below_call hS hS.size hb) (fun hS => ?_)
          clear hb hK
          refine takeS (i := 9) (v := .bool true) rfl rfl (by kernel_rfl) (by kernel_rfl) (by kernel_rfl) (fun _ _ _ h => h) (Or.inl ⟨by rfl, fun U hU => by go_simp⟩) hS ?_
          try simp only [List.setIfInBounds_toArray, List.set_cons_zero, List.set_cons_succ]
          refine wpAnyH_done (by kernel_rfl) ?_ _
          have HS := Lib.hid (B0.out.trans ((B1.out.trans (hS.mono B1.out.size)).mono B0.out.size))
          clear hS
          go_wp2_with fail
          go_ret
          exact ⟨by rw [HE.out]; rfl, HS.out⟩
      · obtain rfl : k = n := by omega
        have HE := Lib.hid (samB_yes (bs := bs) (cs := cs) ⟨by rw [HL.out, HL2.out], fun j x y hx hy => HI.out j x y (by have := (List.getElem?_eq_some_iff.1 hx).1; have := HL.out; omega) hx hy⟩)
        go_wp2_with fail
        go_ret
        exact ⟨by rw [HE.out]; rfl, B0.out.trans (B1.out.mono B0.out.size)⟩
  · have z0 : ¬ (n : Int) = (m : Int) := by omega
    have z1 : ((n : Int) == (m : Int)) = false := by rw [beq_eq_false_iff_ne]; omega
    have HE := Lib.hid (samB_no (bs := bs) (cs := cs) (fun h => hnm (by rw [← HL.out, ← HL2.out]; exact h.1)))
    go_enter Try.func19, Try.ntmps19
    have q0 := cell_of_row _ w.heap.size 0 _ _ _ E0.out
    have r0 := cell_of_row _ (w.heap.size + 1) 0 _ _ _ F0.out
    go_wp2_with fail
    go_ret
    exact ⟨by rw [HE.out]; rfl, B0.out⟩
set_option maxRecDepth 100000 in
set_option maxHeartbeats 4000000 in
theorem ef_impl (ga gb n m : Nat) (bs cs : List BlV) (hn : n ≤ 1048576) (hm : m ≤ 1048576) (hl : bs.length = n) (hl2 : cs.length = m) (hf : ∀ (i : Nat) (x : BlV), bs[i]? = some x → BlF x) (hf2 : ∀ (i : Nat) (x : BlV), cs[i]? = some x → BlF x) (w : World) (ha : OutB w ga n n bs) (hb : OutB w gb m m cs) :
    Calls Try.prog 61 #[.slice (some ⟨ga, 0, none⟩) n n, .slice (some ⟨gb, 0, none⟩) m m, .func (.func 62) #[] #[]] w fun e w' => e = .returned (.bool (samB bs cs)) ∧ Below w.heap.size w w' := by
  have HA := Lib.hid ha
  have HB := Lib.hid hb
  have HF := Lib.hid hf
  have HF2 := Lib.hid hf2
  have HL := Lib.hid hl
  have HL2 := Lib.hid hl2
  clear ha hb hf hf2 hl hl2
  by_cases hnm : n = m
  · subst hnm
    have z0 : (0 : Int) ≤ (n : Int) := by omega
    have z1 : (n : Int) ≤ 1048576 := by omega
    go_enter Try.func61, Try.ntmps61
    go_wp2_with fail
    go_loopw [17] (fun i wr => ∃ k : Nat, k ≤ n ∧ i = .int .i64 k ∧ Below w.heap.size w wr ∧ ∀ (j : Nat) (x y : BlV), j < k → bs[j]? = some x → cs[j]? = some y → x.t = y.t ∧ x.l = y.l) (fun i _ => n - (intOf i).toNat)
    case atStart => exact ⟨0, by omega, rfl, Below.refl _ _, fun j x y hj _ _ => by omega⟩
    case round =>
      obtain ⟨k, hk, rfl, hb, hinv⟩ := hrel
      have B1 := Lib.hid hb
      have HI := Lib.hid hinv
      clear hb hinv
      by_cases hlt : k < n
      · have b0 : (0 : Int) ≤ (k : Int) := by omega
        have b1 : (k : Int) < (n : Int) := by omega
        obtain ⟨x, hx⟩ := get_of HL.out hlt
        obtain ⟨y, hy⟩ := get_of HL2.out hlt
        obtain ⟨f1, f2, f3⟩ := HF.out k x hx
        obtain ⟨g1, g2, g3⟩ := HF2.out k y hy
        obtain ⟨ya, hya⟩ := (HA.out.below B1.out).at hlt hx
        obtain ⟨yb, hyb⟩ := (HB.out.below B1.out).at hlt hy
        have hx0 := Lib.hid hx
        have hy0 := Lib.hid hy
        have HQ := Lib.hid (fun U (hU : Below wr.heap.size wr U) => sb_impl x.t y.t ya yb x.n y.n x.l y.l U f1 g1 f2 g2 f3 g3 (keep_block hya.2.2 hU) (keep_block hyb.2.2 hU))
        obtain ⟨c0, c1⟩ := hya.keep (Below.refl wr.heap.size wr)
        have d0 := fun o => (hyb.keep ((Below.refl wr.heap.size wr).alloc (Nat.le_refl _) o)).1
        have d1 := fun o => (hyb.keep ((Below.refl wr.heap.size wr).alloc (Nat.le_refl _) o)).2
        clear hya hyb f1 f2 f3 g1 g2 g3 hx hy
        by_cases he : x.t = y.t ∧ x.l = y.l
        · rw [decide_eq_true he] at HQ
          have HE := Lib.hid he
          clear he
          obtain ⟨xt, xa, xn, xc, xl⟩ := x
          obtain ⟨yt, yaa, yn, yc, yl⟩ := y
          go_wp2_with fail
          refine (HQ.out _ (((Below.refl wr.heap.size wr).alloc (Nat.le_refl _) _).alloc (by simp) _)).mono ?_
          rintro e w1 ⟨rfl, hb⟩
          have HS := Lib.hid (B1.out.trans ((below_call (((Below.refl wr.heap.size wr).alloc (Nat.le_refl _) _).alloc (by simp) _) (by simp; omega) hb).mono B1.out.size))
          clear hb c0 c1 d0 d1
          go_wp2_with fail
          go_roundw
          case rel =>
            refine ⟨k + 1, by omega, by go_num, HS.out, fun j u v hj hu hv => ?_⟩
            by_cases hjk : j = k
            · subst hjk
              rw [hx0.out] at hu
              rw [hy0.out] at hv
              cases hu; cases hv
              exact HE.out
            · exact HI.out j u v (by omega) hu hv
          case measure => simp [intOf]; omega
        · rw [decide_eq_false he] at HQ
          have HE := Lib.hid (samB_no (bs := bs) (cs := cs) (fun h => he (h.2 k x y hx0.out hy0.out)))
          clear he
          obtain ⟨xt, xa, xn, xc, xl⟩ := x
          obtain ⟨yt, yaa, yn, yc, yl⟩ := y
          go_wp2_with fail
          refine (HQ.out _ (((Below.refl wr.heap.size wr).alloc (Nat.le_refl _) _).alloc (by simp) _)).mono ?_
          rintro e w1 ⟨rfl, hb⟩
          have HS := Lib.hid (B1.out.trans ((below_call (((Below.refl wr.heap.size wr).alloc (Nat.le_refl _) _).alloc (by simp) _) (by simp; omega) hb).mono B1.out.size))
          clear hb c0 c1 d0 d1
          go_wp2_with fail
          go_ret
          exact ⟨by rw [HE.out]; rfl, HS.out⟩
      · obtain rfl : k = n := by omega
        have HE := Lib.hid (samB_yes (bs := bs) (cs := cs) ⟨by rw [HL.out, HL2.out], fun j x y hx hy => HI.out j x y (by have := (List.getElem?_eq_some_iff.1 hx).1; have := HL.out; omega) hx hy⟩)
        go_wp2_with fail
        go_ret
        exact ⟨by rw [HE.out]; rfl, B1.out⟩
  · have z0 : ¬ (n : Int) = (m : Int) := by omega
    have z1 : ((n : Int) == (m : Int)) = false := by rw [beq_eq_false_iff_ne]; omega
    have HE := Lib.hid (samB_no (bs := bs) (cs := cs) (fun h => hnm (by rw [← HL.out, ← HL2.out]; exact h.1)))
    go_enter Try.func61, Try.ntmps61
    go_wp2_with fail
    go_ret
    exact ⟨by rw [HE.out]; rfl, Below.refl _ _⟩
set_option maxRecDepth 100000 in
set_option maxHeartbeats 4000000 in
theorem ss_impl (ga gb n m : Nat) (bs cs : List BlV) (hn : n ≤ 1048576) (hm : m ≤ 1048576) (hl : bs.length = n) (hl2 : cs.length = m) (hf : ∀ (i : Nat) (x : BlV), bs[i]? = some x → BlF x) (hf2 : ∀ (i : Nat) (x : BlV), cs[i]? = some x → BlF x) (w : World) (ha : OutB w ga n n bs) (hb : OutB w gb m m cs) :
    Calls Try.prog 20 #[.agg #[.slice (some ⟨ga, 0, none⟩) n n], .agg #[.slice (some ⟨gb, 0, none⟩) m m]] w fun e w' => e = .returned (.bool (samB bs cs)) ∧ Below w.heap.size w w' := by
  have A0 := heap_alloc2_old w (.cells #[.slice (some ⟨ga, 0, none⟩) n n] 29) (.cells #[.slice (some ⟨gb, 0, none⟩) m m] 29)
  have A1 := heap_alloc2_new w (.cells #[.slice (some ⟨ga, 0, none⟩) n n] 29) (.cells #[.slice (some ⟨gb, 0, none⟩) m m] 29)
  have B0' := ((Below.refl w.heap.size w).alloc (Nat.le_refl _) (.cells #[.slice (some ⟨ga, 0, none⟩) n n] 29)).alloc (by simp) (.cells #[.slice (some ⟨gb, 0, none⟩) m m] 29)
  obtain ⟨w0, hw0⟩ : ∃ w0, (w.alloc (.cells #[.slice (some ⟨ga, 0, none⟩) n n] 29)).alloc (.cells #[.slice (some ⟨gb, 0, none⟩) m m] 29) = w0 := ⟨_, rfl⟩
  rw [hw0] at A0 A1 B0'
  have E0 := Lib.hid A0
  have F0 := Lib.hid A1
  have B0 := Lib.hid B0'
  have HQ := Lib.hid (ef_impl ga gb n m bs cs hn hm hl hl2 hf hf2 w0 (ha.below B0') (hb.below B0'))
  clear ha hb hf hf2 hl hl2 A0 A1 B0'
  go_enter Try.func20, Try.ntmps20
  have q0 := cell_of_row _ w.heap.size 0 _ _ _ E0.out
  have r0 := cell_of_row _ (w.heap.size + 1) 0 _ _ _ F0.out
  go_wp2_with fail
  refine HQ.out.mono ?_
  rintro e w1 ⟨rfl, hb⟩
  have HS := Lib.hid (below_call B0.out B0.out.size hb)
  clear hb q0 r0 hw0
  go_wp2_with fail
  go_ret
  exact ⟨rfl, HS.out⟩
/- A store measured, brought over, compared. -/
set_option maxRecDepth 100000 in
set_option maxHeartbeats 4000000 in
theorem szSt (a : Option Addr) (n cap : Nat) (bs : List BlV) (left : Int) (h0 : 0 ≤ left) (h1 : left ≤ 1099511627776) (w : World) (hB : IsBls w a n bs) :
    Calls Try.prog 14 #[.agg #[.slice a n cap], .int .i64 left] w fun e w' => (∃ r, e = .returned (.int .i64 r) ∧ (r = -1 ∨ (0 ≤ r ∧ r = left - n - szS bs))) ∧ Below w.heap.size w w' := by
  have HB := Lib.hid hB
  clear hB
  go_enter Try.func14, Try.ntmps14
  go_wp2_with fail
  refine (szBlS a n cap bs left h0 h1 _ (HB.out.below (by go_grown))).mono ?_
  rintro e w1 ⟨⟨r, rfl, hr⟩, hb⟩
  have HS := Lib.hid (below_call ((Below.refl w.heap.size w).alloc (Nat.le_refl _) _) (by simp) hb)
  clear hb
  rcases hr with rfl | ⟨r0, hr⟩
  · go_wp2_with fail
    go_ret
    exact ⟨⟨_, rfl, Or.inl rfl⟩, HS.out⟩
  · have HR := Lib.hid hr
    have r1 : ¬ r < 0 := by omega
    clear hr
    go_wp2_with fail
    go_ret
    exact ⟨⟨_, rfl, Or.inr ⟨r0, HR.out⟩⟩, HS.out⟩
set_option maxRecDepth 100000 in
set_option maxHeartbeats 4000000 in
theorem toSt (a : Option Addr) (n cap : Nat) (bs : List BlV) (hn : n ≤ 1048576) (w : World) (hB : IsBls w a n bs) (hs : ∀ (i : Nat) (x : BlV), bs[i]? = some x → x.n ≤ 1048576) :
    Calls Try.prog 16 #[.agg #[.slice a n cap]] w fun e w' => ∃ g, e = .returned (.agg #[.slice (some ⟨g, 0, none⟩) n n]) ∧ OutB w' g n n bs ∧ Below w.heap.size w w' := by
  have HB := Lib.hid hB
  have HS := Lib.hid hs
  clear hB hs
  go_enter Try.func16, Try.ntmps16
  go_wp2_with fail
  refine (toBlS a n cap bs hn _ (HB.out.below (by go_grown)) HS.out).mono ?_
  rintro e w1 ⟨rfl, ho, hb⟩
  have BX : Below w.heap.size w (((w.alloc (.cells #[.slice a n cap] 24)).alloc (.cells #[.slice none 0 0] 29)).alloc (.cells #[.slice none 0 0] 29)) := by go_grown
  have g1 : (((w.alloc (.cells #[.slice a n cap] 24)).alloc (.cells #[.slice none 0 0] 29)).alloc (.cells #[.slice none 0 0] 29)).heap[w.heap.size + 1]? = some (.cells #[.slice none 0 0] 29) := heap_alloc_old _ _ (by simp) |>.trans (by rw [show w.heap.size + 1 = (w.alloc (.cells #[.slice a n cap] 24)).heap.size by simp]; exact heap_alloc_last _ _)
  have g2 : (((w.alloc (.cells #[.slice a n cap] 24)).alloc (.cells #[.slice none 0 0] 29)).alloc (.cells #[.slice none 0 0] 29)).heap[w.heap.size + 1 + 1]? = some (.cells #[.slice none 0 0] 29) := by
    rw [show w.heap.size + 1 + 1 = ((w.alloc (.cells #[.slice a n cap] 24)).alloc (.cells #[.slice none 0 0] 29)).heap.size by simp]; exact heap_alloc_last _ _
  have HO := Lib.hid ho
  have B1 := Lib.hid (below_call BX BX.size hb)
  have k1 := keep_block g1 hb
  have k2 := keep_block g2 hb
  have K1 := Lib.hid k1
  have K2 := Lib.hid k2
  have d1 := cell_of_row _ _ 0 _ _ _ k1
  have d2 := cell_of_row _ _ 0 _ _ _ k2
  have e1 := frozen_of_row _ _ 0 _ _ k1
  have e2 := frozen_of_row _ _ 0 _ _ k2
  generalize (((w.alloc (.cells #[.slice a n cap] 24)).alloc (.cells #[.slice none 0 0] 29)).alloc (.cells #[.slice none 0 0] 29)).heap.size = g at HO ⊢
  clear ho hb g1 g2 k1 k2 BX
  go_wp2_with fail
  have hh := heap_setCell_same _ (w.heap.size + 1) 0 _ _ (.slice (some ⟨g, 0, none⟩) n n) ((heap_setCell_other w1 ⟨w.heap.size + 1 + 1, 0, none⟩ (w.heap.size + 1) (.slice (some ⟨g, 0, none⟩) n n) (by simp)).trans K1.out)
  refine bodyPost_ret (results_cell_row rfl _ _ (w.heap.size + 1) 29 #[.slice (some ⟨g, 0, none⟩) n n] (0, 0) _ rfl hh Try.underlying29 rfl (by show _ = some 1; kernel_rfl)) rfl ?_
  exact ⟨_, rfl, (HO.out.setBox K2.out _).setBox ((heap_setCell_other _ _ _ _ (by simp)).trans K1.out) _, (B1.out.setCell (by simp; omega) _).setCell (by simp) _⟩
set_option maxRecDepth 100000 in
set_option maxHeartbeats 4000000 in
theorem eqSt (ga gb n : Nat) (bs : List BlV) (hn : n ≤ 1048576) (hl : bs.length = n) (hf : ∀ (i : Nat) (x : BlV), bs[i]? = some x → BlF x) (w : World) (ha : OutB w ga n n bs) (hb : OutB w gb n n bs) :
    Calls Try.prog 18 #[.agg #[.slice (some ⟨ga, 0, none⟩) n n], .agg #[.slice (some ⟨gb, 0, none⟩) n n]] w fun e w' => e = .returned (.bool true) ∧ Below w.heap.size w w' := by
  have HA := Lib.hid ha
  have HB := Lib.hid hb
  have HF := Lib.hid hf
  clear ha hb hf
  go_enter Try.func18, Try.ntmps18
  go_wp2_with fail
  refine (eqBlS ga gb n bs hn hl HF.out _ (HA.out.below (by go_grown)) (HB.out.below (by go_grown))).mono ?_
  rintro e w1 ⟨rfl, hb⟩
  have HS := Lib.hid (below_call (((Below.refl w.heap.size w).alloc (Nat.le_refl _) _).alloc (by simp) _) (by simp; omega) hb)
  clear hb
  go_wp2_with fail
  go_ret
  exact ⟨rfl, HS.out⟩
end Go.Proofs.Ytdoelmjaongjfaa
