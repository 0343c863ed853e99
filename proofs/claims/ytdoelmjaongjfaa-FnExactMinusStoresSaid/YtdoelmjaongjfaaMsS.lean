/- MinusStores, by the specification. Written by hand. -/
import Derived.Test.YtdoelmjaongjfaaQaC
namespace Go.Proofs.Ytdoelmjaongjfaa
open Go.ChangeShapes Go.WideShapes Go.ChangeAt Go.RowKit
set_option linter.unusedVariables false
set_option linter.unusedSimpArgs false
open Classical in
noncomputable def msL (bs cs : List BlV) : List BlV := if stP bs ∧ stP cs then bs.filter (fun x => !inS cs (keyX x)) else []
open Classical in
noncomputable def msC (bs cs : List BlV) : Int := if stP bs ∧ stP cs then 0 else 1
theorem msL_yes {bs cs : List BlV} (h : stP bs) (h2 : stP cs) : msL bs cs = bs.filter (fun x => !inS cs (keyX x)) := by unfold msL; exact if_pos ⟨h, h2⟩
theorem msL_no {bs cs : List BlV} (h : ¬ (stP bs ∧ stP cs)) : msL bs cs = [] := by unfold msL; exact if_neg h
theorem msC_yes {bs cs : List BlV} (h : stP bs) (h2 : stP cs) : msC bs cs = 0 := by unfold msC; exact if_pos ⟨h, h2⟩
theorem msC_no {bs cs : List BlV} (h : ¬ (stP bs ∧ stP cs)) : msC bs cs = 1 := by unfold msC; exact if_neg h
theorem msL_sub (bs cs : List BlV) : (msL bs cs).Sublist bs := by
  unfold msL
  split
  · exact List.filter_sublist
  · exact List.nil_sublist _
theorem msL_fine {bs cs : List BlV} (hf : ∀ (i : Nat) (x : BlV), bs[i]? = some x → BlG x) : ∀ (i : Nat) (z : BlV), (msL bs cs)[i]? = some z → z.l.length = z.n ∧ z.n ≤ 1048576 := fun i z hz => by
  obtain ⟨j, hj⟩ := List.getElem?_of_mem ((msL_sub bs cs).subset (List.mem_of_getElem? hz))
  exact ⟨(hf j z hj).1.2.1, (hf j z hj).1.1⟩
theorem fnd_neg {cs : List BlV} {k : List Int} {r : Int} (h : FndR cs k r) : decide (r < 0) = !inS cs k := by
  rcases h with ⟨i, x, hx, hk, rfl⟩ | ⟨hno, rfl⟩
  · have : inS cs k = true := by unfold inS; exact decide_eq_true ⟨x, List.mem_of_getElem? hx, hk⟩
    rw [this]
    exact decide_eq_false (by omega)
  · have : inS cs k = false := by
      unfold inS
      refine decide_eq_false (fun ⟨x, hx, hk⟩ => ?_)
      obtain ⟨i, hi⟩ := List.getElem?_of_mem hx
      exact hno i x hi hk
    rw [this]
    rfl
set_option maxRecDepth 100000 in
set_option maxHeartbeats 8000000 in
theorem ms_spec (g g' n n' : Nat) (bs cs : List BlV) (hn : n ≤ 1048576) (hn' : n' ≤ 1048576) (hl : bs.length = n) (hl' : cs.length = n') (hf : ∀ (i : Nat) (x : BlV), bs[i]? = some x → BlG x) (hf' : ∀ (i : Nat) (x : BlV), cs[i]? = some x → BlG x) (w : World) (ha : OutB w g n n bs) (ha' : OutB w g' n' n' cs) :
    Calls Try.prog 43 #[.agg #[.slice (some ⟨g, 0, none⟩) n n], .agg #[.slice (some ⟨g', 0, none⟩) n' n']] w (GrR (msL bs cs) (msC bs cs) w) := by
  have BX : Below w.heap.size w (((w.alloc (.cells #[.slice (some ⟨g, 0, none⟩) n n] 29)).alloc (.cells #[.slice (some ⟨g', 0, none⟩) n' n'] 29)).alloc (.cells #[.slice none 0 0] 29)) := by go_grown
  have A0 : (((w.alloc (.cells #[.slice (some ⟨g, 0, none⟩) n n] 29)).alloc (.cells #[.slice (some ⟨g', 0, none⟩) n' n'] 29)).alloc (.cells #[.slice none 0 0] 29)).heap[w.heap.size]? = some (.cells #[.slice (some ⟨g, 0, none⟩) n n] 29) := heap3_0 w _ _ _
  have A1 : (((w.alloc (.cells #[.slice (some ⟨g, 0, none⟩) n n] 29)).alloc (.cells #[.slice (some ⟨g', 0, none⟩) n' n'] 29)).alloc (.cells #[.slice none 0 0] 29)).heap[w.heap.size + 1]? = some (.cells #[.slice (some ⟨g', 0, none⟩) n' n'] 29) := heap3_1 w _ _ _
  have A2 : (((w.alloc (.cells #[.slice (some ⟨g, 0, none⟩) n n] 29)).alloc (.cells #[.slice (some ⟨g', 0, none⟩) n' n'] 29)).alloc (.cells #[.slice none 0 0] 29)).heap[w.heap.size + 1 + 1]? = some (.cells #[.slice none 0 0] 29) := heap3_2 w _ _ _
  obtain ⟨w0, hw0⟩ : ∃ w0, ((w.alloc (.cells #[.slice (some ⟨g, 0, none⟩) n n] 29)).alloc (.cells #[.slice (some ⟨g', 0, none⟩) n' n'] 29)).alloc (.cells #[.slice none 0 0] 29) = w0 := ⟨_, rfl⟩
  rw [hw0] at BX A0 A1 A2
  have HO := Lib.hid (open_spec w.heap.size g n bs hn hl hf w0 A0 (ha.below BX))
  have HO2 := Lib.hid (fun U (hU : Below w0.heap.size w0 U) => open_spec (w.heap.size + 1) g' n' cs hn' hl' hf' U (keep_block A1 hU) ((ha'.below BX).below hU))
  have HB := Lib.hid BX
  have H2 := Lib.hid A2
  have HL := Lib.hid hl
  have HL' := Lib.hid hl'
  have HF := Lib.hid hf
  clear ha ha' hf hf' hl hl' A0 A1 A2 BX
  go_enter Try.func43, Try.ntmps43
  go_wp2_with fail
  refine HO.out.mono ?_
  rintro e w1 ⟨h, hb⟩
  have B1 := Lib.hid (HB.out.trans (hb.mono HB.out.size))
  have G1 := Lib.hid (keep_block H2.out hb)
  have HO3 := Lib.hid (HO2.out w1 hb)
  clear hb HO HO2 HB H2 hw0
  rcases h with ⟨hP, rfl, v1, v2, ys, hop⟩ | ⟨hP, rfl⟩
  · have HP := Lib.hid hP
    have OP := Lib.hid hop
    clear hP hop
    go_wp2_with fail
    refine HO3.out.mono ?_
    rintro e w2 ⟨h, hb⟩
    have B2 := Lib.hid (below_call B1.out B1.out.size hb)
    have G2 := Lib.hid (keep_block G1.out hb)
    have P2 := Lib.hid (OP.out.below hb)
    clear hb HO3 B1 G1 OP
    rcases h with ⟨hP2, rfl, u1, u2, zs, hop⟩ | ⟨hP2, rfl⟩
    · have HP2 := Lib.hid hP2
      have PY2 := Lib.hid hop
      have HC := Lib.hid (msC_yes HP.out hP2)
      have HDL := Lib.hid (msL_yes HP.out hP2)
      clear hP2 hop
      obtain ⟨bl, hbl⟩ : ∃ bl, bs.map (fun x => !inS cs (keyX x)) = bl := ⟨_, rfl⟩
      have BLL := Lib.hid (show bl.length = n by rw [← hbl, List.length_map]; exact HL.out)
      have BLA : Hid (∀ (i : Nat) (x : BlV), bs[i]? = some x → bl[i]? = some (!inS cs (keyX x))) := Lib.hid (fun i x hx => by rw [← hbl, List.getElem?_map, hx]; rfl)
      have BLP := Lib.hid (show pick bs bl = msL bs cs by rw [HDL.out, ← hbl]; exact pick_map _ _)
      obtain ⟨a1, c1, rfl⟩ := P2.out.shape
      obtain ⟨a2, c2, rfl⟩ := keyOwn P2.out.row2
      have qx := cell_of_row _ _ 1 _ _ _ P2.out.box
      rw [HL.out] at qx
      clear hbl
      have z1 : (0 : Int) ≤ (n : Int) := by omega
      obtain ⟨ca, hcs, hmk⟩ := run_make_bools n hn w2
      have HCS := Lib.hid hcs
      go_upto_region 6 with fail
      go_wp2_with fail
      clear qx hmk
      have L3 := (Below.refl w2.heap.size w2).alloc (Nat.le_refl _) (.cells ca 4)
      have B3 := Lib.hid (below_call B2.out B2.out.size L3)
      have G3 := Lib.hid (keep_block G2.out L3)
      have P3 := Lib.hid (P2.out.below L3)
      have PY3 := Lib.hid (PY2.out.below L3)
      have X3 := Lib.hid (heap_alloc_last w2 (.cells ca 4))
      have S3 := Lib.hid (show w.heap.size ≤ w2.heap.size from B2.out.size)
      have N3 := Lib.hid (show w.heap.size + 1 + 1 < w2.heap.size from (Array.getElem?_eq_some_iff.1 G2.out).1)
      generalize w2.alloc (.cells ca 4) = w3 at L3 B3 G3 P3 PY3 X3 ⊢
      generalize w2.heap.size = lb at L3 X3 S3 N3 ⊢
      clear L3 B2 G2 P2 PY2
      have z2 : (n : Int) ≤ 1048576 := by omega
      go_loopw [11] (fun i wr => ∃ (k : Nat) (c : Array Value), k ≤ n ∧ i = .int .i64 (k : Int) ∧ Below w.heap.size w wr ∧ wr.heap[w.heap.size + 1 + 1]? = some (.cells #[.slice none 0 0] 29) ∧ OpenP wr w0.heap.size w0.heap.size (.slice a1 bs.length c1) (.slice a2 bs.length c2) bs ys bs.length (bs.flatMap keyX) ∧ OpenP wr w1.heap.size w1.heap.size u1 u2 cs zs cs.length (cs.flatMap keyX) ∧ wr.heap[lb]? = some (.cells c 4) ∧ c.size = n ∧ Hid (∀ (j : Nat) (b : Bool), j < k → bl[j]? = some b → c[j]? = some (.bool b))) (fun i _ => n - (intOf i).toNat)
      case atStart => exact ⟨0, ca, by omega, rfl, B3.out, G3.out, P3.out, PY3.out, X3.out, HCS.out, Lib.hid (fun j b hj => by omega)⟩
      case round =>
        obtain ⟨k, c, hk, rfl, hb, hg, hop, hopy, hx, hcz, hcl⟩ := hrel
        have B4 := Lib.hid hb
        have G4 := Lib.hid hg
        have P4 := Lib.hid hop
        have Y4 := Lib.hid hopy
        have X4 := Lib.hid hx
        have C4 := Lib.hid hcz
        clear hb hg hop hopy hx hcz B3 G3 P3 PY3 X3
        by_cases hlt : k < n
        · have b0 : (0 : Int) ≤ (k : Int) := by omega
          have b1 : (k : Int) < (n : Int) := by omega
          obtain ⟨x, hx0⟩ : ∃ x, bs[k]? = some x := ⟨bs[k]'(by have := HL.out; omega), List.getElem?_eq_getElem _⟩
          have HBK := Lib.hid (BLA.out k x hx0)
          obtain ⟨kg, cap, hv, hrg⟩ := P4.out.anyKey hx0
          cases hv
          obtain ⟨V, hV⟩ : ∃ V, keyX x = V := ⟨_, rfl⟩
          rw [hV] at hrg HBK
          have RG := Lib.hid (hrg wr (Below.refl _ _))
          have VK := Lib.hid (show IsK V by rw [← hV]; exact isK_keyX x)
          have HFD := Lib.hid (find_spec w1.heap.size w1.heap.size u1 u2 cs zs V VK.out (by have := HL'.out; omega) wr Y4.out)
          have qx := cell_of_row _ _ 1 _ _ _ P4.out.box
          rw [HL.out] at qx
          clear hrg hx0 hV
          obtain ⟨vv, hvv⟩ : ∃ vv, c[k]? = some vv := ⟨c[k]'(by have := C4.out; omega), Array.getElem?_eq_getElem _⟩
          have D1 := Lib.hid (fun U (hU : Below wr.heap.size wr U) => And.intro ((cell_of_row _ lb k _ _ _ (keep_block X4.out hU)).trans hvv) (frozen_of_row _ lb k _ _ (keep_block X4.out hU)))
          clear hvv
          go_upto_region 9 with fail
          go_wp2_with (first
            | (refine wpList_load_ints rfl 46 _ rfl kg (k * 32) rfl .u8 V _ RG.out Try.underlying46 rfl (by rw [VK.out.1]; exact sizeKey) ?_)
            | (go_at_call 64; refine HFD.out.mono ?_; rintro e w5 ⟨r, rfl, hr, hb⟩; obtain ⟨d0, f0⟩ := D1.out _ hb))
          have HR := Lib.hid (fnd_neg hr)
          have X5 := Lib.hid (keep_block X4.out hb)
          have G5 := Lib.hid (keep_block G4.out hb)
          have P5 := Lib.hid (P4.out.below hb)
          have Y5 := Lib.hid (Y4.out.below hb)
          have B5 := Lib.hid (below_call B4.out B4.out.size hb)
          clear hr hb
          go_roundw
          case rel => exact ⟨k + 1, _, by omega, by go_num, B5.out.setCell (p := ⟨lb, k, none⟩) S3.out _, (heap_setCell_other _ _ _ _ (by have := N3.out; simp; omega)).trans G5.out, P5.out.setBool X5.out, Y5.out.setBool X5.out, heap_setCell_same _ _ _ _ _ _ X5.out, by rw [Array.size_setIfInBounds]; exact C4.out, bools_step hcl hlt C4.out (by rw [HR.out]; exact HBK.out)⟩
          case measure => simp [intOf]; omega
        · obtain rfl : k = n := by omega
          have hcb : c = boolsA bl := bools_all (by rw [C4.out, BLL.out]) (fun j b hb2 => hcl.out j b (by have := (List.getElem?_eq_some_iff.1 hb2).1; have := BLL.out; omega) hb2)
          subst hcb
          have HKS := Lib.hid (keep_spec w0.heap.size w0.heap.size lb _ _ bs ys bl (by rw [BLL.out, HL.out]) (by have := HL.out; omega) wr P4.out X4.out)
          rw [HL.out] at HKS
          rw [BLP.out] at HKS
          go_wp2_with fail
          refine HKS.out.mono ?_
          rintro e w5 ⟨rfl, ⟨v1n, v2n, yn, hopn⟩, hb⟩
          have B5 := Lib.hid (below_call B4.out B4.out.size hb)
          have G5 := Lib.hid (keep_block G4.out hb)
          have HSS := Lib.hid (store_spec _ _ v1n v2n _ yn _ _ (by have := (msL_sub bs cs).length_le; have := HL.out; omega) (msL_fine HF.out) w5 hopn)
          clear hb hopn HKS
          go_wp2_with fail
          refine HSS.out.mono ?_
          rintro e w6 ⟨v, us, rfl, hG, hb⟩
          have B6 := Lib.hid (below_call B5.out B5.out.size hb)
          have G6 := Lib.hid (keep_block G5.out hb)
          have H6 := Lib.hid hG
          have SZ := Lib.hid B5.out.size
          clear hb hG HSS
          have c0 := cell_of_row _ _ 0 _ _ _ G6.out
          have f0 := frozen_of_row _ _ 0 _ _ G6.out
          obtain ⟨a6, c6, rfl, -⟩ := H6.out.rd
          go_wp2_with fail
          refine bodyPost_ret (results_cell2_row rfl _ _ (w.heap.size + 1 + 1) 29 #[_] (0, 0) _ rfl (st_box G6.out) Try.underlying29 rfl sizeSt) rfl ?_
          rw [HC.out]
          exact GrR.of G6.out (by omega) SZ.out B6.out H6.out
    · have HPP := Lib.hid (show ¬ (stP bs ∧ stP cs) from fun h => hP2 h.2)
      clear hP2
      have q0 := cell_of_row w2 (w.heap.size + 1 + 1) 0 _ _ _ G2.out
      have f0 := frozen_of_row w2 (w.heap.size + 1 + 1) 0 _ _ G2.out
      go_wp2_with fail
      refine bodyPost_ret (results_cell2_row rfl _ _ (w.heap.size + 1 + 1) 29 #[_] (0, 0) _ rfl (st_box G2.out) Try.underlying29 rfl sizeSt) rfl ?_
      rw [msC_no HPP.out, msL_no HPP.out]
      exact GrR.of G2.out (by omega) (Nat.le_refl _) B2.out (GrS.nil _ _)
  · have HPP := Lib.hid (show ¬ (stP bs ∧ stP cs) from fun h => hP h.1)
    clear hP
    go_wp2_with fail
    refine HO3.out.mono ?_
    rintro e w2 ⟨h, hb⟩
    have B2 := Lib.hid (below_call B1.out B1.out.size hb)
    have G2 := Lib.hid (keep_block G1.out hb)
    clear hb HO3 B1 G1
    have q0 := cell_of_row w2 (w.heap.size + 1 + 1) 0 _ _ _ G2.out
    have f0 := frozen_of_row w2 (w.heap.size + 1 + 1) 0 _ _ G2.out
    have hE : ∃ b2, e = .returned (.tuple #[.pointer (some ⟨w1.heap.size, 0, none⟩), .bool b2]) := by
      rcases h with ⟨_, h2, _⟩ | ⟨_, h2⟩
      · exact ⟨_, h2⟩
      · exact ⟨_, h2⟩
    obtain ⟨b2, rfl⟩ := hE
    clear h
    go_wp2_with fail
    refine bodyPost_ret (results_cell2_row rfl _ _ (w.heap.size + 1 + 1) 29 #[_] (0, 0) _ rfl (st_box G2.out) Try.underlying29 rfl sizeSt) rfl ?_
    rw [msC_no HPP.out, msL_no HPP.out]
    exact GrR.of G2.out (by omega) (Nat.le_refl _) B2.out (GrS.nil _ _)
end Go.Proofs.Ytdoelmjaongjfaa
