/- MinusStores, by the program. Written by hand. -/
import Derived.Test.YtdoelmjaongjfaaMsS
import Derived.Test.YtdoelmjaongjfaaBoS
namespace Go.Proofs.Ytdoelmjaongjfaa
open Go.ChangeShapes Go.WideShapes Go.ChangeAt Go.RowKit
set_option linter.unusedVariables false
set_option linter.unusedSimpArgs false
/-- What stays of a shelf when other keys have been struck. -/
theorem ShelfAt.struck {w w1 : World} {m : Nat} {xs : List BlV} {ps : List (List Int × Value)} {f : List Int → Bool} (hK : KMap Try.prog 46 w m ps) (hl : ps.length = xs.length) (hr : ∀ (i : Nat) (p : List Int × Value) (x : BlV), ps[i]? = some p → xs[i]? = some x → p.1 = keyX x ∧ BlHere w p.2 x) (hK1 : KMap Try.prog 46 w1 m (ps.filter (fun p => !f p.1))) (hg : Keep w.heap.size (fun q => q = m) w w1) : ShelfAt w1 m (xs.filter (fun x => !f (keyX x))) := by
  have h := rel_filter (R := fun (p : List Int × Value) (x : BlV) => p.1 = keyX x ∧ BlHere w1 p.2 x) (f := fun p => !f p.1) (g := fun x => !f (keyX x)) (fun p x hpx => by rw [hpx.1]) ps xs hl (fun i p x hp hx => ⟨(hr i p x hp hx).1, by
    obtain ⟨y, hy1, hy2⟩ := (hr i p x hp hx).2
    refine ⟨y, hy1, hg.hold (fun e => ?_) hy2⟩
    obtain ⟨es, clock, hb, _⟩ := hK
    have e' : y = m := e
    rw [e', hb] at hy2
    cases hy2⟩)
  exact ⟨_, hK1, h.1, h.2⟩
theorem GR_no {bs cs : List BlV} {w w1 : World} {g : Nat} {u : Value} (h : ¬ (stP bs ∧ stP cs)) (hg : w1.heap[g]? = some (.cells #[u] 29)) (hb : Below w.heap.size w w1) (hlo : w.heap.size ≤ g) : (w1.setCell ⟨g, 0, none⟩ (.slice none 0 0)).heap[g]? = some (.cells #[.slice none 0 0] 29) ∧ OwR (msL bs cs) (msC bs cs) w (.returned (.tuple #[.agg #[.slice none 0 0], .int .i64 1])) (w1.setCell ⟨g, 0, none⟩ (.slice none 0 0)) := by
  refine ⟨st_box hg, ?_⟩
  rw [msL_no h, msC_no h]
  exact OwR.of hg hlo (Nat.le_refl _) hb (OwnS.nil _ _)
set_option maxRecDepth 100000 in
set_option maxHeartbeats 8000000 in
theorem ms_impl (g g' n n' : Nat) (bs cs : List BlV) (hn : n ≤ 1048576) (hn' : n' ≤ 1048576) (hl : bs.length = n) (hl' : cs.length = n') (hf : ∀ (i : Nat) (x : BlV), bs[i]? = some x → BlG x) (hf' : ∀ (i : Nat) (x : BlV), cs[i]? = some x → BlG x) (w : World) (ha : OutB w g n n bs) (ha' : OutB w g' n' n' cs) :
    Calls Try.prog 44 #[.agg #[.slice (some ⟨g, 0, none⟩) n n], .agg #[.slice (some ⟨g', 0, none⟩) n' n']] w (OwR (msL bs cs) (msC bs cs) w) := by
  have BX : Below w.heap.size w (((w.alloc (.cells #[.slice (some ⟨g, 0, none⟩) n n] 29)).alloc (.cells #[.slice (some ⟨g', 0, none⟩) n' n'] 29)).alloc (.cells #[.slice none 0 0] 29)) := by go_grown
  have A0 : (((w.alloc (.cells #[.slice (some ⟨g, 0, none⟩) n n] 29)).alloc (.cells #[.slice (some ⟨g', 0, none⟩) n' n'] 29)).alloc (.cells #[.slice none 0 0] 29)).heap[w.heap.size]? = some (.cells #[.slice (some ⟨g, 0, none⟩) n n] 29) := heap3_0 w _ _ _
  have A1 : (((w.alloc (.cells #[.slice (some ⟨g, 0, none⟩) n n] 29)).alloc (.cells #[.slice (some ⟨g', 0, none⟩) n' n'] 29)).alloc (.cells #[.slice none 0 0] 29)).heap[w.heap.size + 1]? = some (.cells #[.slice (some ⟨g', 0, none⟩) n' n'] 29) := heap3_1 w _ _ _
  have A2 : (((w.alloc (.cells #[.slice (some ⟨g, 0, none⟩) n n] 29)).alloc (.cells #[.slice (some ⟨g', 0, none⟩) n' n'] 29)).alloc (.cells #[.slice none 0 0] 29)).heap[w.heap.size + 1 + 1]? = some (.cells #[.slice none 0 0] 29) := heap3_2 w _ _ _
  obtain ⟨w0, hw0⟩ : ∃ w0, ((w.alloc (.cells #[.slice (some ⟨g, 0, none⟩) n n] 29)).alloc (.cells #[.slice (some ⟨g', 0, none⟩) n' n'] 29)).alloc (.cells #[.slice none 0 0] 29) = w0 := ⟨_, rfl⟩
  rw [hw0] at BX A0 A1 A2
  have HO := Lib.hid (both_impl g g' n n' bs cs hn hn' hl hl' hf hf' w0 (ha.below BX) (ha'.below BX))
  have HB := Lib.hid BX
  have H0 := Lib.hid A0
  have H1 := Lib.hid A1
  have H2 := Lib.hid A2
  have HL := Lib.hid hl
  have HF := Lib.hid hf
  have S0 := Lib.hid BX.size
  clear ha ha' hf hf' hl hl' A0 A1 A2 BX
  go_enter Try.func44, Try.ntmps44
  go_upto_region 1 with fail
  have qs := cell_of_row _ w.heap.size 0 _ _ _ H0.out
  have qt := cell_of_row _ (w.heap.size + 1) 0 _ _ _ H1.out
  go_wp2_with fail
  clear qs qt
  refine HO.out.mono ?_
  rintro e w2 ⟨h, hb⟩
  have B2 := Lib.hid (HB.out.trans (hb.mono HB.out.size))
  have G2 := Lib.hid (keep_block H2.out hb)
  clear hb HO HB H0 H1 H2 hw0
  rcases h with ⟨hP, hP2, m, o, rfl, hm0, ho0, hne, hsh, hso⟩ | ⟨hno, u, v, rfl⟩
  · have L3 := (Below.refl w2.heap.size w2).alloc (Nat.le_refl _) (.cells #[.map (some o)] 80)
    have B3 := Lib.hid (below_call B2.out B2.out.size L3)
    have G3 := Lib.hid (keep_block G2.out L3)
    have C3 := Lib.hid (heap_alloc_last w2 (.cells #[.map (some o)] 80))
    have SH3 := Lib.hid (hsh.below L3)
    have SO3 := Lib.hid (hso.below L3)
    have HM := Lib.hid hne
    have HM0 := Lib.hid (show w.heap.size ≤ m by have := S0.out; omega)
    have HP := Lib.hid hP
    have HC := Lib.hid (msC_yes hP hP2)
    have HDL := Lib.hid (msL_yes hP hP2)
    have HCM := Lib.hid (show w2.heap.size ≠ m from fun e => by have := hsh.lt; omega)
    clear hsh hso hm0 ho0 hP hP2 hne B2 G2 L3
    go_upto_region 4 with fail
    generalize w2.alloc (.cells #[.map (some o)] 80) = w3 at B3 G3 C3 SH3 SO3 ⊢
    generalize w2.heap.size = cb at C3 HCM ⊢
    obtain ⟨ps, hK, hlen, hps⟩ := SH3.out
    have HD := Lib.hid (delf_impl m o cb ps cs HM.out HCM.out w3 hK (fun p hp => by
      obtain ⟨x, _, _, y, hy, _⟩ := shelf_mem hlen hps hp
      exact ⟨x, y, hy⟩) C3.out SO3.out)
    have HST : Hid (∀ U, KMap Try.prog 46 U m (ps.filter (fun p => !inS cs p.1)) → Keep w3.heap.size (fun q => q = m) w3 U → ShelfAt U m (bs.filter (fun x => !inS cs (keyX x)))) := Lib.hid (fun U h1 h2 => ShelfAt.struck hK hlen hps h1 h2)
    have GNM : Hid (w.heap.size + 1 + 1 ≠ m) := Lib.hid (fun e => by
      obtain ⟨es, clock, hb, _⟩ := hK
      have := G3.out
      rw [e, hb] at this
      cases this)
    clear hK hlen hps SH3 SO3 C3
    go_wp2_with fail
    refine HD.out.mono ?_
    rintro e w4 ⟨⟨v0, rfl⟩, hK4, hk4⟩
    have S4 := HST.out w4 hK4 hk4
    have B4 := Lib.hid (B3.out.trans (hk4.below B3.out.size (fun k h => by rw [h]; exact HM0.out)))
    have G4 : Hid (w4.heap[w.heap.size + 1 + 1]? = some (.cells #[.slice none 0 0] 29)) := Lib.hid (hk4.hold (fun h => GNM.out h) G3.out)
    have HSI := Lib.hid (store_impl m _ _ (by have := (msL_sub bs cs).length_le; rw [HDL.out] at this; have := HL.out; omega) (st_sub HP.out List.filter_sublist) (fun z hz => hz) (fun z hz => by
      obtain ⟨j, hj⟩ := List.getElem?_of_mem (List.mem_filter.1 hz).1
      exact ⟨(HF.out j z hj).1.2.1, (HF.out j z hj).1.1⟩) w4 S4)
    rw [← HDL.out] at HSI
    clear hK4 hk4 S4 HD HST B3 G3
    go_wp2_with fail
    refine HSI.out.mono ?_
    rintro e w6 ⟨v, ys, rfl, hG, hb⟩
    have B6 := Lib.hid (below_call B4.out B4.out.size hb)
    have G6 := Lib.hid (keep_block G4.out hb)
    have H6 := Lib.hid hG
    have SZ := Lib.hid B4.out.size
    clear hb hG HSI
    have c0 := cell_of_row _ _ 0 _ _ _ G6.out
    have f0 := frozen_of_row _ _ 0 _ _ G6.out
    obtain ⟨a6, c6, rfl, -⟩ := H6.out.shape
    go_wp2_with fail
    refine bodyPost_ret (results_cell2_row rfl _ _ (w.heap.size + 1 + 1) 29 #[_] (0, 0) _ rfl (st_box G6.out) Try.underlying29 rfl sizeSt) rfl ?_
    rw [HC.out]
    exact OwR.of G6.out (by omega) SZ.out B6.out H6.out
  · have L3 := (Below.refl w2.heap.size w2).alloc (Nat.le_refl _) (.cells #[.map v] 80)
    have B3 := Lib.hid (below_call B2.out B2.out.size L3)
    have G3 := Lib.hid (keep_block G2.out L3)
    have HPP := Lib.hid hno
    clear hno L3 B2 G2
    have q0 := cell_of_row _ (w.heap.size + 1 + 1) 0 _ _ _ G3.out
    have f0 := frozen_of_row _ (w.heap.size + 1 + 1) 0 _ _ G3.out
    have HR := Lib.hid (GR_no HPP.out G3.out B3.out (by omega))
    clear B3 G3
    go_wp2_with fail
    refine bodyPost_ret (results_cell2_row rfl _ _ (w.heap.size + 1 + 1) 29 #[_] (0, 0) _ rfl HR.out.1 Try.underlying29 rfl sizeSt) rfl ?_
    exact HR.out.2
end Go.Proofs.Ytdoelmjaongjfaa
