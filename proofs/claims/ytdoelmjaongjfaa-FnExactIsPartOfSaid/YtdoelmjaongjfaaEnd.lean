/- The key behind a state and what is left of the data, as the specification has it. -/
import Derived.Test.YtdoelmjaongjfaaPad
import Derived.StillTailTactics
namespace Go.Proofs.Ytdoelmjaongjfaa
open Go.ChangeShapes Go.WideShapes Go.ChangeAt Go.RowKit
set_option linter.unusedVariables false
theorem take_at {P : Program} {ops : Array Oper} {Q : Exit → Act → World → Prop} {md : Region.Mode} {S : World → Prop} {i : Nat} {d : Tmp} {oi : Oper} {v : Value} {fuel : Nat} {listed : Array Bool} {ts : Array Value} {ds : List Deferred} {w : World}
    (hi : ops[i]? = some oi) (hd : oi.dst = some d) (hs : Region.noSelect ops = true) (hf : Region.free md ops listed i = true) (hr : (Region.ready md ops listed).contains i = true)
    (hQ : ∀ c a w, Q (.panic c) (a.put oi.dst v) w → Q (.panic c) a w) (hy : YieldsIf P ops S oi v ⟨ts, ds⟩) (hS : S w)
    (h : wpAnyH P md ops Q S fuel (listed.setIfInBounds i true) ⟨ts.setIfInBounds d v, ds⟩ w) : wpAnyH P md ops Q S (fuel + 1) listed ⟨ts, ds⟩ w :=
  wpAnyH_take hi hs hf hr hQ hy hS (by rw [hd]; exact h)
theorem wpStill_load_row {P : Program} {ops : Array Oper} {w : World} {Q : Act → Prop} {a : Act} {o : Oper} {rest : List Oper} (hw : Region.wanted o (yielded ops a.tmps) = true) (ty : TypeId) (x : Operand) (ho : o.op = .load ty x)
    (b : Nat) (hx : a.eval x = .pointer (some ⟨b, 0, none⟩)) (cs : Array Value) (t : TypeId) (d : TypeDesc) (hg : w.heap[b]? = some (.cells cs t (0, 0)))
    (hu : P.underlying ty = some d) (hd : (match d with | .struct _ | .array _ _ => true | _ => false) = true) (hi : (P.info? ty).map (·.size) = some cs.size)
    (h : wpStill P ops w Q rest (a.put o.dst (.agg cs))) : wpStill P ops w Q (o :: rest) a :=
  wpStill_step (fun K hK => by
    have e : (execOp a.eval o).run P w = .ok (.value (.agg cs)) w := by
      unfold execOp
      simp only [ho, hx, Instr.loadAt, Instr.sureAddr, Sem.run_bind, Sem.run_pure, Result.andThen_ok, run_loadVar_row w b t ty cs (0, 0) d hg hu hd hi]
    rw [if_pos hw]
    unfold Oper.still
    rw [e, Oper.stillUpon_value]
    exact hK _ h)
theorem mixF_ok {st b : List Int} (sr : W32 st) : W32 (mixF st b) := by
  refine ⟨xor8_len (W32_R sr 12).1 sr.1, fun x hx => ?_⟩
  unfold mixF xor8 at hx
  obtain ⟨i, hi, rfl⟩ := List.mem_iff_getElem.1 hx
  rw [List.getElem_zipWith]
  exact xor_range _ _
/-- The state behind j blocks. -/
def mixB (st L : List Int) : Nat → List Int
  | 0 => st
  | j + 1 => mixF (mixB st L j) (blk L (32 * j))
theorem mixB_ok {st L : List Int} (h : W32 st) : ∀ j, W32 (mixB st L j)
  | 0 => h
  | j + 1 => mixF_ok (mixB_ok h j)
/-- The key of a state. -/
def keyS (st : List Int) : List Int := (List.range 32).map fun (i : Nat) => st[i / 4]?.getD 0 / 2 ^ (8 * (i % 4)) % 256
theorem keyS_len (st : List Int) : (keyS st).length = 32 := by simp [keyS]
theorem keyS_at (st : List Int) (i : Nat) (h : i < 32) : (keyS st)[i]?.getD 0 = st[i / 4]?.getD 0 / 2 ^ (8 * (i % 4)) % 256 := by simp [keyS, h]
def endK (st l : List Int) (c : Int) : List Int := keyS (mixB st (padL l c) ((padL l c).length / 32))
theorem padL_range {l : List Int} (h : ∀ z ∈ l, 0 ≤ z ∧ z ≤ 255) (c : Int) : ∀ z ∈ padL l c, 0 ≤ z ∧ z ≤ 255 := by
  intro z hz
  unfold padL at hz
  rcases List.mem_append.1 hz with hz | hz
  · rcases List.mem_append.1 hz with hz | hz
    · rcases List.mem_append.1 hz with hz | hz
      · exact h z hz
      · rw [List.mem_singleton.1 hz]; omega
    · rw [(List.mem_replicate.1 hz).2]; omega
  · unfold le8 at hz
    obtain ⟨i, _, rfl⟩ := List.mem_map.1 hz
    omega
theorem padL_mod (l : List Int) (c : Int) : (padL l c).length % 32 = 0 := by
  rw [padL_len]
  have := padN_mod l.length
  omega
theorem rd_of_take {w : World} {g : Nat} {cur : Array Value} {t : TypeId} {L : List Int} (hh : w.heap[g]? = some (.cells cur t)) (ht : cur.toList.take L.length = L.map (Value.int .u8)) : Rd .u8 w (some ⟨g, 0, none⟩) L.length L :=
  ⟨rfl, Or.inr ⟨g, 0, rfl, (Array.getElem?_eq_some_iff.1 hh).1, fun j hj => by
    rw [Nat.zero_add, cell_of_row w g j _ _ _ hh]
    have : (cur.toList.take L.length)[j]? = (L.map (Value.int .u8))[j]? := by rw [ht]
    rw [List.getElem?_take_of_lt hj, List.getElem?_map, List.getElem?_eq_getElem hj] at this
    rw [List.getElem?_eq_getElem hj]
    simpa using this⟩⟩
set_option maxRecDepth 100000 in
set_option maxHeartbeats 1000000 in
theorem end_spec (st : List Int) (b off n cap : Nat) (l : List Int) (c : Int) (sr : W32 st) (fl : ∀ z ∈ l, 0 ≤ z ∧ z ≤ 255) (hn : n ≤ 1048576) (c0 : 0 ≤ c) (c1 : c ≤ 1099511627776) (w : World) (hl : l.length = n) (hb : b < w.heap.size) (hc : ∀ j, j < n → w.cell? ⟨b, off + j, none⟩ = some (.int .u8 (l[j]?.getD 0))) :
    Calls Try.prog 112 #[.agg (ints .u32 st), .slice (some ⟨b, off, none⟩) n cap, .int .i64 c] w fun e w' => e = .returned (.agg (ints .u8 (endK st l c))) ∧ Below w.heap.size w w' := by
  have Hpad := Lib.hid (fun (W : World) hb hc => pad_spec b off n cap l c hn c0 c1 W hl hb hc)
  have HC := Lib.hid hc
  have HL := Lib.hid hb
  have Sr := Lib.hid sr
  have Hz := Lib.hid z32_ints
  have Pm := Lib.hid (padL_mod l c)
  have Pr := Lib.hid (padL_range fl c)
  have Pn : Hid ((padL l c).length ≤ 1048640) := Lib.hid (by rw [padL_len, hl]; unfold padN; omega)
  have He : Hid (endK st l c = keyS (mixB st (padL l c) ((padL l c).length / 32))) := Lib.hid rfl
  clear hc hb sr fl hl
  generalize endK st l c = EK at He
  generalize padL l c = L at Hpad Pm Pr Pn He
  go_enter Try.func112, Try.ntmps112
  go_wp2_with fail
  refine (Hpad.out _ (by simp; have := HL.out; omega) (fun j hj => by rw [(((Below.refl w.heap.size w).alloc (by simp) _).alloc (by simp) _).cell (p := ⟨b, off + j, none⟩) HL.out]; exact HC.out j hj)).mono ?_
  rintro e w1 ⟨g, cp, cur, rfl, hge, hh, ht, hb⟩
  have hge2 : w.heap.size + 2 ≤ g := by simpa using hge
  have B1 := Lib.hid ((((Below.refl w.heap.size w).alloc (by simp) (.cells (ints .u32 st) 138)).alloc (by simp) (.cells (ints .u8 z32) 46)).trans (by rw [Hz.out]; exact hb.mono (by simp; omega)))
  have S1 := Lib.hid (keep_block (heap_alloc2_old w (.cells (ints .u32 st) 138) (.cells (ints .u8 z32) 46)) (by rw [Hz.out]; exact hb))
  have Z1 := Lib.hid (keep_block (heap_alloc2_new w (.cells (ints .u32 st) 138) (.cells (ints .u8 z32) 46)) (by rw [Hz.out]; exact hb))
  have HH := Lib.hid hh
  have HT := Lib.hid ht
  have HGE := Lib.hid hge2
  clear hge hh ht hb hge2
  go_wp2_with fail
  go_loopw [8] (fun i wr => ∃ j : Nat, 32 * j ≤ L.length ∧ i = .int .i64 ((32 * j : Nat) : Int) ∧ Below w.heap.size w wr ∧ wr.heap[w.heap.size]? = some (.cells (ints .u32 (mixB st L j)) 138) ∧ wr.heap[w.heap.size + 1]? = some (.cells (ints .u8 z32) 46) ∧ wr.heap[g]? = some (.cells cur 5)) (fun i _ => L.length - (intOf i).toNat)
  case atStart => exact ⟨0, by omega, rfl, B1.out, S1.out, Z1.out, HH.out⟩
  case round =>
    obtain ⟨j, hj, rfl, hb, h0, h1, h2⟩ := hrel
    have HB := Lib.hid hb
    have H0 := Lib.hid h0
    have H1 := Lib.hid h1
    have H2 := Lib.hid h2
    clear hb h0 h1 h2
    by_cases hlt : 32 * j < L.length
    · have hp : 32 * j + 32 ≤ L.length := by have hq := Pm.out; omega
      have Hok := Lib.hid (mixB_ok (L := L) Sr.out j)
      have Hbl := Lib.hid (blk_len hp)
      have Hbr := Lib.hid (blk_range Pr.out (32 * j))
      have Hm := Lib.hid (fun W => mix_spec (mixB st L j) (blk L (32 * j)) Hbl.out Hok.out Hbr.out W)
      have Hnx : Hid (mixF (mixB st L j) (blk L (32 * j)) = mixB st L (j + 1)) := Lib.hid rfl
      have Hbk := Lib.hid (fun (W : World) h => block_spec (some ⟨g, 0, none⟩) L.length cp (32 * j) L Pn.out hp W h)
      have Hx8 := Lib.hid (mixB_ok (L := L) Sr.out (j + 1)).1
      rw [Hnx.out] at Hm
      clear Hnx
      generalize hXe : mixB st L (j + 1) = X at Hm Hx8
      have HXe := Lib.hid hXe
      clear hXe
      generalize mixB st L j = S at H0 Hok Hm
      generalize blk L (32 * j) = K at Hm Hbk Hbl Hbr
      generalize hJ : 32 * j = J at hlt hp Hbk
      have HJ := Lib.hid hJ
      clear hJ
      have b0 : (0 : Int) ≤ (J : Int) := by omega
      have b1 : (J : Int) < (L.length : Int) := by omega
      have b2 : (J : Int) ≤ 1048640 := by have hq := Pn.out; omega
      go_wp2_with fail
      refine wp_region_held_drew (S := fun _ => True) (by kernel_rfl) trivial (fun hS => ?_)
      refine take_at (i := 1) (v := .slice (some ⟨g, 0, none⟩) L.length cp) rfl rfl (by kernel_rfl) (by kernel_rfl) (by kernel_rfl) (fun _ _ _ h => h) (Or.inl ⟨by rfl, fun W hW => by go_simp⟩) hS ?_
      refine take_at (i := 2) (v := .int .i64 (J : Int)) rfl rfl (by kernel_rfl) (by kernel_rfl) (by kernel_rfl) (fun _ _ _ h => h) (Or.inl ⟨by rfl, fun W hW => by go_simp⟩) hS ?_
      simp only [List.setIfInBounds_toArray, List.set_cons_zero, List.set_cons_succ]
      refine wpAnyH_ready (rs := [0, 3]) (by kernel_rfl) (by simp) ?_
      refine AllReadyH.cons rfl (fun K hK => ?_) (AllReadyH.cons rfl (fun K hK => ?_) AllReadyH.nil)
      · rw [if_pos (by rfl)]
        refine wp_load_row (o := ⟨some _, _, _, _, _, _⟩) 138 _ rfl w.heap.size rfl 138 (ints .u32 S) (0, 0) _ H0.out Try.underlying138 rfl (by rw [ints_size, Hok.out.1]; exact sizeA8) ?_
        simp only [Act.put]
        refine hK.out _ _ trivial (fun hS => ?_)
        clear hK
        refine wpAnyH_ready (rs := [3]) (by kernel_rfl) (by simp) ?_
        refine AllReadyH.cons rfl (fun K hK => ?_) AllReadyH.nil
        rw [if_pos (by rfl)]
        go_simp
        refine (Hbk.out _ (rd_of_take (w := wr.drew) H2.out HT.out)).mono ?_
        rintro e w3 ⟨rfl, hb3⟩
        refine hK.out _ _ trivial (fun hS => ?_)
        clear hK
        refine wpAnyH_ready (rs := [4]) (by kernel_rfl) (by simp) ?_
        refine AllReadyH.cons rfl (fun K hK => ?_) AllReadyH.nil
        rw [if_pos (by rfl)]
        go_simp
        refine (Hm.out _).mono ?_
        rintro e w4 ⟨rfl, hb4⟩
        have hb := hb3.trans (hb4.mono hb3.size)
        have B4 := Lib.hid (HB.out.drew.trans (hb.mono HB.out.size))
        have S4 := Lib.hid (keep_block (w := wr.drew) H0.out hb)
        have Z4 := Lib.hid (keep_block (w := wr.drew) H1.out hb)
        have G4 := Lib.hid (keep_block (w := wr.drew) H2.out hb)
        refine hK.out _ _ trivial (fun hS => ?_)
        clear hb3 hb4 hb hK
        refine wpAnyH_ready (rs := [5]) (by kernel_rfl) (by simp) ?_
        refine AllReadyH.cons rfl (fun K hK => ?_) AllReadyH.nil
        rw [if_pos (by rfl)]
        refine wp_store_row (o := ⟨none, _, _, _, _, _⟩) 138 _ _ rfl w.heap.size (ints .u32 X) rfl rfl 138 _ S4.out (by rw [ints_size, Hx8.out]; exact sizeA8) (by rw [ints_size, ints_size, Hx8.out, Hok.out.1]) (ints_one _ _) ?_
        simp only [Act.put]
        refine hK.out _ _ trivial (fun hS => ?_)
        refine wpAnyH_done (by kernel_rfl) ?_ _
        clear hS hK
        go_wp2_with fail
        go_roundw
        case rel =>
          have hge := HGE.out
          have hJ := HJ.out
          refine ⟨j + 1, by omega, by rw [show 32 * (j + 1) = J + 32 by omega]; go_num, Below.setRow B4.out (Nat.le_refl _) _, by rw [HXe.out]; exact setRow_heap _ _ _ _ _ _ S4.out, ?_, ?_⟩
          · rw [setRow_other _ _ _ _ (by omega)]; exact Z4.out
          · rw [setRow_other _ _ _ _ (by omega)]; exact G4.out
        case measure => simp [intOf]; omega
      · rw [if_pos (by rfl)]
        go_simp
        refine (Hbk.out _ (rd_of_take (w := wr.drew) H2.out HT.out)).mono ?_
        rintro e w3 ⟨rfl, hb3⟩
        refine hK.out _ _ trivial (fun hS => ?_)
        clear hK
        refine wpAnyH_ready (rs := [0]) (by kernel_rfl) (by simp) ?_
        refine AllReadyH.cons rfl (fun K hK => ?_) AllReadyH.nil
        rw [if_pos (by rfl)]
        refine wp_load_row (o := ⟨some _, _, _, _, _, _⟩) 138 _ rfl w.heap.size rfl 138 (ints .u32 S) (0, 0) _ (keep_block (w := wr.drew) H0.out hb3) Try.underlying138 rfl (by rw [ints_size, Hok.out.1]; exact sizeA8) ?_
        simp only [Act.put]
        refine hK.out _ _ trivial (fun hS => ?_)
        clear hK
        refine wpAnyH_ready (rs := [4]) (by kernel_rfl) (by simp) ?_
        refine AllReadyH.cons rfl (fun K hK => ?_) AllReadyH.nil
        rw [if_pos (by rfl)]
        go_simp
        refine (Hm.out _).mono ?_
        rintro e w4 ⟨rfl, hb4⟩
        have hb := hb3.trans (hb4.mono hb3.size)
        have B4 := Lib.hid (HB.out.drew.trans (hb.mono HB.out.size))
        have S4 := Lib.hid (keep_block (w := wr.drew) H0.out hb)
        have Z4 := Lib.hid (keep_block (w := wr.drew) H1.out hb)
        have G4 := Lib.hid (keep_block (w := wr.drew) H2.out hb)
        refine hK.out _ _ trivial (fun hS => ?_)
        clear hb3 hb4 hb hK
        refine wpAnyH_ready (rs := [5]) (by kernel_rfl) (by simp) ?_
        refine AllReadyH.cons rfl (fun K hK => ?_) AllReadyH.nil
        rw [if_pos (by rfl)]
        refine wp_store_row (o := ⟨none, _, _, _, _, _⟩) 138 _ _ rfl w.heap.size (ints .u32 X) rfl rfl 138 _ S4.out (by rw [ints_size, Hx8.out]; exact sizeA8) (by rw [ints_size, ints_size, Hx8.out, Hok.out.1]) (ints_one _ _) ?_
        simp only [Act.put]
        refine hK.out _ _ trivial (fun hS => ?_)
        refine wpAnyH_done (by kernel_rfl) ?_ _
        clear hS hK
        go_wp2_with fail
        go_roundw
        case rel =>
          have hge := HGE.out
          have hJ := HJ.out
          refine ⟨j + 1, by omega, by rw [show 32 * (j + 1) = J + 32 by omega]; go_num, Below.setRow B4.out (Nat.le_refl _) _, by rw [HXe.out]; exact setRow_heap _ _ _ _ _ _ S4.out, ?_, ?_⟩
          · rw [setRow_other _ _ _ _ (by omega)]; exact Z4.out
          · rw [setRow_other _ _ _ _ (by omega)]; exact G4.out
        case measure => simp [intOf]; omega
    · have e : 32 * j = L.length := by omega
      have e2 : L.length / 32 = j := by omega
      rw [e2] at He
      have Hok := Lib.hid (mixB_ok (L := L) Sr.out j)
      generalize mixB st L j = F at H0 He Hok
      have Hkl := Lib.hid (keyS_len F)
      have Hka := Lib.hid (keyS_at F)
      rw [← He.out] at Hkl Hka
      rw [e]
      clear e e2
      obtain ⟨w5, rfl⟩ : ∃ w5 : World, w5 = wr := ⟨_, rfl⟩
      go_wp2_with (refine wpList_store_row rfl 46 _ _ rfl w5.heap.size (ints .u8 z32) rfl rfl 46 (ints .u8 z32) (by rw [Hz.out]; exact heap_alloc_last _ _) (by rw [ints_size]; exact sizeKey) rfl (ints_one _ _) ?_; rw [World.setRow_alloc_new])
      have B6 := Lib.hid (HB.out.alloc HB.out.size (.cells (ints .u8 z32) 46))
      have S6 := Lib.hid ((Below.heap_alloc w5 (.cells (ints .u8 z32) 46) _ (Array.getElem?_eq_some_iff.1 H0.out).1).trans H0.out)
      have Z6 := Lib.hid ((Below.heap_alloc w5 (.cells (ints .u8 z32) 46) _ (Array.getElem?_eq_some_iff.1 H1.out).1).trans H1.out)
      have K6 := Lib.hid (heap_alloc_last w5 (.cells (ints .u8 z32) 46))
      have G6 := Lib.hid (show w.heap.size + 1 < w5.heap.size from (Array.getElem?_eq_some_iff.1 H1.out).1)
      clear HB H0 H1 H2
      go_loopw [10] (fun i wr => ∃ k : Nat, k ≤ 32 ∧ i = .int .i64 k ∧ Below w.heap.size w wr ∧ wr.heap[w.heap.size]? = some (.cells (ints .u32 F) 138) ∧ wr.heap[w.heap.size + 1]? = some (.cells (ints .u8 z32) 46) ∧ wr.heap[w5.heap.size]? = some (.cells (ints .u8 (upTo z32 EK k)) 46)) (fun i _ => 32 - (intOf i).toNat)
      case atStart => exact ⟨0, by omega, rfl, B6.out, S6.out, Z6.out, by rw [upTo_zero]; exact K6.out⟩
      case round =>
        obtain ⟨k, hk, rfl, hb, h0, h1, h2⟩ := hrel
        have HB := Lib.hid hb
        have H0 := Lib.hid h0
        have H1 := Lib.hid h1
        have H2 := Lib.hid h2
        clear hb h1
        by_cases hlt : k < 32
        · have c0 := cell_of_row wr w.heap.size (k / 4) _ _ _ h0
          rw [ints_get .u32 _ _ (by rw [Hok.out.1]; omega)] at c0
          have c1 := cell_of_row wr w5.heap.size k _ _ _ h2
          have f1 := frozen_of_row wr w5.heap.size k _ _ h2
          rw [upTo_get .u8 (by rw [Hkl.out]; rfl) (by rw [Hkl.out]; exact hlt)] at c1
          have Hu := Lib.hid (upTo_set .u8 (k := k) (old := z32) (new := EK) (by rw [Hkl.out]; rfl) (by rw [Hkl.out]; exact hlt) (Hka.out k hlt))
          obtain ⟨x0, x1⟩ := Hok.out.at (k / 4)
          clear h0 h2
          generalize F[k / 4]?.getD 0 = x at c0 Hu x0 x1
          generalize z32[k]?.getD 0 = z at c1
          have b0 : (0 : Int) ≤ (k : Int) := by omega
          have b1 : (k : Int) < 32 := by omega
          go_wp2_with fail
          have hgg := G6.out
          refine ⟨⟨k + 1, by omega, by go_num, HB.out.setCell (by simp; omega) _, ?_, ?_, ?_⟩, by simp [intOf]; omega⟩
          · rw [heap_setCell_other _ _ _ _ (by simp; omega)]; exact H0.out
          · rw [heap_setCell_other _ _ _ _ (by simp; omega)]; exact H1.out
          · rw [heap_setCell_same _ _ _ _ _ _ H2.out, Hu.out]
        · obtain rfl : k = 32 := by omega
          have e : upTo z32 EK 32 = EK := upTo_all rfl Hkl.out
          rw [e] at H2
          clear h0 h2 e
          go_wp2_with (first | (refine wpList_load_row rfl 46 _ rfl w5.heap.size rfl 46 (ints .u8 EK) (0, 0) _ H2.out Try.underlying46 rfl (by rw [ints_size, Hkl.out]; exact sizeKey) ?_) | (refine wpList_store_row rfl 46 _ _ rfl (w.heap.size + 1) (ints .u8 EK) rfl rfl 46 (ints .u8 z32) H1.out (by rw [ints_size, Hkl.out]; exact sizeKey) (by rw [ints_size, ints_size, Hkl.out]; rfl) (ints_one _ _) ?_))
          refine bodyPost_ret (results_cell_row rfl _ _ (w.heap.size + 1) 46 (ints .u8 EK) (0, 0) _ rfl (setRow_heap _ _ _ _ _ _ H1.out) Try.underlying46 rfl (by rw [ints_size, Hkl.out]; exact sizeKey)) rfl ⟨rfl, ?_⟩
          exact Below.setRow HB.out (by omega) _
end Go.Proofs.Ytdoelmjaongjfaa
