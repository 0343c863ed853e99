/- The proof of a range of leaves, by the program: the closure. Written by wip/gen/rangei.py. -/
import Derived.Test.YtfnmmpnmbommeaaRangeS
namespace Go.Proofs.Ytfnmmpnmbommeaa
open Go.ChangeShapes Go.WideShapes Go.ChangeAt Go.RowKit
set_option linter.unusedVariables false
set_option linter.unusedSimpArgs false
set_option maxRecDepth 100000 in
set_option maxHeartbeats 2000000 in
theorem span_implR (blk off n cap b e : Nat) (fl : List Int) (hb : b < e) (he : e ≤ n) (hn : n ≤ 1048576) (hc : n ≤ cap) (hm : cap ≤ maxLen) (fb : ∀ z ∈ fl, 0 ≤ z ∧ z ≤ 255) (w : World) (hr : RdK w (some ⟨blk, off, none⟩) n fl) :
    Calls Try.prog 73 #[.slice (some ⟨blk, off, none⟩) n cap, .agg (spanA b e), .func (.func 51) #[] #[]] w fun x w' => x = .returned (.agg (ints .u8 (tkey (keyAt fl) b (e - b)))) ∧ Below w.heap.size w w' := by
  have Hz := Lib.hid z32_ints
  have BW := Lib.hid (((Below.refl w.heap.size w).alloc (Nat.le_refl _) (.cells (spanA b e) 85)).alloc (by simp) (.cells (ints .u8 z32) 29))
  have GS := Lib.hid (heap_alloc2_old w (.cells (spanA b e) 85) (.cells (ints .u8 z32) 29))
  have GK := Lib.hid (heap_alloc2_new w (.cells (spanA b e) 85) (.cells (ints .u8 z32) 29))
  obtain ⟨W0, hW0⟩ : ∃ W0, (w.alloc (.cells (spanA b e) 85)).alloc (.cells (ints .u8 z32) 29) = W0 := ⟨_, rfl⟩
  rw [hW0] at BW GS GK
  have Hp := Lib.hid (part_impl blk off n (cap - b) b (e - b) fl (by omega) (by omega) hn fb W0 (hr.below BW.out))
  have Hvl := Lib.hid (tkey_len (kf := keyAt fl) (b := b) (n := e - b) (by omega) (fun j hj => keyAt_len hr.1 (by omega)))
  have cs0 : W0.cell? ⟨w.heap.size, 0, none⟩ = some (.int .i64 (b : Int)) := (cell_of_row W0 w.heap.size 0 _ _ _ GS.out).trans rfl
  have cs1 : W0.cell? ⟨w.heap.size, 1, none⟩ = some (.int .i64 (e : Int)) := (cell_of_row W0 w.heap.size 1 _ _ _ GS.out).trans rfl
  clear hr fb
  generalize tkey (keyAt fl) b (e - b) = V at Hp Hvl ⊢
  have d1 : (b : Int) < (e : Int) := by omega
  have d2 : (e : Int) ≤ (cap : Int) := by omega
  have d3 : (0 : Int) ≤ (b : Int) := by omega
  have d4 : ¬ cap = b := by omega
  have d5 : ¬ e < b := by omega
  have d6 : (e : Int) ≤ 1048576 := by omega
  have d7 : b ≤ e := by omega
  have d8 : e ≤ cap := by omega
  rw [Hz.out] at hW0
  unfold spanA at hW0 ⊢
  go_enter Try.func73, Try.ntmps73
  go_wp2_with fail
  clear hW0 cs0 cs1
  refine Hp.out.mono ?_
  rintro x w1 ⟨rfl, hb1⟩
  have G1 := Lib.hid (keep_block GK.out hb1)
  have B1 := Lib.hid (below_call BW.out BW.out.size hb1)
  clear hb1
  go_wp2_with (refine wpList_store_row rfl 29 _ _ rfl (w.heap.size + 1) (ints .u8 V) rfl rfl 29 (ints .u8 z32) G1.out (by rw [ints_size, Hvl.out]; exact sizeKey) (by rw [ints_size, ints_size, Hvl.out]; rfl) (ints_one _ _) ?_)
  refine bodyPost_ret (results_cell_row rfl _ _ (w.heap.size + 1) 29 (ints .u8 V) (0, 0) _ rfl (setRow_heap _ _ (ints .u8 z32) _ _ _ G1.out) Try.underlying29 rfl (by rw [ints_size, Hvl.out]; exact sizeKey)) rfl ⟨rfl, ?_⟩
  exact Below.setRow B1.out (by omega) _
set_option maxHeartbeats 1000000 in
theorem misses_yes (b e i j : Nat) (h : e ≤ i ∨ j ≤ b) (w : World) : Calls Try.prog 72 #[.agg #[.int .i64 (b : Int), .int .i64 (e : Int)], .agg #[.int .i64 (i : Int), .int .i64 (j : Int)]] w fun x w' => x = .returned (.bool true) ∧ Below w.heap.size w w' := by
  by_cases h1 : e ≤ i
  · have k1 : (e : Int) ≤ (i : Int) := by omega
    go_enter Try.func72, Try.ntmps72
    go_wp2
    go_ret
    exact ⟨rfl, ((Below.refl _ _).alloc (Nat.le_refl _) _).alloc (by simp) _⟩
  · have k1 : ¬ (e : Int) ≤ (i : Int) := by omega
    have k2 : (j : Int) ≤ (b : Int) := by omega
    go_enter Try.func72, Try.ntmps72
    go_wp2
    go_ret
    exact ⟨rfl, ((Below.refl _ _).alloc (Nat.le_refl _) _).alloc (by simp) _⟩
set_option maxHeartbeats 1000000 in
theorem misses_no (b e i j : Nat) (h : ¬ (e ≤ i ∨ j ≤ b)) (w : World) : Calls Try.prog 72 #[.agg #[.int .i64 (b : Int), .int .i64 (e : Int)], .agg #[.int .i64 (i : Int), .int .i64 (j : Int)]] w fun x w' => x = .returned (.bool false) ∧ Below w.heap.size w w' := by
  have k1 : ¬ (e : Int) ≤ (i : Int) := by omega
  have k2 : ¬ (j : Int) ≤ (b : Int) := by omega
  go_enter Try.func72, Try.ntmps72
  go_wp2
  go_ret
  exact ⟨rfl, ((Below.refl _ _).alloc (Nat.le_refl _) _).alloc (by simp) _⟩
/-- A step of the walk: what lies below base is kept, and so are all blocks that hold no keys, but the proof's box. -/
structure RStep (base pb : Nat) (W W' : World) : Prop where
  below : Below base W W'
  kept : ∀ (g : Nat) (c : Array Value) (ST : TypeId) (fr : Nat × Nat), g ≠ pb → 29 ≠ ST → W.heap[g]? = some (.cells c ST fr) → W'.heap[g]? = some (.cells c ST fr)
theorem RStep.refl (base pb : Nat) (W : World) : RStep base pb W W := ⟨Below.refl _ _, fun _ _ _ _ _ _ h => h⟩
theorem RStep.trans {base pb : Nat} {A B C : World} (h : RStep base pb A B) (k : RStep base pb B C) : RStep base pb A C := ⟨h.below.trans k.below, fun g c ST fr hg hT hh => k.kept g c ST fr hg hT (h.kept g c ST fr hg hT hh)⟩
theorem RStep.of {base pb : Nat} {A B : World} (hb : base ≤ A.heap.size) (h : Below A.heap.size A B) : RStep base pb A B := ⟨h.mono hb, fun g c ST fr _ _ hh => keep_block hh h⟩
theorem RStep.grow {base pb k size : Nat} {A B : World} {v : Value} {xs : List Value} (o : A.ownsRow base 29 size v k xs) (h : A.grownBy B v.ownBlock) (hb : base ≤ A.heap.size) : RStep base pb A B :=
  ⟨(Below.refl base A).grown h hb (fun g e => (o.lt g e).1), fun g c ST fr _ hT hh => (h.block g (Array.getElem?_eq_some_iff.1 hh).1 (fun e => owns_ne o hh hT e.symm)).trans hh⟩
theorem RStep.set {base pb : Nat} {A : World} (hp : base ≤ pb) (u : Value) : RStep base pb A (A.setCell ⟨pb, 0, none⟩ u) :=
  ⟨Below.setCell (Below.refl _ _) hp u, fun g c ST fr hg _ hh => (heap_setCell_other _ _ _ _ hg).trans hh⟩
/-- The variables of the closure. -/
structure REnv (w0 : World) (ib jb pb lb wb blk off N cap i j : Nat) (W : World) : Prop where
  bi : W.heap[ib]? = some (.cells #[.int .i64 (i : Int)] 2)
  bj : W.heap[jb]? = some (.cells #[.int .i64 (j : Int)] 2)
  bl : W.heap[lb]? = some (.cells #[.slice (some ⟨blk, off, none⟩) N cap] 24)
  bw : W.heap[wb]? = some (.cells #[.func (.func 71) #[] #[.pointer (some ⟨ib, 0, none⟩), .pointer (some ⟨jb, 0, none⟩), .pointer (some ⟨pb, 0, none⟩), .pointer (some ⟨lb, 0, none⟩), .pointer (some ⟨wb, 0, none⟩)]] 90)
  below : Below w0.heap.size w0 W
theorem REnv.step {w0 : World} {ib jb pb lb wb blk off N cap i j : Nat} {W U : World} (h : REnv w0 ib jb pb lb wb blk off N cap i j W) (n1 : ib ≠ pb) (n2 : jb ≠ pb) (n3 : lb ≠ pb) (n4 : wb ≠ pb) (k : RStep w0.heap.size pb W U) : REnv w0 ib jb pb lb wb blk off N cap i j U :=
  ⟨k.kept _ _ _ _ n1 (by decide) h.bi, k.kept _ _ _ _ n2 (by decide) h.bj, k.kept _ _ _ _ n3 (by decide) h.bl, k.kept _ _ _ _ n4 (by decide) h.bw, h.below.trans k.below⟩
set_option maxRecDepth 100000 in
set_option maxHeartbeats 8000000 in
theorem walkR_impl (w0 : World) (ib jb pb lb wb blk off N cap i j : Nat) (fl : List Int) (hN : N ≤ 1048575) (hc : N ≤ cap) (hm : cap ≤ maxLen) (fb : ∀ z ∈ fl, 0 ≤ z ∧ z ≤ 255) (hij : i < j) (hj : j ≤ N) (hr0 : RdK w0 (some ⟨blk, off, none⟩) N fl)
    (n1 : ib ≠ pb) (n2 : jb ≠ pb) (n3 : lb ≠ pb) (n4 : wb ≠ pb) (hpb : w0.heap.size ≤ pb) :
    ∀ (n b k : Nat) (v : Value) (pre : List Int) (W : World), 1 ≤ n → b + n ≤ N → k ≤ b → w0.heap.size ≤ W.heap.size → REnv w0 ib jb pb lb wb blk off N cap i j W → W.heap[pb]? = some (.cells #[v] 24) → W.ownsRow w0.heap.size 29 32 v k (pre.map (Value.int .u8)) →
      Calls Try.prog 71 #[.agg (spanA b (b + n)), .pointer (some ⟨ib, 0, none⟩), .pointer (some ⟨jb, 0, none⟩), .pointer (some ⟨pb, 0, none⟩), .pointer (some ⟨lb, 0, none⟩), .pointer (some ⟨wb, 0, none⟩)] W fun x w' => x = .returned (.tuple #[]) ∧ RStep w0.heap.size pb W w' ∧ ∃ v', w'.heap[pb]? = some (.cells #[v'] 24) ∧ w'.ownsRow w0.heap.size 29 32 v' (k + rgN n ((i : Int) - (b : Int)) ((j : Int) - (b : Int))) ((pre ++ rg (keyAt fl) b n ((i : Int) - (b : Int)) ((j : Int) - (b : Int))).map (Value.int .u8)) := by
  obtain ⟨i0, z0, hi0, hz0, hz1, hz2, hzs, hzc⟩ := keyParts
  have Hi := Lib.hid hi0
  clear hi0 hzc
  have HR0 := Lib.hid hr0
  have HFB := Lib.hid fb
  clear hr0 fb
  intro n
  induction n using Nat.strongRecOn with
  | _ n ih =>
    intro b k v pre W h1 hb hk hW hE hp hown
    have HE := Lib.hid hE
    have HP := Lib.hid hp
    have HO := Lib.hid hown
    have HLL := Lib.hid HR0.out.1
    clear hE hp hown
    have BW := Lib.hid ((Below.refl W.heap.size W).alloc (Nat.le_refl _) (.cells (spanA b (b + n)) 85))
    have GS := Lib.hid (heap_alloc_last W (.cells (spanA b (b + n)) 85))
    obtain ⟨W0, hW0⟩ : ∃ W0, W.alloc (.cells (spanA b (b + n)) 85) = W0 := ⟨_, rfl⟩
    have HSZ : Hid (W0.heap.size = W.heap.size + 1) := Lib.hid (by rw [← hW0]; simp)
    rw [hW0] at BW GS
    have S0 : Hid (RStep w0.heap.size pb W W0) := Lib.hid (RStep.of hW BW.out)
    have E0 := Lib.hid (HE.out.step n1 n2 n3 n4 S0.out)
    have P0 := Lib.hid (keep_block HP.out BW.out)
    have O0 := Lib.hid (owns_below HO.out BW.out)
    have HPS : Hid (W.heap.size ≠ pb) := Lib.hid (fun e => by have := (Array.getElem?_eq_some_iff.1 HP.out).1; omega)
    have ci := cell_of_one E0.out.bi
    have cj := cell_of_one E0.out.bj
    have e1 : ((i : Int) - ((b + half n : Nat) : Int)) = (i : Int) - (b : Int) - (half n : Nat) := by omega
    have e2 : ((j : Int) - ((b + half n : Nat) : Int)) = (j : Int) - (b : Int) - (half n : Nat) := by omega
    by_cases hmiss : b + n ≤ i ∨ j ≤ b
    · have Hms := Lib.hid (fun U => misses_yes b (b + n) i j hmiss U)
      rw [rgN_miss (by omega), rg_miss (by omega)]
      have HKL := Lib.hid (tkey_len (kf := keyAt fl) (b := b) (n := n) h1 (fun q hq => keyAt_len HLL.out (by omega)))
      have Hk := Lib.hid (fun (U : World) (h : Below w0.heap.size w0 U) => span_implR blk off N cap b (b + n) fl (by omega) hb (by omega) hc hm HFB.out U (HR0.out.below h))
      rw [show b + n - b = n by omega] at Hk
      clear ih
      generalize tkey (keyAt fl) b n = K at Hk HKL ⊢
      go_enter Try.func71, Try.ntmps71
      go_wp2_with (refine wpList_load_row rfl 85 (.tmp 6) rfl W.heap.size rfl 85 (spanA b (b + n)) (0, 0) _ GS.out Try.underlying85 rfl sizeSpan ?_)
      clear hW0 ci cj
      refine (Hms.out _).mono ?_
      rintro x w1 ⟨rfl, hb1⟩
      have S1 := Lib.hid (S0.out.trans (RStep.of (Nat.le_trans hW BW.out.size) hb1))
      have E1 := Lib.hid (HE.out.step n1 n2 n3 n4 S1.out)
      have P1 := Lib.hid (keep_block P0.out hb1)
      have O1 := Lib.hid (owns_below O0.out hb1)
      have G1 := Lib.hid (keep_block GS.out hb1)
      have Z1 : Hid (w0.heap.size ≤ w1.heap.size ∧ W.heap.size < w1.heap.size) := Lib.hid ⟨by have := hb1.size; have := HSZ.out; omega, by have := hb1.size; have := HSZ.out; omega⟩
      clear hb1 S0 E0 P0 O0 GS BW
      go_wp2_with fail
      refine wp_region_held_drew (S := fun U => U.heap[W.heap.size]? = some (.cells (spanA b (b + n)) 85) ∧ U.heap[lb]? = some (.cells #[.slice (some ⟨blk, off, none⟩) N cap] 24)) (by kernel_rfl) ⟨G1.out, E1.out.bl⟩ (fun hS => ?_)
      have D1 := Lib.hid (show w1.drew.heap[pb]? = some (.cells #[v] 24) ∧ w1.drew.ownsRow w0.heap.size 29 32 v k (pre.map (Value.int .u8)) ∧ RStep w0.heap.size pb w1 w1.drew ∧ Below w0.heap.size w0 w1.drew from ⟨P1.out, owns_below O1.out (Below.drew (Below.refl w1.heap.size w1)), RStep.of Z1.out.1 (Below.drew (Below.refl w1.heap.size w1)), Below.drew E1.out.below⟩)
      have DP := Lib.hid D1.out.1
      have SD := Lib.hid (S1.out.trans D1.out.2.2.1)
      have ZD : Hid (w0.heap.size ≤ w1.drew.heap.size) := Lib.hid Z1.out.1
      generalize w1.drew = WD at *
      refine take_at (i := 1) (v := .slice (some ⟨blk, off, none⟩) N cap) rfl rfl (by kernel_rfl) (by kernel_rfl) (by kernel_rfl) (fun _ _ _ h => h) (Or.inl ⟨by rfl, fun U hU => by
        have hc' := cell_of_one hU.2
        go_simp⟩) hS ?_
      try simp only [List.setIfInBounds_toArray, List.set_cons_zero, List.set_cons_succ]
      refine take_at (i := 2) (v := .agg (spanA b (b + n))) rfl rfl (by kernel_rfl) (by kernel_rfl) (by kernel_rfl) (fun _ _ _ h => h) (yields_row (by rfl) 85 _ rfl W.heap.size rfl (spanA b (b + n)) 85 _ (fun U hU => hU.1) Try.underlying85 rfl sizeSpan) hS ?_
      try simp only [List.setIfInBounds_toArray, List.set_cons_zero, List.set_cons_succ]
      refine wpAnyH_ready (rs := [0, 3]) (by kernel_rfl) (by simp) ?_
      refine AllReadyH.cons rfl (fun K' hK => ?_) (AllReadyH.cons rfl (fun K' hK => ?_) AllReadyH.nil)
      · rw [if_pos (by rfl)]
        have hcp := cell_of_one DP.out
        go_simp
        refine hK.out _ _ hS (fun hS => ?_)
        clear hK hcp
        refine wpAnyH_ready (rs := [3]) (by kernel_rfl) (by simp) ?_
        refine AllReadyH.cons rfl (fun K' hK => ?_) AllReadyH.nil
        rw [if_pos (by rfl)]
        go_simp
        refine (Hk.out _ D1.out.2.2.2).mono ?_
        rintro x u1 ⟨rfl, hb2⟩
        have P2 := Lib.hid (keep_block D1.out.1 hb2)
        have O2 := Lib.hid (owns_below D1.out.2.1 hb2)
        have S2 := Lib.hid (SD.out.trans (RStep.of ZD.out hb2))
        have Z2 : Hid (w0.heap.size ≤ u1.heap.size) := Lib.hid (Nat.le_trans ZD.out hb2.size)
        refine hK.out _ _ ⟨keep_block hS.1 hb2, keep_block hS.2 hb2⟩ (fun hS => ?_)
        clear hK hb2
        refine wpAnyH_ready (rs := [4]) (by kernel_rfl) (by simp) ?_
        refine AllReadyH.cons rfl (fun K' hK => ?_) AllReadyH.nil
        rw [if_pos (by rfl)]
        have LI := (Below.refl u1.heap.size u1).alloc (Nat.le_refl _) (.cells (ints .u8 K) 29)
        have P3 := Lib.hid (keep_block P2.out LI)
        have O3 := Lib.hid (owns_below O2.out LI)
        have S3 := Lib.hid (S2.out.trans (RStep.of Z2.out LI))
        have Z3 : Hid (w0.heap.size ≤ (u1.alloc (.cells (ints .u8 K) 29)).heap.size) := Lib.hid (Nat.le_trans Z2.out LI.size)
        refine wp_buildSlice_one (o := ⟨some 19, _, _, _, _, _⟩) 24 29 _ rfl Try.underlying24 Hi.out hz0 (ints .u8 K) rfl (by rw [ints_size, HKL.out, hz1]) (by rw [hz1]; decide) (by rw [hz1]; decide) ?_
        simp only [Act.put]
        refine hK.out _ _ ⟨keep_block hS.1 LI, keep_block hS.2 LI⟩ (fun hS => ?_)
        clear hK LI
        refine wpAnyH_ready (rs := [5]) (by kernel_rfl) (by simp) ?_
        refine AllReadyH.cons rfl (fun K' hK => ?_) AllReadyH.nil
        rw [if_pos (by rfl)]
        refine wp_append_own _ _ _ 24 rfl w0.heap.size 29 i0 z0 32 32 Try.underlying24 Hi.out hz0 hz1 hz2 hzs (by decide) v k _ rfl O3.out ⟨u1.heap.size, 0, none⟩ 1 1 (K.map (Value.int .u8)) rfl (by rw [List.length_map, HKL.out]) ?c1 ?c2 ?c3 ?c4 ?c5 ?_
        case c1 =>
          intro p u hu
          rw [addr_add, Nat.zero_add, cell_of_row _ u1.heap.size p _ _ _ (heap_alloc_last u1 (.cells (ints .u8 K) 29)), ← hu]
          simp [ints]
        case c2 =>
          intro u hu
          obtain ⟨z, _, rfl⟩ := List.mem_map.1 hu
          rfl
        case c3 => unfold maxLen; omega
        case c4 => omega
        case c5 => exact Z3.out
        intro v4 w4 hown4 hgrow4 hnil4
        obtain ⟨a4, c4, hv4⟩ := owns_slc hown4
        subst hv4
        have O4 := Lib.hid hown4
        have G4 := Lib.hid ((hgrow4.block pb (Array.getElem?_eq_some_iff.1 P3.out).1 (fun h => owns_ne O3.out P3.out (by decide) h.symm)).trans P3.out)
        have SG : RStep w0.heap.size pb (u1.alloc (.cells (ints .u8 K) 29)) w4 := RStep.grow O3.out hgrow4 Z3.out
        have S4 := Lib.hid (S3.out.trans SG)
        refine hK.out _ _ ⟨SG.kept _ _ _ _ HPS.out (by decide) hS.1, SG.kept _ _ _ _ n3 (by decide) hS.2⟩ (fun hS => ?_)
        clear hK hown4 hgrow4 hnil4 SG
        refine wpAnyH_ready (rs := [6]) (by kernel_rfl) (by simp) ?_
        refine AllReadyH.cons rfl (fun K' hK => ?_) AllReadyH.nil
        rw [if_pos (by rfl)]
        have cg := cell_of_one G4.out
        have cf := free_of_one G4.out
        go_simp
        have G5 := Lib.hid (one_setCell (u := .slice a4 (k + 1) c4) G4.out)
        have O5 := Lib.hid (owns_setCell1 (u := .slice a4 (k + 1) c4) (owns_ne O4.out G4.out (by decide)) O4.out)
        have S5 := Lib.hid (S4.out.trans (RStep.set hpb (.slice a4 (k + 1) c4)))
        refine hK.out _ _ ⟨(heap_setCell_other _ ⟨pb, 0, none⟩ _ _ HPS.out).trans hS.1, (heap_setCell_other _ ⟨pb, 0, none⟩ _ _ n3).trans hS.2⟩ (fun hS => ?_)
        clear hK
        refine wpAnyH_done (by kernel_rfl) ?_ _
        go_wp2_with fail
        refine bodyPost_end (results_none rfl _ _ _) rfl ⟨rfl, S5.out, _, G5.out, by rw [List.map_append]; exact O5.out⟩
      · rw [if_pos (by rfl)]
        go_simp
        refine (Hk.out _ D1.out.2.2.2).mono ?_
        rintro x u1 ⟨rfl, hb2⟩
        have P2 := Lib.hid (keep_block D1.out.1 hb2)
        have O2 := Lib.hid (owns_below D1.out.2.1 hb2)
        have S2 := Lib.hid (SD.out.trans (RStep.of ZD.out hb2))
        have Z2 : Hid (w0.heap.size ≤ u1.heap.size) := Lib.hid (Nat.le_trans ZD.out hb2.size)
        refine hK.out _ _ ⟨keep_block hS.1 hb2, keep_block hS.2 hb2⟩ (fun hS => ?_)
        clear hK hb2
        refine wpAnyH_ready (rs := [0, 4]) (by kernel_rfl) (by simp) ?_
        refine AllReadyH.cons rfl (fun K' hK => ?_) (AllReadyH.cons rfl (fun K' hK => ?_) AllReadyH.nil)
        · rw [if_pos (by rfl)]
          have hcp := cell_of_one P2.out
          go_simp
          refine hK.out _ _ hS (fun hS => ?_)
          clear hK hcp
          refine wpAnyH_ready (rs := [4]) (by kernel_rfl) (by simp) ?_
          refine AllReadyH.cons rfl (fun K' hK => ?_) AllReadyH.nil
          rw [if_pos (by rfl)]
          have LI := (Below.refl u1.heap.size u1).alloc (Nat.le_refl _) (.cells (ints .u8 K) 29)
          have P3 := Lib.hid (keep_block P2.out LI)
          have O3 := Lib.hid (owns_below O2.out LI)
          have S3 := Lib.hid (S2.out.trans (RStep.of Z2.out LI))
          have Z3 : Hid (w0.heap.size ≤ (u1.alloc (.cells (ints .u8 K) 29)).heap.size) := Lib.hid (Nat.le_trans Z2.out LI.size)
          refine wp_buildSlice_one (o := ⟨some 19, _, _, _, _, _⟩) 24 29 _ rfl Try.underlying24 Hi.out hz0 (ints .u8 K) rfl (by rw [ints_size, HKL.out, hz1]) (by rw [hz1]; decide) (by rw [hz1]; decide) ?_
          simp only [Act.put]
          refine hK.out _ _ ⟨keep_block hS.1 LI, keep_block hS.2 LI⟩ (fun hS => ?_)
          clear hK LI
          refine wpAnyH_ready (rs := [5]) (by kernel_rfl) (by simp) ?_
          refine AllReadyH.cons rfl (fun K' hK => ?_) AllReadyH.nil
          rw [if_pos (by rfl)]
          refine wp_append_own _ _ _ 24 rfl w0.heap.size 29 i0 z0 32 32 Try.underlying24 Hi.out hz0 hz1 hz2 hzs (by decide) v k _ rfl O3.out ⟨u1.heap.size, 0, none⟩ 1 1 (K.map (Value.int .u8)) rfl (by rw [List.length_map, HKL.out]) ?c1 ?c2 ?c3 ?c4 ?c5 ?_
          case c1 =>
            intro p u hu
            rw [addr_add, Nat.zero_add, cell_of_row _ u1.heap.size p _ _ _ (heap_alloc_last u1 (.cells (ints .u8 K) 29)), ← hu]
            simp [ints]
          case c2 =>
            intro u hu
            obtain ⟨z, _, rfl⟩ := List.mem_map.1 hu
            rfl
          case c3 => unfold maxLen; omega
          case c4 => omega
          case c5 => exact Z3.out
          intro v4 w4 hown4 hgrow4 hnil4
          obtain ⟨a4, c4, hv4⟩ := owns_slc hown4
          subst hv4
          have O4 := Lib.hid hown4
          have G4 := Lib.hid ((hgrow4.block pb (Array.getElem?_eq_some_iff.1 P3.out).1 (fun h => owns_ne O3.out P3.out (by decide) h.symm)).trans P3.out)
          have SG : RStep w0.heap.size pb (u1.alloc (.cells (ints .u8 K) 29)) w4 := RStep.grow O3.out hgrow4 Z3.out
          have S4 := Lib.hid (S3.out.trans SG)
          refine hK.out _ _ ⟨SG.kept _ _ _ _ HPS.out (by decide) hS.1, SG.kept _ _ _ _ n3 (by decide) hS.2⟩ (fun hS => ?_)
          clear hK hown4 hgrow4 hnil4 SG
          refine wpAnyH_ready (rs := [6]) (by kernel_rfl) (by simp) ?_
          refine AllReadyH.cons rfl (fun K' hK => ?_) AllReadyH.nil
          rw [if_pos (by rfl)]
          have cg := cell_of_one G4.out
          have cf := free_of_one G4.out
          go_simp
          have G5 := Lib.hid (one_setCell (u := .slice a4 (k + 1) c4) G4.out)
          have O5 := Lib.hid (owns_setCell1 (u := .slice a4 (k + 1) c4) (owns_ne O4.out G4.out (by decide)) O4.out)
          have S5 := Lib.hid (S4.out.trans (RStep.set hpb (.slice a4 (k + 1) c4)))
          refine hK.out _ _ ⟨(heap_setCell_other _ ⟨pb, 0, none⟩ _ _ HPS.out).trans hS.1, (heap_setCell_other _ ⟨pb, 0, none⟩ _ _ n3).trans hS.2⟩ (fun hS => ?_)
          clear hK
          refine wpAnyH_done (by kernel_rfl) ?_ _
          go_wp2_with fail
          refine bodyPost_end (results_none rfl _ _ _) rfl ⟨rfl, S5.out, _, G5.out, by rw [List.map_append]; exact O5.out⟩
        · rw [if_pos (by rfl)]
          have LI := (Below.refl u1.heap.size u1).alloc (Nat.le_refl _) (.cells (ints .u8 K) 29)
          have P3 := Lib.hid (keep_block P2.out LI)
          have O3 := Lib.hid (owns_below O2.out LI)
          have S3 := Lib.hid (S2.out.trans (RStep.of Z2.out LI))
          have Z3 : Hid (w0.heap.size ≤ (u1.alloc (.cells (ints .u8 K) 29)).heap.size) := Lib.hid (Nat.le_trans Z2.out LI.size)
          refine wp_buildSlice_one (o := ⟨some 19, _, _, _, _, _⟩) 24 29 _ rfl Try.underlying24 Hi.out hz0 (ints .u8 K) rfl (by rw [ints_size, HKL.out, hz1]) (by rw [hz1]; decide) (by rw [hz1]; decide) ?_
          simp only [Act.put]
          refine hK.out _ _ ⟨keep_block hS.1 LI, keep_block hS.2 LI⟩ (fun hS => ?_)
          clear hK LI
          refine wpAnyH_ready (rs := [0]) (by kernel_rfl) (by simp) ?_
          refine AllReadyH.cons rfl (fun K' hK => ?_) AllReadyH.nil
          rw [if_pos (by rfl)]
          have hcp := cell_of_one P3.out
          go_simp
          refine hK.out _ _ hS (fun hS => ?_)
          clear hK hcp
          refine wpAnyH_ready (rs := [5]) (by kernel_rfl) (by simp) ?_
          refine AllReadyH.cons rfl (fun K' hK => ?_) AllReadyH.nil
          rw [if_pos (by rfl)]
          refine wp_append_own _ _ _ 24 rfl w0.heap.size 29 i0 z0 32 32 Try.underlying24 Hi.out hz0 hz1 hz2 hzs (by decide) v k _ rfl O3.out ⟨u1.heap.size, 0, none⟩ 1 1 (K.map (Value.int .u8)) rfl (by rw [List.length_map, HKL.out]) ?c1 ?c2 ?c3 ?c4 ?c5 ?_
          case c1 =>
            intro p u hu
            rw [addr_add, Nat.zero_add, cell_of_row _ u1.heap.size p _ _ _ (heap_alloc_last u1 (.cells (ints .u8 K) 29)), ← hu]
            simp [ints]
          case c2 =>
            intro u hu
            obtain ⟨z, _, rfl⟩ := List.mem_map.1 hu
            rfl
          case c3 => unfold maxLen; omega
          case c4 => omega
          case c5 => exact Z3.out
          intro v4 w4 hown4 hgrow4 hnil4
          obtain ⟨a4, c4, hv4⟩ := owns_slc hown4
          subst hv4
          have O4 := Lib.hid hown4
          have G4 := Lib.hid ((hgrow4.block pb (Array.getElem?_eq_some_iff.1 P3.out).1 (fun h => owns_ne O3.out P3.out (by decide) h.symm)).trans P3.out)
          have SG : RStep w0.heap.size pb (u1.alloc (.cells (ints .u8 K) 29)) w4 := RStep.grow O3.out hgrow4 Z3.out
          have S4 := Lib.hid (S3.out.trans SG)
          refine hK.out _ _ ⟨SG.kept _ _ _ _ HPS.out (by decide) hS.1, SG.kept _ _ _ _ n3 (by decide) hS.2⟩ (fun hS => ?_)
          clear hK hown4 hgrow4 hnil4 SG
          refine wpAnyH_ready (rs := [6]) (by kernel_rfl) (by simp) ?_
          refine AllReadyH.cons rfl (fun K' hK => ?_) AllReadyH.nil
          rw [if_pos (by rfl)]
          have cg := cell_of_one G4.out
          have cf := free_of_one G4.out
          go_simp
          have G5 := Lib.hid (one_setCell (u := .slice a4 (k + 1) c4) G4.out)
          have O5 := Lib.hid (owns_setCell1 (u := .slice a4 (k + 1) c4) (owns_ne O4.out G4.out (by decide)) O4.out)
          have S5 := Lib.hid (S4.out.trans (RStep.set hpb (.slice a4 (k + 1) c4)))
          refine hK.out _ _ ⟨(heap_setCell_other _ ⟨pb, 0, none⟩ _ _ HPS.out).trans hS.1, (heap_setCell_other _ ⟨pb, 0, none⟩ _ _ n3).trans hS.2⟩ (fun hS => ?_)
          clear hK
          refine wpAnyH_done (by kernel_rfl) ?_ _
          go_wp2_with fail
          refine bodyPost_end (results_none rfl _ _ _) rfl ⟨rfl, S5.out, _, G5.out, by rw [List.map_append]; exact O5.out⟩
    · by_cases h2 : n = 1
      · have Hms := Lib.hid (fun U => misses_no b (b + n) i j hmiss U)
        rw [rgN_in (by omega) (Or.inl (by omega)), rg_in (by omega) (Or.inl (by omega))]
        have Hcnt := Lib.hid (fun U => count_impl b (b + n) (by omega) (by omega) U)
        rw [show b + n - b = 1 by omega] at Hcnt
        clear ih h2
        go_enter Try.func71, Try.ntmps71
        go_wp2_with (refine wpList_load_row rfl 85 (.tmp 6) rfl W.heap.size rfl 85 (spanA b (b + n)) (0, 0) _ GS.out Try.underlying85 rfl sizeSpan ?_)
        clear hW0 ci cj
        refine (Hms.out _).mono ?_
        rintro x w1 ⟨rfl, hb1⟩
        have S1 := Lib.hid (S0.out.trans (RStep.of (Nat.le_trans hW BW.out.size) hb1))
        have E1 := Lib.hid (HE.out.step n1 n2 n3 n4 S1.out)
        have P1 := Lib.hid (keep_block P0.out hb1)
        have O1 := Lib.hid (owns_below O0.out hb1)
        have G1 := Lib.hid (keep_block GS.out hb1)
        have Z1 : Hid (w0.heap.size ≤ w1.heap.size ∧ W.heap.size < w1.heap.size) := Lib.hid ⟨by have := hb1.size; have := HSZ.out; omega, by have := hb1.size; have := HSZ.out; omega⟩
        clear hb1 S0 E0 P0 O0 GS BW
        go_wp2_with (refine wpList_load_row rfl 85 (.tmp 6) rfl W.heap.size rfl 85 (spanA b (b + n)) (0, 0) _ G1.out Try.underlying85 rfl sizeSpan ?_)
        refine (Hcnt.out _).mono ?_
        rintro x w2 ⟨rfl, hb2⟩
        have S2 := Lib.hid (S1.out.trans (RStep.of Z1.out.1 hb2))
        have P2 := Lib.hid (keep_block P1.out hb2)
        have O2 := Lib.hid (owns_below O1.out hb2)
        clear hb2
        go_wp2_with fail
        refine bodyPost_end (results_none rfl _ _ _) rfl ⟨rfl, S2.out, _, P2.out, by simpa using O2.out⟩
      · have Hms := Lib.hid (fun U => misses_no b (b + n) i j hmiss U)
        rw [rgN_down (by omega) (by omega), rg_down (by omega) (by omega), ← Nat.add_assoc, ← List.append_assoc]
        have hm1 := half_pos n
        have hm2 := half_lt (n := n) (by omega)
        have Hcnt := Lib.hid (fun U => count_impl b (b + n) (by omega) (by omega) U)
        rw [show b + n - b = n by omega] at Hcnt
        have Hparts := Lib.hid (fun U => parts_impl b (b + n) (by omega) (by omega) U)
        rw [show b + n - b = n by omega] at Hparts
        have HD1 := Lib.hid (rgN_le (half n) ((i : Int) - (b : Int)) ((j : Int) - (b : Int)) hm1)
        have HL := Lib.hid (fun U v1 h3 h4 h5 h6 => ih (half n) hm2 b k v1 pre U hm1 (by omega) hk h3 h4 h5 h6)
        have HR := Lib.hid (fun U v1 pre1 k1 h2 h3 h4 h5 h6 => ih (n - half n) (by omega) (b + half n) k1 v1 pre1 U (by omega) (by omega) h2 h3 h4 h5 h6)
        rw [e1, e2, show b + half n + (n - half n) = b + n by omega] at HR
        clear ih e1 e2
        generalize rgN (half n) ((i : Int) - (b : Int)) ((j : Int) - (b : Int)) = d1 at HL HD1 ⊢
        generalize rgN (n - half n) ((i : Int) - (b : Int) - (half n : Nat)) ((j : Int) - (b : Int) - (half n : Nat)) = d2 at HR ⊢
        generalize rg (keyAt fl) b (half n) ((i : Int) - (b : Int)) ((j : Int) - (b : Int)) = A at HL ⊢
        generalize rg (keyAt fl) (b + half n) (n - half n) ((i : Int) - (b : Int) - (half n : Nat)) ((j : Int) - (b : Int) - (half n : Nat)) = B at HR ⊢
        generalize half n = m at hm1 hm2 Hparts HL HR HD1
        have k2 : (1 : Int) < (n : Int) := by omega
        go_enter Try.func71, Try.ntmps71
        go_wp2_with (refine wpList_load_row rfl 85 (.tmp 6) rfl W.heap.size rfl 85 (spanA b (b + n)) (0, 0) _ GS.out Try.underlying85 rfl sizeSpan ?_)
        clear hW0 ci cj
        refine (Hms.out _).mono ?_
        rintro x w1 ⟨rfl, hb1⟩
        have S1 := Lib.hid (S0.out.trans (RStep.of (Nat.le_trans hW BW.out.size) hb1))
        have E1 := Lib.hid (HE.out.step n1 n2 n3 n4 S1.out)
        have P1 := Lib.hid (keep_block P0.out hb1)
        have O1 := Lib.hid (owns_below O0.out hb1)
        have G1 := Lib.hid (keep_block GS.out hb1)
        have Z1 : Hid (w0.heap.size ≤ w1.heap.size ∧ W.heap.size < w1.heap.size) := Lib.hid ⟨by have := hb1.size; have := HSZ.out; omega, by have := hb1.size; have := HSZ.out; omega⟩
        clear hb1 S0 E0 P0 O0 GS BW
        go_wp2_with (refine wpList_load_row rfl 85 (.tmp 6) rfl W.heap.size rfl 85 (spanA b (b + n)) (0, 0) _ G1.out Try.underlying85 rfl sizeSpan ?_)
        refine (Hcnt.out _).mono ?_
        rintro x w2 ⟨rfl, hb2⟩
        have S2 := Lib.hid (S1.out.trans (RStep.of Z1.out.1 hb2))
        have P2 := Lib.hid (keep_block P1.out hb2)
        have O2 := Lib.hid (owns_below O1.out hb2)
        have G2 := Lib.hid (keep_block G1.out hb2)
        have Z2 : Hid (w0.heap.size ≤ w2.heap.size) := Lib.hid (Nat.le_trans Z1.out.1 hb2.size)
        clear hb2
        go_wp2_with (refine wpList_load_row rfl 85 (.tmp 6) rfl W.heap.size rfl 85 (spanA b (b + n)) (0, 0) _ G2.out Try.underlying85 rfl sizeSpan ?_)
        refine (Hparts.out _).mono ?_
        rintro x w3 ⟨rfl, hb3⟩
        have S3 := Lib.hid (S2.out.trans (RStep.of Z2.out hb3))
        have P3 := Lib.hid (keep_block P2.out hb3)
        have O3 := Lib.hid (owns_below O2.out hb3)
        have Z3 : Hid (w0.heap.size ≤ w3.heap.size) := Lib.hid (Nat.le_trans Z2.out hb3.size)
        have HPB3 : Hid (pb < w3.heap.size) := Lib.hid (Array.getElem?_eq_some_iff.1 P3.out).1
        clear hb3
        have L4 := laid2_below w3 #[.int .i64 0, .int .i64 0] (spanA b (b + m)) (spanA (b + m) (b + n)) 85
        have F4 := Lib.hid (laid2_fst w3 #[.int .i64 0, .int .i64 0] (spanA b (b + m)) (spanA (b + m) (b + n)) 85)
        have N4 := Lib.hid (laid2_snd w3 #[.int .i64 0, .int .i64 0] (spanA b (b + m)) (spanA (b + m) (b + n)) 85)
        have S4 := Lib.hid (S3.out.trans (RStep.of Z3.out L4))
        have P4 := Lib.hid (keep_block P3.out L4)
        have O4 := Lib.hid (owns_below O3.out L4)
        have Z4 := Lib.hid (Nat.le_trans Z3.out L4.size)
        have E4 := Lib.hid (HE.out.step n1 n2 n3 n4 S4.out)
        clear L4
        have cw := cell_of_one E4.out.bw
        go_wp2_with (first | (refine wpList_store_row rfl 85 (.tmp 7) _ rfl w3.heap.size (spanA b (b + m)) rfl rfl 85 #[.int .i64 0, .int .i64 0] (heap_alloc2_old _ _ _) sizeSpan rfl (spanA_one _ _) ?_) | (refine wpList_store_row rfl 85 (.tmp 8) _ rfl (w3.heap.size + 1) (spanA (b + m) (b + n)) rfl rfl 85 #[.int .i64 0, .int .i64 0] ((setRow_other _ _ _ _ (by omega)).trans (heap_alloc2_new _ _ _)) sizeSpan rfl (spanA_one _ _) ?_) | (refine wpList_load_row rfl 85 (.tmp 7) rfl w3.heap.size rfl 85 (spanA b (b + m)) (0, 0) _ F4.out Try.underlying85 rfl sizeSpan ?_))
        clear cw
        generalize ((((w3.alloc (.cells #[.int .i64 0, .int .i64 0] 85)).alloc (.cells #[.int .i64 0, .int .i64 0] 85)).setRow w3.heap.size (spanA b (b + m))).setRow (w3.heap.size + 1) (spanA (b + m) (b + n))) = W4 at F4 N4 S4 P4 O4 Z4 E4 ⊢
        refine (HL.out W4 v Z4.out E4.out P4.out O4.out).mono ?_
        rintro x w5 ⟨rfl, s5, v5, p5, o5⟩
        have S5 := Lib.hid (S4.out.trans s5)
        have P5 := Lib.hid p5
        have O5 := Lib.hid o5
        have N5 := Lib.hid (s5.kept _ _ _ _ (by have := HPB3.out; omega) (by decide) N4.out)
        have Z5 : Hid (w0.heap.size ≤ w5.heap.size) := Lib.hid (Nat.le_trans Z4.out s5.below.size)
        have E5 := Lib.hid (HE.out.step n1 n2 n3 n4 S5.out)
        clear s5 p5 o5
        have cw := cell_of_one E5.out.bw
        go_wp2_with (refine wpList_load_row rfl 85 (.tmp 8) rfl (w3.heap.size + 1) rfl 85 (spanA (b + m) (b + n)) (0, 0) _ N5.out Try.underlying85 rfl sizeSpan ?_)
        clear cw
        refine (HR.out w5 v5 (pre ++ A) (k + d1) (by have := HD1.out; omega) Z5.out E5.out P5.out O5.out).mono ?_
        rintro x w6 ⟨rfl, s6, v6, p6, o6⟩
        have S6 := Lib.hid (S5.out.trans s6)
        have P6 := Lib.hid p6
        have O6 := Lib.hid o6
        clear s6 p6 o6
        go_wp2_with fail
        refine bodyPost_end (results_none rfl _ _ _) rfl ⟨rfl, S6.out, _, P6.out, O6.out⟩
end Go.Proofs.Ytfnmmpnmbommeaa
