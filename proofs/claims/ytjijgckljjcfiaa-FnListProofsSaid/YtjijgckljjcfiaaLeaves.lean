/- The key of leaves, by the program. Written by wip/gen/leaves.py. -/
import Derived.Test.YtjijgckljjcfiaaWalk
import Derived.Laws.EntriesVeiled
namespace Go.Proofs.Ytjijgckljjcfiaa
open Go.ChangeShapes Go.WideShapes Go.ChangeAt Go.RowKit
set_option linter.unusedVariables false
set_option maxRecDepth 100000 in
set_option maxHeartbeats 2000000 in
theorem tree_impl {σ : Type} {tl : Nat → Nat → σ → List Int × Bool × σ} {I : σ → World → Prop} {B0 N tf : Nat} {X : Nat → Prop} {tc : Array Value} (T : Tells tl I B0 X N tf tc) (n : Nat) (s : σ) (w : World) (h1 : 1 ≤ n) (hn : n ≤ N) (hB : B0 ≤ w.heap.size) (hI : I s w) :
    Calls Try.prog 76 #[.int .i64 (n : Int), .func (.func 46) #[] #[], .func (.func tf) #[] tc] w fun x w' => x = .returned (.agg (ints .u8 (walkT tl n 0 s).1)) ∧ L32 (walkT tl n 0 s).1 ∧ I (walkT tl n 0 s).2 w' ∧ Keep w.heap.size X w w' := by
  have Hz := Lib.hid z32_ints
  have HX : Hid (∀ k, X k → k < w.heap.size) := Lib.hid (fun k hk => by have := T.low k hk; omega)
  have BA := Lib.hid ((((Below.refl w.heap.size w).alloc (Nat.le_refl _) (.cells #[.func (.func 46) #[] #[]] 139)).alloc (by simp) (.cells #[.func (.func tf) #[] tc] 106)).alloc (by simp; omega) (.cells (ints .u8 z32) 28))
  have A0 := Lib.hid (heap3_0 w (.cells #[.func (.func 46) #[] #[]] 139) (.cells #[.func (.func tf) #[] tc] 106) (.cells (ints .u8 z32) 28))
  have A1 := Lib.hid (heap3_1 w (.cells #[.func (.func 46) #[] #[]] 139) (.cells #[.func (.func tf) #[] tc] 106) (.cells (ints .u8 z32) 28))
  have A2 := Lib.hid (heap3_2 w (.cells #[.func (.func 46) #[] #[]] 139) (.cells #[.func (.func tf) #[] tc] 106) (.cells (ints .u8 z32) 28))
  obtain ⟨W3, hW3⟩ : ∃ W3, ((w.alloc (.cells #[.func (.func 46) #[] #[]] 139)).alloc (.cells #[.func (.func tf) #[] tc] 106)).alloc (.cells (ints .u8 z32) 28) = W3 := ⟨_, rfl⟩
  have HSZ : Hid (W3.heap.size = w.heap.size + 1 + 1 + 1) := Lib.hid (by rw [← hW3]; simp)
  rw [hW3] at BA A0 A1 A2
  have A4 := Lib.hid (heap_alloc_last W3 (.cells #[.func (.func 117) #[] #[.pointer (some ⟨w.heap.size + 1, 0, none⟩), .pointer (some ⟨W3.heap.size, 0, none⟩), .pointer (some ⟨w.heap.size, 0, none⟩)]] 153))
  have B5 := Lib.hid ((Below.refl W3.heap.size W3).alloc (Nat.le_refl _) (.cells #[.func (.func 117) #[] #[.pointer (some ⟨w.heap.size + 1, 0, none⟩), .pointer (some ⟨W3.heap.size, 0, none⟩), .pointer (some ⟨w.heap.size, 0, none⟩)]] 153))
  have cw := cell_of_one A4.out
  have Hw := Lib.hid (fun W h4 h5 h6 h7 h8 => walk_impl T (w.heap.size + 1) W3.heap.size w.heap.size (fun hx => by have := HX.out _ hx; omega) (fun hx => by have := HX.out _ hx; have := HSZ.out; omega) (fun hx => by have := HX.out _ hx; omega) n 0 s W h1 (by omega) h4 h5 h6 h7 h8)
  rw [show spanA 0 (0 + n) = #[.int .i64 0, .int .i64 (n : Int)] by simp [spanA]] at Hw
  have HI0 := Lib.hid hI
  have HB0 := Lib.hid hB
  clear h1 hn hI hB
  generalize hv : walkT tl n 0 s = v at Hw ⊢
  clear hv
  rw [Hz.out] at hW3
  go_enter Try.func76, Try.ntmps76
  go_wp2_with fail
  clear hW3 cw
  generalize W3.alloc (.cells #[.func (.func 117) #[] #[.pointer (some ⟨w.heap.size + 1, 0, none⟩), .pointer (some ⟨W3.heap.size, 0, none⟩), .pointer (some ⟨w.heap.size, 0, none⟩)]] 153) = W5 at A4 B5 ⊢
  have B6 := Lib.hid (BA.out.trans (B5.out.mono BA.out.size))
  have R5 := Lib.hid (keep_block A2.out B5.out)
  refine (Hw.out W5 (by have := B6.out.size; have := HB0.out; omega) (T.keep _ _ _ HI0.out (B6.out.mono HB0.out)) (keep_block A1.out B5.out) A4.out (keep_block A0.out B5.out)).mono ?_
  rintro x w7 ⟨rfl, hg7, hI7, hk7⟩
  have R7 := Lib.hid (hk7.hold (fun hx => by have := HX.out _ hx; omega) R5.out)
  have HG7 := Lib.hid hg7
  have HI7 := Lib.hid hI7
  have K7 := Lib.hid ((Keep.of X B6.out).trans (hk7.mono B6.out.size))
  clear hg7 hI7 hk7
  go_wp2_with (refine wpList_store_row rfl 28 (.tmp 6) _ rfl (w.heap.size + 1 + 1) (ints .u8 v.1) rfl rfl 28 (ints .u8 z32) R7.out (by rw [ints_size, HG7.out.1]; exact sizeKey) (by rw [ints_size, ints_size, HG7.out.1]; rfl) (ints_one _ _) ?_)
  refine bodyPost_ret (results_cell_row rfl _ _ (w.heap.size + 1 + 1) 28 (ints .u8 v.1) (0, 0) _ rfl (setRow_heap _ _ (ints .u8 z32) _ _ _ R7.out) Try.underlying28 rfl (by rw [ints_size, HG7.out.1]; exact sizeKey)) rfl ⟨rfl, HG7.out, ?_⟩
  have E := Below.setRow (g := w.heap.size + 1 + 1) (Below.refl w.heap.size w7) (by omega) (ints .u8 v.1)
  exact ⟨T.keep _ _ _ HI7.out (E.mono HB0.out), K7.out.trans (Keep.of X E)⟩
theorem yields_row {P : Program} {ops : Array Oper} {S : World → Prop} {op : Oper} {a : Act} (hw : Region.wanted op (yielded ops a.tmps) = true) (ty : TypeId) (x : Operand) (ho : op.op = .load ty x)
    (b : Nat) (hx : a.eval x = .pointer (some ⟨b, 0, none⟩)) (cs : Array Value) (t : TypeId) (d : TypeDesc) (hg : ∀ w, S w → w.heap[b]? = some (.cells cs t (0, 0)))
    (hu : P.underlying ty = some d) (hd : (match d with | .struct _ | .array _ _ => true | _ => false) = true) (hi : (P.info? ty).map (·.size) = some cs.size) :
    YieldsIf P ops S op (.agg cs) a :=
  .inl ⟨hw, fun w hS => by
    unfold execOp
    simp only [ho, hx, Instr.loadAt, Instr.sureAddr, Sem.run_bind, Sem.run_pure, Result.andThen_ok, run_loadVar_row w b t ty cs (0, 0) d (hg w hS) hu hd hi]⟩
/-- What the closure of a list tells: each leaf, and whether it is a part. -/
def tlL (fl : List Int) (b n : Nat) (s : Unit) : List Int × Bool × Unit := (keyAt fl b, ((n : Int) == 1), ())
theorem walkT_leaves (fl : List Int) : ∀ (n b : Nat), 1 ≤ n → (walkT (tlL fl) n b ()).1 = tkey (keyAt fl) b n := by
  intro n
  induction n using Nat.strongRecOn with
  | _ n ih =>
    intro b h1
    by_cases h2 : n = 1
    · subst h2
      rw [walkT_yes rfl, tkey_one]
      rfl
    · have a1 := half_pos n
      have a2 := half_lt (n := n) (by omega)
      have hf : (tlL fl b n ()).2.1 = false := by
        show ((n : Int) == 1) = false
        rw [beq_eq_false_iff_ne]
        omega
      rw [walkT_no hf (by omega), tkey_two _ _ _ (by omega)]
      show nodeK (walkT (tlL fl) (half n) b ()).1 (walkT (tlL fl) (n - half n) (b + half n) ()).1 = _
      rw [ih _ a2 b a1, ih _ (by omega) _ (by omega)]
/-- The captured list. -/
def LeafI (B0 lb blk off N cap : Nat) (fl : List Int) (s : Unit) (W : World) : Prop :=
  lb < B0 ∧ blk < B0 ∧ W.heap[lb]? = some (.cells #[.slice (some ⟨blk, off, none⟩) N cap] 24) ∧ RdK W (some ⟨blk, off, none⟩) N fl
theorem RdK.keepLow {B : Nat} {w w1 : World} {blk off n : Nat} {fl : List Int} (h : RdK w (some ⟨blk, off, none⟩) n fl) (hl : blk < B) (hb : Below B w w1) : RdK w1 (some ⟨blk, off, none⟩) n fl := by
  obtain ⟨h1, h2⟩ := h
  refine ⟨h1, ?_⟩
  rcases h2 with h2 | ⟨b', off', e, hlt, hc⟩
  · exact Or.inl h2
  · cases e
    exact Or.inr ⟨blk, off, rfl, Nat.lt_of_lt_of_le hlt hb.size, fun j hj => by rw [hb.cell (p := ⟨blk, off + j, none⟩) hl]; exact hc j hj⟩
set_option maxRecDepth 100000 in
set_option maxHeartbeats 2000000 in
theorem leaf_impl (lb blk off N cap : Nat) (fl : List Int) (b n : Nat) (w : World) (hN : N ≤ 1048576) (h1 : 1 ≤ n) (hb : b + n ≤ N) (hl : w.heap[lb]? = some (.cells #[.slice (some ⟨blk, off, none⟩) N cap] 24)) (hr : RdK w (some ⟨blk, off, none⟩) N fl) :
    Calls Try.prog 108 #[.agg (spanA b (b + n)), .pointer (some ⟨lb, 0, none⟩)] w fun x w' => x = .returned (.tuple #[.agg (ints .u8 (keyAt fl b)), .bool ((n : Int) == 1)]) ∧ Below w.heap.size w w' := by
  have Hz := Lib.hid z32_ints
  have HL := Lib.hid (Array.getElem?_eq_some_iff.1 hl).1
  have BW := Lib.hid (((Below.refl w.heap.size w).alloc (Nat.le_refl _) (.cells (spanA b (b + n)) 96)).alloc (by simp) (.cells (ints .u8 z32) 28))
  have GS := Lib.hid (heap_alloc2_old w (.cells (spanA b (b + n)) 96) (.cells (ints .u8 z32) 28))
  have G0 := Lib.hid (heap_alloc2_new w (.cells (spanA b (b + n)) 96) (.cells (ints .u8 z32) 28))
  obtain ⟨W0, hW0⟩ : ∃ W0, (w.alloc (.cells (spanA b (b + n)) 96)).alloc (.cells (ints .u8 z32) 28) = W0 := ⟨_, rfl⟩
  rw [hW0] at BW GS G0
  have L0 := Lib.hid (keep_block hl BW.out)
  have Hkey := Lib.hid (hr.key b (by omega))
  have Hkl := Lib.hid (keyAt_len hr.1 (show b < N by omega))
  have Hcnt := Lib.hid (fun W => count_impl b (b + n) (by omega) (by omega) W)
  rw [show b + n - b = n by omega] at Hcnt
  clear hl hr
  generalize keyAt fl b = key at Hkey Hkl
  have c0 : (b : Int) < N := by omega
  have c1 : (0 : Int) ≤ (b : Int) := by omega
  have c2 : b < N := by omega
  clear h1 hb
  rw [Hz.out] at hW0
  go_enter Try.func108, Try.ntmps108
  go_wp2_with fail
  clear hW0
  refine wp_region_held_drew (S := fun W => Below w.heap.size w W ∧ W.heap[w.heap.size]? = some (.cells (spanA b (b + n)) 96) ∧ W.heap[lb]? = some (.cells #[.slice (some ⟨blk, off, none⟩) N cap] 24)) (by kernel_rfl) ⟨BW.out.drew, GS.out, L0.out⟩ (fun hS => ?_)
  refine take_at (i := 0) (v := .slice (some ⟨blk, off, none⟩) N cap) rfl rfl (by kernel_rfl) (by kernel_rfl) (by kernel_rfl) (fun _ _ _ h => h) (Or.inl ⟨by rfl, fun W hW => by 
    have hc := cell_of_one hW.2.2
    go_simp⟩) hS ?_
  refine take_at (i := 1) (v := .pointer (some ⟨w.heap.size, 0, none⟩)) rfl rfl (by kernel_rfl) (by kernel_rfl) (by kernel_rfl) (fun _ _ _ h => h) (Or.inl ⟨by rfl, fun W hW => by go_simp⟩) hS ?_
  refine take_at (i := 2) (v := .int .i64 (b : Int)) rfl rfl (by kernel_rfl) (by kernel_rfl) (by kernel_rfl) (fun _ _ _ h => h) (Or.inl ⟨by rfl, fun W hW => by 
    have hc' : W.cell? ⟨w.heap.size, 0, none⟩ = some (.int .i64 (b : Int)) := (cell_of_row W w.heap.size 0 _ _ _ hW.2.1).trans rfl
    go_simp⟩) hS ?_
  simp only [List.setIfInBounds_toArray, List.set_cons_zero, List.set_cons_succ]
  refine take_at (i := 3) (v := .pointer (some ⟨blk, off + b * 32, none⟩)) rfl rfl (by kernel_rfl) (by kernel_rfl) (by kernel_rfl) (fun _ _ _ h => h) (Or.inl ⟨by rfl, fun W hW => by go_simp⟩) hS ?_
  refine take_at (i := 4) (v := .agg (ints .u8 key)) rfl rfl (by kernel_rfl) (by kernel_rfl) (by kernel_rfl) (fun _ _ _ h => h) (yieldsIf_load_mid (by rfl) 28 _ rfl blk (off + b * 32) rfl (key.map (Value.int .u8)) _ (fun W hW => rangeAt_below Hkey.out hW.1) Try.underlying28 rfl (by rw [List.length_map, Hkl.out]; exact sizeKey)) hS ?_
  refine take_at (i := 5) (v := .agg (spanA b (b + n))) rfl rfl (by kernel_rfl) (by kernel_rfl) (by kernel_rfl) (fun _ _ _ h => h) (yields_row (by rfl) 96 _ rfl w.heap.size rfl (spanA b (b + n)) 96 _ (fun W hW => hW.2.1) Try.underlying96 rfl sizeSpan) hS ?_
  simp only [List.setIfInBounds_toArray, List.set_cons_zero, List.set_cons_succ]
  refine wpAnyH_ready (rs := [6]) (by kernel_rfl) (by simp) ?_
  refine AllReadyH.cons rfl (fun K hK => ?_) AllReadyH.nil
  rw [if_pos (by rfl)]
  go_simp
  refine (Hcnt.out _).mono ?_
  rintro x u1 ⟨rfl, hb'⟩
  have G1 := Lib.hid (keep_block (w := W0.drew) G0.out hb')
  have C1 := Lib.hid (below_call BW.out.drew BW.out.size hb')
  refine hK.out _ _ ⟨below_call hS.1 hS.1.size hb', keep_block hS.2.1 hb', keep_block hS.2.2 hb'⟩ (fun hS => ?_)
  clear hb' hK
  refine take_at (i := 7) (v := .bool ((n : Int) == 1)) rfl rfl (by kernel_rfl) (by kernel_rfl) (by kernel_rfl) (fun _ _ _ h => h) (Or.inl ⟨by rfl, fun W hW => by go_simp⟩) hS ?_
  simp only [List.setIfInBounds_toArray, List.set_cons_zero, List.set_cons_succ]
  refine wpAnyH_ready (rs := [8]) (by kernel_rfl) (by simp) ?_
  refine AllReadyH.cons rfl (fun K hK => ?_) AllReadyH.nil
  rw [if_pos (by rfl)]
  refine wp_store_row (o := ⟨none, _, _, _, _, _⟩) 28 _ _ rfl _ (ints .u8 key) rfl rfl 28 (ints .u8 z32) G1.out (by rw [ints_size, Hkl.out]; exact sizeKey) (by rw [ints_size, ints_size, Hkl.out]; rfl) (ints_one _ _) ?_
  simp only [Act.put]
  have CF := Lib.hid (Below.setRow C1.out (by omega : w.heap.size ≤ w.heap.size + 1) (ints .u8 key))
  have GF := Lib.hid (setRow_heap _ _ (ints .u8 z32) (ints .u8 key) _ _ G1.out)
  refine hK.out _ _ ⟨Below.setRow hS.1 (by omega) _, (setRow_other _ _ _ _ (by omega)).trans hS.2.1, (setRow_other _ _ _ _ (by have := HL.out; omega)).trans hS.2.2⟩ (fun hS => ?_)
  clear hK
  refine take_at (i := 9) (v := .bool ((n : Int) == 1)) rfl rfl (by kernel_rfl) (by kernel_rfl) (by kernel_rfl) (fun _ _ _ h => h) (Or.inl ⟨by rfl, fun W hW => by go_simp⟩) hS ?_
  simp only [List.setIfInBounds_toArray, List.set_cons_zero, List.set_cons_succ]
  refine wpAnyH_done (by kernel_rfl) ?_ _
  go_wp2_with fail
  refine bodyPost_ret (results_cell2_row rfl _ _ (w.heap.size + 1) 28 (ints .u8 key) (0, 0) _ rfl GF.out Try.underlying28 rfl (by rw [ints_size, Hkl.out]; exact sizeKey)) rfl ⟨rfl, CF.out⟩
theorem leaf_tells (B0 lb blk off N cap : Nat) (fl : List Int) (hN : N ≤ 1048576) (fb : ∀ z ∈ fl, 0 ≤ z ∧ z ≤ 255) :
    Tells (tlL fl) (LeafI B0 lb blk off N cap fl) B0 (fun _ => False) N 108 #[.pointer (some ⟨lb, 0, none⟩)] where
  small := hN
  enters := fun args w => enters_of Try.func108 (by kernel_rfl) rfl args w
  low := fun _ h => h.elim
  keep := fun s w w' ⟨h1, h2, h3, h4⟩ hb => ⟨h1, h2, (hb.block _ h1).trans h3, h4.keepLow h2 hb⟩
  one := fun b s => rfl
  good := fun b n s w h1 hb hI => ⟨keyAt_len hI.2.2.2.1 (by omega), keyAt_range fb _⟩
  call := fun b n s w h1 hb hB hI => (leaf_impl lb blk off N cap fl b n w hN h1 hb hI.2.2.1 hI.2.2.2).mono fun x w' ⟨he, hbw⟩ => ⟨he, by
    exact ⟨hI.1, hI.2.1, (hbw.block _ (Nat.lt_of_lt_of_le hI.1 hB)).trans hI.2.2.1, hI.2.2.2.below hbw⟩, Keep.of _ hbw⟩
end Go.Proofs.Ytjijgckljjcfiaa
