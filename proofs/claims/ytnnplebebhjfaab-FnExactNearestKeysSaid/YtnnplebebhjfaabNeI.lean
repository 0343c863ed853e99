/- NearestKeys: the program. Written by hand. -/
import Derived.Test.YtnnplebebhjfaabNeO
namespace Go.Proofs.Ytnnplebebhjfaab
open Go.ChangeShapes Go.WideShapes Go.ChangeAt Go.RowKit
set_option linter.unusedVariables false
set_option linter.unusedSimpArgs false
open Go.Sort Go.Shelf
theorem wp_region_classN {P : Program} {C : World → Prop} {id : Nat} {Q : Exit → Act → World → Prop} {a : Act} {w : World} {l : List Oper} (hm : P.follows .mixedOrders = true) (hB : Region.lexB .any l.toArray = true) (hC : C w.drew)
    (h : wpQuiet P l.toArray C (fun a' => ∀ w', C w' → Q .normal a' w') l a) : (Code.region id l.toArray true).wp P Q a w := wp_region_quiet hm hB hC (by simpa using h)
theorem GrC.refl (w : World) : GrC w w := ⟨0, #[], by simp [grow, World.drewN]⟩
theorem GrC.drew (w : World) : GrC w w.drew := ⟨1, #[], by
  have h : w.drewN 1 = w.drew := rfl
  rw [← h]
  simp [grow]
  rfl⟩
theorem GrC.alloc2 (w : World) (A B : Obj) : GrC w ((w.alloc A).alloc B) := ⟨0, #[A, B], by rw [alloc_eq_grow, alloc_eq_grow, grow_grow]; rfl⟩
theorem xorL_byte {a b : List Int} (ha : a.length = 32) (hb : b.length = 32) : ∀ z ∈ xorL a b, 0 ≤ z ∧ z ≤ 255 := fun z hz => by
  obtain ⟨t, ht, rfl⟩ := List.getElem_of_mem hz
  have h32 : t < 32 := by rw [xorL_len ha hb] at ht; exact ht
  have h := xorL_at (k := t) ha hb h32
  rw [List.getElem?_eq_getElem ht, Option.getD_some, bits_xor8] at h
  rw [h]
  have := ((BitVec.ofInt 8 (a[t]?.getD 0)) ^^^ (BitVec.ofInt 8 (b[t]?.getD 0))).isLt
  omega
set_option maxRecDepth 100000 in
set_option maxHeartbeats 2000000 in
theorem near_cmp (kb : Nat) (f : List Int) (hf : IsK f) (x y : KeyS) (W : World) (hW : W.heap[kb]? = some (.cells (ints .u8 f) 44)) :
    Calls Try.prog 59 #[.agg (ints .u8 x.1), .agg (ints .u8 y.1), .pointer (some ⟨kb, 0, none⟩)] W fun e w' => e = .returned (.int .i64 (cfD f x y)) ∧ GrC W w' := by
  have HA := Lib.hid x.2
  have HB := Lib.hid y.2
  have FK := Lib.hid hf
  have e1 : cfD f x y = cmpI (xorL x.1 f) (xorL y.1 f) := rfl
  rw [e1]
  clear e1 hf
  have c1 := Lib.hid (heap_alloc2_old W (.cells (ints .u8 x.1) 44) (.cells (ints .u8 y.1) 44))
  have c2 := Lib.hid (heap_alloc2_new W (.cells (ints .u8 x.1) 44) (.cells (ints .u8 y.1) 44))
  have c3 := Lib.hid (keep_block hW (GrC.alloc2 W (.cells (ints .u8 x.1) 44) (.cells (ints .u8 y.1) 44)).below)
  have G2 := Lib.hid (GrC.alloc2 W (.cells (ints .u8 x.1) 44) (.cells (ints .u8 y.1) 44))
  generalize x.1 = a at *
  generalize y.1 = b at *
  go_enter Try.func59, Try.ntmps59
  go_wp2_with fail
  refine wp_region_classN (C := GrC ((W.alloc (.cells (ints .u8 a) 44)).alloc (.cells (ints .u8 b) 44))) (by kernel_rfl) (by kernel_rfl) (GrC.drew _) ?_
  refine wq_take (v := .agg (ints .u8 a)) (yields_sub (yields_box (by kernel_rfl) 44 _ rfl W.heap.size rfl _ 44 _ c1.out Try.underlying44 rfl (by rw [ints_size, HA.out.1]; exact sizeKey)) (fun V h => h.below)) ?_
  simp only [Act.put, List.setIfInBounds_toArray, List.set_cons_succ, List.set_cons_zero]
  refine wq_take (v := .agg (ints .u8 f)) (yields_sub (yields_box (by kernel_rfl) 44 _ rfl kb rfl _ 44 _ c3.out Try.underlying44 rfl (by rw [ints_size, FK.out.1]; exact sizeKey)) (fun V h => h.below)) ?_
  simp only [Act.put, List.setIfInBounds_toArray, List.set_cons_succ, List.set_cons_zero]
  refine wq_call (v := .agg (ints .u8 (xorL a f))) (f := 38) (args := #[.agg (ints .u8 a), .agg (ints .u8 f)]) (by kernel_rfl) (fun V => by go_simp) (fun V hV => (xor_grow a f HA.out.1 FK.out.1 V).mono (fun e w'' h => ⟨h.1, hV.step h.2⟩)) ?_
  simp only [Act.put, List.setIfInBounds_toArray, List.set_cons_succ, List.set_cons_zero]
  refine wq_take (v := .agg (ints .u8 b)) (yields_sub (yields_box (by kernel_rfl) 44 _ rfl (W.heap.size + 1) rfl _ 44 _ c2.out Try.underlying44 rfl (by rw [ints_size, HB.out.1]; exact sizeKey)) (fun V h => h.below)) ?_
  simp only [Act.put, List.setIfInBounds_toArray, List.set_cons_succ, List.set_cons_zero]
  refine wq_take (v := .agg (ints .u8 f)) (yields_sub (yields_box (by kernel_rfl) 44 _ rfl kb rfl _ 44 _ c3.out Try.underlying44 rfl (by rw [ints_size, FK.out.1]; exact sizeKey)) (fun V h => h.below)) ?_
  simp only [Act.put, List.setIfInBounds_toArray, List.set_cons_succ, List.set_cons_zero]
  refine wq_call (v := .agg (ints .u8 (xorL b f))) (f := 38) (args := #[.agg (ints .u8 b), .agg (ints .u8 f)]) (by kernel_rfl) (fun V => by go_simp) (fun V hV => (xor_grow b f HB.out.1 FK.out.1 V).mono (fun e w'' h => ⟨h.1, hV.step h.2⟩)) ?_
  simp only [Act.put, List.setIfInBounds_toArray, List.set_cons_succ, List.set_cons_zero]
  refine wq_call (v := .int .i64 (cmpI (xorL a f) (xorL b f))) (f := 34) (args := #[.agg (ints .u8 (xorL a f)), .agg (ints .u8 (xorL b f))]) (by kernel_rfl) (fun V => by go_simp) (fun V hV => (cmp_grow (xorL a f) (xorL b f) (xorL_len HA.out.1 FK.out.1) (xorL_len HB.out.1 FK.out.1) (xorL_byte HA.out.1 FK.out.1) (xorL_byte HB.out.1 FK.out.1) V).mono (fun e w'' h => ⟨h.1, hV.step h.2⟩)) ?_
  simp only [Act.put, List.setIfInBounds_toArray, List.set_cons_succ, List.set_cons_zero]
  refine wq_take (v := .int .i64 (cmpI (xorL a f) (xorL b f))) (Or.inl ⟨by kernel_rfl, fun V hV => by go_simp⟩) ?_
  simp only [Act.put, List.setIfInBounds_toArray, List.set_cons_succ, List.set_cons_zero]
  refine wpQuiet_nil ?_
  intro V hV
  have G3 := Lib.hid (G2.out.step hV)
  clear hV
  go_wp2
  go_ret
  exact ⟨rfl, G3.out⟩
theorem cmpLaysN (kb : Nat) (f : List Int) (hf : IsK f) (blk size : Nat) (w : World) (hkb : kb < w.heap.size) (hne : kb ≠ blk) (hW : w.heap[kb]? = some (.cells (ints .u8 f) 44)) :
    CmpLays Try.prog 59 #[.pointer (some ⟨kb, 0, none⟩)] encL 32 (cfD f) blk 0 size w := fun m os dk _ x y =>
  near_cmp kb f hf x y _ (((grownBy_sortedK (w := w) (g := blk) (n := m) (os := os) dk).block kb hkb (by simp; omega)).trans hW)
theorem sort_near (kb : Nat) (f : List Int) (hf : IsK f) (blk cap : Nat) (ks : List KeyS) (w : World) (hH : HoldsK encL 32 w blk 0 ks.toArray) (hblk : blk < w.heap.size) (hsz : ks.length ≤ 1048576) (hkb : kb < w.heap.size) (hne : kb ≠ blk) (hW : w.heap[kb]? = some (.cells (ints .u8 f) 44)) :
    Calls Try.prog 58 #[.slice (some ⟨blk, 0, none⟩) ks.length cap, .func (.func 59) #[] #[.pointer (some ⟨kb, 0, none⟩)]] w fun e w' => e = .returned (.tuple #[]) ∧ ∃ n os, w' = sortWorldK encL 32 w blk 0 n (sortD f ks).toArray os := by
  have eg : ∀ args w, (callFunc 59 args).run Try.prog w = .ok (.enter 59 args) w := enters_of Try.func59 (by kernel_rfl) rfl
  have h := AnyQ.slices_SortFunc_total Try.sortKeys 32 isAggK sizeOfK encL encL_len (fun x v hv => by simp only [encL, List.mem_map] at hv; obtain ⟨z, _, rfl⟩ := hv; rfl) (cfD f) (swoD hf.1) 59 #[.pointer (some ⟨kb, 0, none⟩)] blk 0 cap ks.toArray w eg (cmpLaysN kb f hf blk _ w hkb hne hW) hH hblk (by simp; omega) (totD hf.1)
  have es : ks.toArray.size = ks.length := by simp
  rw [es] at h
  exact h
end Go.Proofs.Ytnnplebebhjfaab
