/- Keys in the order of their differences from a key: the order, and the program's sort by a function that holds the key. Written by hand. -/
import Derived.Test.YtnnplebebhjfaabSoS
import Derived.Test.YtnnplebebhjfaabSkI
import Derived.BigQuiet
namespace Go.Proofs.Ytnnplebebhjfaab
open Go.ChangeShapes Go.WideShapes Go.ChangeAt Go.RowKit
set_option linter.unusedVariables false
set_option linter.unusedSimpArgs false
open Go.Sort Go.Shelf
theorem bits_xor8 (a c : Int) : bits .xor .u8 a c = (((BitVec.ofInt 8 a) ^^^ (BitVec.ofInt 8 c)).toNat : Int) := by
  show IntKind.u8.wrap (((BitVec.ofInt 8 a) ^^^ (BitVec.ofInt 8 c)).toNat : Int) = _
  exact IntWalk.u8_in _ ⟨by omega, by have := ((BitVec.ofInt 8 a) ^^^ (BitVec.ofInt 8 c)).isLt; omega⟩
theorem bits_inj8 {a b c : Int} (ha : 0 ≤ a ∧ a ≤ 255) (hb : 0 ≤ b ∧ b ≤ 255) (h : bits .xor .u8 a c = bits .xor .u8 b c) : a = b := by
  rw [bits_xor8, bits_xor8] at h
  have h1 : (BitVec.ofInt 8 a) ^^^ (BitVec.ofInt 8 c) = (BitVec.ofInt 8 b) ^^^ (BitVec.ofInt 8 c) := BitVec.eq_of_toNat_eq (by omega)
  have h2 : BitVec.ofInt 8 a = BitVec.ofInt 8 b := by
    have := congrArg (· ^^^ (BitVec.ofInt 8 c)) h1
    simpa [BitVec.xor_assoc] using this
  have h3 := congrArg BitVec.toNat h2
  simp [BitVec.toNat_ofInt] at h3
  omega
theorem xorK_inj {f : List Int} (hf : f.length = 32) (x y : KeyS) (h : xorL x.1 f = xorL y.1 f) : x = y := by
  refine Subtype.ext (List.ext_getElem (by rw [x.2.1, y.2.1]) fun t h1 h2 => ?_)
  have ht : t < 32 := by rw [x.2.1] at h1; exact h1
  have e1 := xorL_at (k := t) x.2.1 hf ht
  have e2 := xorL_at (k := t) y.2.1 hf ht
  rw [h, e2, List.getElem?_eq_getElem h1, List.getElem?_eq_getElem h2, Option.getD_some, Option.getD_some] at e1
  exact (bits_inj8 (y.2.2 _ (List.getElem_mem h2)) (x.2.2 _ (List.getElem_mem h1)) e1).symm
/-- The keys compared by their differences from f. -/
def cfD (f : List Int) (x y : KeyS) : Int := cmpI (xorL x.1 f) (xorL y.1 f)
instance (f : List Int) (x y : KeyS) : Decidable (LtD f x y) := inferInstanceAs (Decidable (_ < _))
theorem ltD (f : List Int) (x y : KeyS) : Go.Proofs.ltOf (cfD f) x y = decide (LtD f x y) := rfl
theorem lenD {f : List Int} (hf : f.length = 32) (x y : KeyS) : (xorL x.1 f).length = (xorL y.1 f).length := by rw [xorK_len x hf, xorK_len y hf]
theorem swoD {f : List Int} (hf : f.length = 32) : SWO (Go.Proofs.ltOf (cfD f)) where
  irrefl x := by
    rw [ltD, decide_eq_false_iff_not]
    unfold LtD
    rw [cmpI_refl]
    omega
  trans x y z h1 h2 := by
    rw [ltD, decide_eq_true_eq] at *
    exact h1.trans hf h2
  ntrans x y z h1 h2 := by
    rw [ltD, decide_eq_false_iff_not] at *
    intro h3
    by_cases n1 : x = y
    · exact h2 (n1 ▸ h3)
    · exact h2 ((LtD.of_not hf (xorK_inj hf) n1 h1).trans hf h3)
theorem totD {f : List Int} (hf : f.length = 32) (x y : KeyS) (h1 : Go.Proofs.ltOf (cfD f) x y = false) (h2 : Go.Proofs.ltOf (cfD f) y x = false) : x = y := by
  rw [ltD, decide_eq_false_iff_not] at *
  by_cases n1 : x = y
  · exact n1
  · exact absurd (LtD.of_not hf (xorK_inj hf) n1 h1) h2
/-- Keys in the order of their differences from f. -/
def sortD (f : List Int) (ks : List KeyS) : List KeyS := ks.mergeSort (fun x y => !(Go.Proofs.ltOf (cfD f)) y x)
theorem sortD_perm (f : List Int) (ks : List KeyS) : (sortD f ks).Perm ks := List.mergeSort_perm ks _
theorem sortD_of {f : List Int} (hf : f.length = 32) {l acc : List KeyS} (hp : acc.Perm l) (ha : AscD f acc) : acc = sortD f l := by
  have tr : ∀ x y z : KeyS, (!(Go.Proofs.ltOf (cfD f)) y x) = true → (!(Go.Proofs.ltOf (cfD f)) z y) = true → (!(Go.Proofs.ltOf (cfD f)) z x) = true := fun x y z h1 h2 => by
    simp only [Bool.not_eq_true'] at *
    exact (swoD hf).ntrans _ _ _ h2 h1
  have tt : ∀ x y : KeyS, ((!(Go.Proofs.ltOf (cfD f)) y x) || (!(Go.Proofs.ltOf (cfD f)) x y)) = true := fun x y => by
    cases h1 : Go.Proofs.ltOf (cfD f) y x
    · rfl
    · cases h2 : Go.Proofs.ltOf (cfD f) x y
      · rfl
      · have := (swoD hf).trans _ _ _ h1 h2
        rw [(swoD hf).irrefl] at this
        cases this
  refine List.Perm.eq_of_pairwise (le := fun a b => (!(Go.Proofs.ltOf (cfD f)) b a) = true) (fun a b _ _ h1 h2 => ?_) (ha.imp (fun {x y} hxy => ?_)) (List.pairwise_mergeSort tr tt l) (hp.trans (sortD_perm f l).symm)
  · simp only [Bool.not_eq_true'] at h1 h2
    exact totD hf _ _ h2 h1
  · rw [ltD, Bool.not_eq_true', decide_eq_false_iff_not]
    intro h
    have h1 : cmpI (xorL x.1 f) (xorL y.1 f) < 0 := hxy
    have h2 : cmpI (xorL y.1 f) (xorL x.1 f) < 0 := h
    have := cmpI_neg (xorL x.1 f) (xorL y.1 f)
    omega
/-- What only draws and makes blocks. -/
def GrC (w : World) (W : World) : Prop := ∃ q os, W = grow (w.drewN q) os
theorem GrC.step {w W W' : World} (h : GrC w W) (h' : GrC W W') : GrC w W' := by
  obtain ⟨q, os, rfl⟩ := h
  obtain ⟨q', os', rfl⟩ := h'
  refine ⟨q + q', os ++ os', ?_⟩
  have : (grow (w.drewN q) os).drewN q' = grow (w.drewN (q + q')) os := by simp [World.drewN, grow, Nat.add_assoc]
  rw [this, grow_grow]
theorem GrC.below {w W : World} (h : GrC w W) : Below w.heap.size w W := by
  obtain ⟨q, os, rfl⟩ := h
  exact ⟨rfl, rfl, rfl, by simp [grow, World.drewN], fun k hk => heap_grow_old (w.drewN q) os hk⟩
theorem yields_sub {P : Program} {ops : Array Oper} {S S' : World → Prop} {o : Oper} {v : Value} {a : Act} (h : YieldsIf P ops S o v a) (hs : ∀ W, S' W → S W) : YieldsIf P ops S' o v a :=
  h.imp (fun ⟨hw, hv⟩ => ⟨hw, fun w hS => hv w (hs w hS)⟩) id
theorem grown3 (w : World) (A B : Obj) (t : TypeId) (c c' : Array Value) (q : Nat) : ((((w.alloc A).alloc B).alloc (.cells c t)).drewN q).setRow (w.heap.size + 1 + 1) c' = grow (w.drewN q) #[A, B, .cells c' t] := by
  have h := World.setRow_alloc_new ((w.alloc A).alloc B) c c' t
  rw [World.size_alloc, World.size_alloc] at h
  have e : ((((w.alloc A).alloc B).alloc (.cells c t)).drewN q).setRow (w.heap.size + 1 + 1) c' = ((((w.alloc A).alloc B).alloc (.cells c t)).setRow (w.heap.size + 1 + 1) c').drewN q := rfl
  rw [e, h, alloc_eq_grow, alloc_eq_grow, alloc_eq_grow, grow_grow, grow_grow]
  rfl
set_option maxHeartbeats 1000000 in
theorem xor_grow (a b : List Int) (ha : a.length = 32) (hb : b.length = 32) (w : World) :
    Calls Try.prog 38 #[.agg (ints .u8 a), .agg (ints .u8 b)] w fun e w' => e = .returned (.agg (ints .u8 (xorL a b))) ∧ GrC w w' := by
  have Hz := Lib.hid z32_ints
  have Ha := Lib.hid ha
  have Hb := Lib.hid hb
  have Hx := Lib.hid (xorL_len ha hb)
  clear ha hb
  go_enter Try.func38, Try.ntmps38
  go_wp2
  go_loopw [6] (fun i wr => ∃ k : Nat, k ≤ 32 ∧ i = .int .i64 k ∧ ∃ q : Nat, wr = (((w.alloc (.cells (ints .u8 (upTo a (xorL a b) k)) 44)).alloc (.cells (ints .u8 b) 44)).alloc (.cells (ints .u8 z32) 44)).drewN q) (fun i _ => 32 - (intOf i).toNat)
  case atStart => exact ⟨0, by omega, rfl, 0, by rw [upTo_zero, Hz.out]; rfl⟩
  case round =>
    obtain ⟨k, hk, rfl, q, rfl⟩ := hrel
    by_cases hlt : k < 32
    · have hs := upTo_get .u8 (k := k) (old := a) (new := xorL a b) (by rw [Hx.out, Ha.out]) (by rw [Hx.out]; exact hlt)
      have hg := ints_get .u8 b k (by rw [Hb.out]; exact hlt)
      have ht := upTo_set .u8 (k := k) (old := a) (new := xorL a b) (by rw [Hx.out, Ha.out]) (by rw [Hx.out]; exact hlt) (xorL_at Ha.out Hb.out hlt)
      go_wp2
      go_region
      go_wp2
      go_roundw
      case rel => exact ⟨k + 1, by omega, by go_num, q + 1, by rw [setCell3_0, ht]⟩
      case measure => simp [intOf]; omega
    · obtain rfl : k = 32 := by omega
      rw [upTo_all Ha.out Hx.out]
      go_wp2_with (first | (refine wpList_load_row rfl 44 _ rfl w.heap.size rfl 44 (ints .u8 (xorL a b)) (0, 0) _ (heap3_0 _ _ _ _) Try.underlying44 rfl (by rw [ints_size, Hx.out]; exact sizeKey) ?_) | (refine wpList_store_row rfl 44 _ _ rfl (w.heap.size + 1 + 1) (ints .u8 (xorL a b)) rfl rfl 44 (ints .u8 z32) (heap3_2 _ _ _ _) (by rw [ints_size, Hx.out]; exact sizeKey) (by rw [ints_size, ints_size, Hx.out]; rfl) (ints_one _ _) ?_))
      refine bodyPost_ret (results_cell_row rfl _ _ (w.heap.size + 1 + 1) 44 (ints .u8 (xorL a b)) (0, 0) _ rfl (setRow_heap _ _ _ _ _ _ (heap3_2 _ _ _ _)) Try.underlying44 rfl (by rw [ints_size, Hx.out]; exact sizeKey)) rfl ⟨rfl, ?_⟩
      exact ⟨_, _, grown3 _ _ _ _ _ _ _⟩
end Go.Proofs.Ytnnplebebhjfaab
