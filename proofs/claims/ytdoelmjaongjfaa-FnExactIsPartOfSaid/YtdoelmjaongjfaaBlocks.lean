/- The blocks of a slice of bytes, as the program makes them. -/
import Derived.Test.YtdoelmjaongjfaaChunk
import Derived.Test.YtdoelmjaongjfaaFill
import Derived.Test.YtdoelmjaongjfaaConcat
import Derived.Maps.AppendAt
import Derived.RangeFuncBox
namespace Go.Proofs.Ytdoelmjaongjfaa
open Go.ChangeShapes Go.WideShapes Go.ChangeAt Go.RowKit Go.Shelf
set_option linter.unusedVariables false
attribute [local go_sem] Oper.semAt_some
set_option maxRecDepth 100000 in
set_option maxHeartbeats 1000000 in
theorem chunkf_in (F : Fence) (n : Nat) (hF : F.fn 148) (hro : F.round = none) (a : Option Addr) (len cap : Nat) (w : World) :
    CallsIn F n Try.prog 148 #[.slice a len cap, .int .i64 32] w fun e w' => e = .returned (.func (.func 150) #[] #[.pointer (some ⟨w.heap.size, 0, none⟩), .pointer (some ⟨w.heap.size + 1, 0, none⟩)]) ∧ w' = (w.alloc (.cells #[.slice a len cap] 41)).alloc (.cells #[.int .i64 32] 3) := by
  refine callsIn_of_wp Try.func148 rfl hF ?_ hro
  simp only [Try.ntmps148, List.size_toArray, List.length_cons, List.length_nil, Nat.reduceAdd, Nat.reduceSub, Array.replicate_succ, Array.replicate_zero, List.push_toArray, List.append_toArray, List.nil_append, List.cons_append]
  gi_wp2
  go_ret
  exact ⟨rfl, rfl⟩
theorem chunk_stops (F : Fence) (n : Nat) (hF : F.fn 150) (hro : F.round = none) (hn : 1 ≤ n) (Bs n0 : Nat) (a : Option Addr) (b off m cap : Nat) (hm : m ≤ 1048576) (ha : m = 0 ∨ a = some ⟨b, off, none⟩) (hcap : 32 * m ≤ cap) (hcap2 : cap ≤ maxLen) (w : World) (hBs : Bs + 1 < w.heap.size)
    (h1 : w.cell? ⟨Bs, 0, none⟩ = some (.slice a (32 * m) cap)) (h2 : w.cell? ⟨Bs + 1, 0, none⟩ = some (.int .i64 32)) :
    SeqStopsK F n Try.prog 150 #[.pointer (some ⟨Bs, 0, none⟩), .pointer (some ⟨Bs + 1, 0, none⟩)] (fun x : Fin m => #[Value.slice (some ⟨b, off + 32 * x.val, none⟩) 32 32]) (KeepC n0 Bs) (fun ys => ys = List.finRange m) (fun pre => pre <+: List.finRange m) m w := fun l J Jx W hW hJ _ hY h0 =>
  chunk1_in F n hF hro hn l Bs n0 a b off m cap hm ha hcap hcap2 J Jx hY W hJ ((hW.cell (p := ⟨Bs, 0, none⟩) (by simp only []; omega)).trans h1) ((hW.cell (p := ⟨Bs + 1, 0, none⟩) (by simp only []; omega)).trans h2) h0
theorem run_arrayAt {P : Program} {w : World} {t e : TypeId} {n len cap : Nat} {a : Option Addr} (hu : P.underlying t = some (.array n e)) (h : ¬ len < n) : (Instr.arrayAt t (.slice a len cap)).run P w = .ok (.pointer a) w := by
  unfold Instr.arrayAt
  simp [run_underlying hu, h]
theorem infoTB : (Try.prog.info? 40).map (fun i => (i.zero.map (fun z => z.cells.size), i.size, i.bytes)) = some (some 32, 32, 32) := by kernel_rfl
theorem info_partsB : ∃ (i : TypeInfo) (z : Value), Try.prog.info? 40 = some i ∧ i.zero = some z ∧ z.cells.size = 32 ∧ i.size = 32 ∧ i.bytes = 32 := by
  have h := infoTB
  cases hi : Try.prog.info? 40 with
  | none => rw [hi] at h; cases h
  | some i =>
    rw [hi] at h
    cases hz : i.zero with
    | none => simp [hz] at h
    | some z => simp [hz] at h; exact ⟨i, z, rfl, hz, h.1, h.2.1, h.2.2⟩
/-- The blocks of L from the first one on, before block k. -/
def preL (L : List Int) {m : Nat} (pre : List (Fin m)) : List Int := pre.flatMap fun x => keyAt L x.val
theorem preL_snoc (L : List Int) {m : Nat} (pre : List (Fin m)) (x : Fin m) : preL L (pre ++ [x]) = preL L pre ++ keyAt L x.val := by simp [preL]
theorem preL_take {L : List Int} {m : Nat} (hl : L.length = 32 * m) : ∀ k, k ≤ m → preL L ((List.finRange m).take k) = L.take (32 * k)
  | 0, _ => by simp [preL]
  | k + 1, h => by
    rw [List.take_succ_eq_append_getElem (by simp; exact h), preL_snoc, preL_take hl k (by omega), show 32 * (k + 1) = 32 * k + 32 by omega, List.take_add]
    simp [keyAt]
theorem preL_all {L : List Int} {m : Nat} (hl : L.length = 32 * m) : preL L (List.finRange m) = L := by
  have h := preL_take hl m (Nat.le_refl _)
  rwa [List.take_of_length_le (by simp), List.take_of_length_le (by omega)] at h
set_option linter.unusedSimpArgs false in
set_option maxRecDepth 100000 in
set_option maxHeartbeats 2000000 in
theorem blocks_in (F : Fence) (n : Nat) (hF : F.fn 139) (hF1 : F.fn 148) (hF2 : F.fn 150) (hro : F.round = none) (hn : 3 ≤ n) (a : Option Addr) (b off m cap : Nat) (L : List Int) (hm : m ≤ 1048576) (ha : m = 0 ∨ a = some ⟨b, off, none⟩) (hcap : 32 * m ≤ cap) (hcap2 : cap ≤ maxLen) (hL : L.length = 32 * m) (w : World)
    (hb : m = 0 ∨ b < w.heap.size) (hc : ∀ j, j < 32 * m → w.cell? ⟨b, off + j, none⟩ = some (.int .u8 (L[j]?.getD 0))) :
    CallsIn F n Try.prog 139 #[.slice a (32 * m) cap] w fun e w' => ∃ v, e = .returned v ∧ w'.ownsRow w.heap.size 40 32 v m (L.map (Value.int .u8)) ∧ Below w.heap.size w w' := by
  have h1 : 1 ≤ n := by omega
  obtain ⟨i0, z0, hi0, hz0, hz1, hs0, hb0⟩ := info_partsB
  have eq : IntKind.i64.wrap (((32 * m : Nat) : Int).tdiv 32) = (m : Int) := by rw [Int.tdiv_eq_ediv_of_nonneg (by omega), IntKind.wrap_i64]; omega
  have HC := Lib.hid hc
  have HCap := Lib.hid hcap
  clear hc hcap
  generalize hN : 32 * m = N at *
  refine callsIn_of_wp_marks Try.func139 rfl hF ?_ hro
  simp only [Try.ntmps139, List.size_toArray, List.length_cons, List.length_nil, Nat.reduceAdd, Nat.reduceSub, Array.replicate_succ, Array.replicate_zero, List.push_toArray, List.append_toArray, List.nil_append, List.cons_append]
  gi_wp2_with (first | (refine wpListIn_make_own _ rfl _ _ 65 rfl w.heap.size 40 i0 z0 32 Try.underlying65 hi0 hz0 hs0 .i64 .i64 ((N : Int) / 32) m rfl rfl (by omega) (by rw [hb0]; omega) (by simp only [maxLen]; omega) (Nat.le_refl _) ?_; intro w1 hown hgrow) | (gi_at_call 148; refine (chunkf_in F (n - 1) hF1 hro _ _ _ _).mono ?_; rintro e w' ⟨rfl, rfl⟩))
  have hs1 : w.heap.size ≤ w1.heap.size := hgrow.size
  have bO := ((Boxed.new w1 65 (.slice (some ⟨w.heap.size, 0, none⟩) 0 m)).alloc (.cells #[.slice a N cap] 41)).alloc (.cells #[.int .i64 32] 3)
  have bS := (Boxed.new (w1.alloc (.cells #[.slice (some ⟨w.heap.size, 0, none⟩) 0 m] 65)) 41 (.slice a N cap)).alloc (.cells #[.int .i64 32] 3)
  have bI := Boxed.new ((w1.alloc (.cells #[.slice (some ⟨w.heap.size, 0, none⟩) 0 m] 65)).alloc (.cells #[.slice a N cap] 41)) 3 (.int .i64 32)
  rw [World.size_alloc] at bS
  rw [World.size_alloc, World.size_alloc] at bI
  have hB0 : Below w.heap.size w (((w1.alloc (.cells #[.slice (some ⟨w.heap.size, 0, none⟩) 0 m] 65)).alloc (.cells #[.slice a N cap] 41)).alloc (.cells #[.int .i64 32] 3)) :=
    ((((Below.refl _ w).grown hgrow (Nat.le_refl _) (fun k e => by cases e)).alloc hs1 _).alloc (by simp; omega) _).alloc (by simp; omega) _
  have hrow0 := ((hown.alloc (.cells #[.slice (some ⟨w.heap.size, 0, none⟩) 0 m] 65)).alloc (.cells #[.slice a N cap] 41)).alloc (.cells #[.int .i64 32] 3)
  obtain ⟨W0, hW0⟩ : ∃ W0, ((w1.alloc (.cells #[.slice (some ⟨w.heap.size, 0, none⟩) 0 m] 65)).alloc (.cells #[.slice a N cap] 41)).alloc (.cells #[.int .i64 32] 3) = W0 := ⟨_, rfl⟩
  have hsz : W0.heap.size = w1.heap.size + 3 := by rw [← hW0]; simp
  rw [hW0] at hB0 hrow0 bO bS bI ⊢
  have hseq := chunk_stops F (n - 1) hF2 hro (by omega) (w1.heap.size + 1) w.heap.size a b off m cap hm ha (by rw [hN]; exact HCap.out) hcap2 W0 (by omega) (by rw [hN]; exact bS.cell) bI.cell
  have hI0 : (∃ v, Boxed W0 w1.heap.size 65 v ∧ W0.ownsRow w.heap.size 40 32 v ([] : List (Fin m)).length ((preL L ([] : List (Fin m))).map (Value.int .u8)) ∧ True) ∧ Below w.heap.size w W0 := ⟨⟨_, bO, hrow0, trivial⟩, hB0⟩
  have hKb : ∀ (W : World) (l : Nat) (o o' : Obj), W0.heap.size ≤ l → W.heap[l]? = some o → o.isCells = false → o.isWalk = false → KeepC w.heap.size (w1.heap.size + 1) W (W.putObj l o') := KeepC.put (by omega) (by omega)
  have hO1 : Own (fun (pre : List (Fin m)) (W : World) => ∃ v, Boxed W w1.heap.size 65 v ∧ W.ownsRow w.heap.size 40 32 v pre.length ((preL L pre).map (Value.int .u8)) ∧ True) := by
    exact holdsRow_own (β := List (Fin m)) w.heap.size w1.heap.size 65 40 32 (fun pre : List (Fin m) => pre.length) (fun pre : List (Fin m) => (preL L pre).map (Value.int .u8)) (fun (_ : List (Fin m)) (_ : Value) => True)
  have hO2 : OwnFrom W0.heap.size (fun (_ : List (Fin m)) W => Below w.heap.size w W) := ownFrom_below (Nat.le_refl _) (by omega)
  have hO3 : OwnFrom W0.heap.size (fun (_ : List (Fin m)) W => Boxed W (w1.heap.size + 1) 41 (.slice a N cap)) := Own.from (boxed_own (w1.heap.size + 1) 41 (fun _ => .slice a N cap)) _
  have hO4 : OwnFrom W0.heap.size (fun (_ : List (Fin m)) W => Boxed W (w1.heap.size + 1 + 1) 3 (.int .i64 32)) := Own.from (boxed_own (w1.heap.size + 1 + 1) 3 (fun _ => .int .i64 32)) _
  have hOw := OwnFrom.and (OwnFrom.and (Own.from hO1 W0.heap.size) hO2) (OwnFrom.and hO3 hO4)
  refine wpIn_rangeFunc_ownG hro h1 (gf := 150) (lb := #[.pointer (some ⟨w1.heap.size + 1, 0, none⟩), .pointer (some ⟨w1.heap.size + 1 + 1, 0, none⟩)]) rfl hF2 (enters_of Try.func150 (by kernel_rfl) rfl)
    hseq (fun h k => KeepC.trans h k) hKb (Below.refl _ _) (fun _ => rfl)
    (fun pre W => ((∃ v, Boxed W w1.heap.size 65 v ∧ W.ownsRow w.heap.size 40 32 v pre.length ((preL L pre).map (Value.int .u8)) ∧ True) ∧ Below w.heap.size w W) ∧ Boxed W (w1.heap.size + 1) 41 (.slice a N cap) ∧ Boxed W (w1.heap.size + 1 + 1) 3 (.int .i64 32))
    (fun _ _ _ => False)
    hOw
    (fun _ _ _ _ _ hs _ _ => hs)
    ⟨hI0, bS, bI⟩
    (fun x => { tmps := #[.slice a N cap, undef, .slice none 0 0, .pointer (some ⟨w1.heap.size, 0, none⟩), .slice (some ⟨b, off + 32 * x.val, none⟩) 32 32, .slice a N cap, .int .i64 (N : Int), .int .i64 ((N : Int) / 32), .slice (some ⟨w.heap.size, 0, none⟩) 0 m, .slice a N cap, .func (.func 150) #[] #[.pointer (some ⟨w1.heap.size + 1, 0, none⟩), .pointer (some ⟨w1.heap.size + 1 + 1, 0, none⟩)], .slice (some ⟨b, off + 32 * x.val, none⟩) 32 32, undef, undef, undef, undef, undef, undef, undef], defers := [] }) ?assign ?body ?done ?stop
  case assign =>
    intro l x W K hK
    gi_wp2
    exact hK
  case body =>
    rintro l pre x W ⟨⟨⟨v, hv, hrow, _⟩, hB⟩, hS, hI⟩ hlt
    have hc := hv.cell
    have hf := hv.frozen
    have hxm := x.isLt
    have Hrg := Lib.hid (keyAt_rangeAt (w := W) (b := b) (off := off) (hL.trans hN.symm) (fun j hj => by rw [hB.cell (p := ⟨b, off + j, none⟩) (by simp only []; omega)]; exact HC.out j (by omega)) x.val hxm)
    have Hkl := Lib.hid (keyAt_len (hL.trans hN.symm) hxm)
    have Hsn := Lib.hid (preL_snoc L pre x)
    have Hhv := Lib.hid hv
    have Hrow := Lib.hid hrow
    have HB := Lib.hid hB
    have HS := Lib.hid hS
    have HI := Lib.hid hI
    clear hv hrow hB hS hI hc hf
    rw [Nat.mul_comm x.val 32] at Hrg
    generalize keyAt L x.val = kk at Hrg Hkl Hsn
    generalize off + 32 * x.val = p at Hrg ⊢
    gi_wp2
    refine wpIn_region_any (by kernel_rfl) ?_
    change wpAnyIn _ _ _ _ _ _ _ _ _ W.drew
    have hc : W.drew.cell? ⟨w1.heap.size, 0, none⟩ = some v := Hhv.out.cell
    have hc2 : (W.drew.alloc (.cells (ints .u8 kk) 40)).cell? ⟨w1.heap.size, 0, none⟩ = some v := Boxed.cell (Boxed.alloc (W := W.drew) Hhv.out (.cells (ints .u8 kk) 40))
    have hc3 : (W.alloc (.cells (ints .u8 kk) 40)).cell? ⟨w1.heap.size, 0, none⟩ = some v := Boxed.cell (Boxed.alloc (W := W) Hhv.out (.cells (ints .u8 kk) 40))
    refine wpAnyIn_ready (rs := [0, 1]) (by kernel_rfl) (by simp) ?_
    refine AllReadyIn.cons rfl (fun K hK => ?_) (AllReadyIn.cons rfl (fun K hK => ?_) AllReadyIn.nil)
    · rw [if_pos (by rfl)]
      refine wpIn_value (v := v) (w1 := W.drew) (by intro c h; cases h) (by rfl) (by go_simp) ?_
      simp only [Act.put, List.setIfInBounds_toArray, List.set_cons_succ, List.set_cons_zero]
      refine hK _ _ ?_
      clear hK
      refine wpAnyIn_ready (rs := [1]) (by kernel_rfl) (by simp) ?_
      refine AllReadyIn.cons rfl (fun K hK => ?_) AllReadyIn.nil
      rw [if_pos (by rfl)]
      refine wpIn_value (v := .slice (some ⟨b, p, none⟩) 32 32) (w1 := W.drew) (by intro c h; cases h) (by rfl) (by go_simp) ?_
      simp only [Act.put, List.setIfInBounds_toArray, List.set_cons_succ, List.set_cons_zero]
      refine hK _ _ ?_
      clear hK
      refine wpAnyIn_ready (rs := [2]) (by kernel_rfl) (by simp) ?_
      refine AllReadyIn.cons rfl (fun K hK => ?_) AllReadyIn.nil
      rw [if_pos (by rfl)]
      refine wpIn_value (v := .pointer (some ⟨b, p, none⟩)) (w1 := W.drew) (by intro c h; cases h) (by rfl) (by go_simp; rw [run_arrayAt Try.underlying40 (by decide)]; rfl) ?_
      simp only [Act.put, List.setIfInBounds_toArray, List.set_cons_succ, List.set_cons_zero]
      refine hK _ _ ?_
      clear hK
      refine wpAnyIn_ready (rs := [3]) (by kernel_rfl) (by simp) ?_
      refine AllReadyIn.cons rfl (fun K hK => ?_) AllReadyIn.nil
      rw [if_pos (by rfl)]
      refine wpIn_load_ints 40 _ rfl b p rfl .u8 kk _ (Hrg.out) Try.underlying40 rfl (by rw [Hkl.out]; exact sizeA32) ?_
      simp only [Act.put, List.setIfInBounds_toArray, List.set_cons_succ, List.set_cons_zero]
      refine hK _ _ ?_
      clear hK
      refine wpAnyIn_ready (rs := [4]) (by kernel_rfl) (by simp) ?_
      refine AllReadyIn.cons rfl (fun K hK => ?_) AllReadyIn.nil
      rw [if_pos (by rfl)]
      refine wpIn_buildSlice_one 65 40 _ rfl Try.underlying65 hi0 hz0 (ints .u8 kk) rfl (by rw [ints_size, Hkl.out, hs0]) (by rw [hs0]; decide) (by rw [hs0]; decide) ?_
      simp only [Act.put, List.setIfInBounds_toArray, List.set_cons_succ, List.set_cons_zero]
      refine hK _ _ ?_
      clear hK
      refine wpAnyIn_ready (rs := [5]) (by kernel_rfl) (by simp) ?_
      refine AllReadyIn.cons rfl (fun K hK => ?_) AllReadyIn.nil
      rw [if_pos (by rfl)]
      refine wpIn_append_own _ _ _ 65 rfl w.heap.size 40 i0 z0 32 32 Try.underlying65 hi0 hz0 hs0 hb0 hz1 (by decide) v pre.length ((preL L pre).map (Value.int .u8)) rfl (Hrow.out.alloc _) ⟨W.heap.size, 0, none⟩ 1 1 (kk.map (Value.int .u8)) rfl (by rw [List.length_map, Hkl.out]) (fun j u hu => ?_) (fun u hu => ?_) (by simp only [maxLen]; omega) (by omega) (by have := HB.out.size; rw [World.size_alloc]; show w.heap.size ≤ W.heap.size + 1; omega) ?_
      · rw [addr_add]
        have hg := heap_alloc_last W.drew (.cells (ints .u8 kk) 40)
        rw [Nat.zero_add, cell_of_row _ W.heap.size j _ _ _ hg, ← hu]
        simp [ints]
      · obtain ⟨z, _, rfl⟩ := List.mem_map.1 hu
        rfl
      intro v' w2 hown' hgrow' _
      obtain ⟨g', cap', rfl⟩ := ownsRow_succ hown'
      obtain ⟨hv1, hv2, hr2, hk2, hb2⟩ := Boxed.appended (W := W.drew) Hhv.out (by decide) Hrow.out HB.out.size hs1 hown' hgrow'
      have hsv := HS.out.not_row (by decide) Hrow.out
      have hiv := HI.out.not_row (by decide) Hrow.out
      have hS2 := ((Boxed.alloc (W := W.drew) HS.out (.cells (ints .u8 kk) 40)).kept hgrow' hsv).other (B' := w1.heap.size) (by omega) (.slice (some ⟨g', 0, none⟩) (pre.length + 1) cap')
      have hI2 := ((Boxed.alloc (W := W.drew) HI.out (.cells (ints .u8 kk) 40)).kept hgrow' hiv).other (B' := w1.heap.size) (by omega) (.slice (some ⟨g', 0, none⟩) (pre.length + 1) cap')
      have hc1 := hv1.cell
      have hf1 := hv1.frozen
      simp only [Act.put, List.setIfInBounds_toArray, List.set_cons_succ, List.set_cons_zero]
      refine hK _ _ ?_
      clear hK
      refine wpAnyIn_ready (rs := [6]) (by kernel_rfl) (by simp) ?_
      refine AllReadyIn.cons rfl (fun K hK => ?_) AllReadyIn.nil
      rw [if_pos (by rfl)]
      refine wpIn_skip (w1 := w2.setCell ⟨w1.heap.size, 0, none⟩ (.slice (some ⟨g', 0, none⟩) (pre.length + 1) cap')) (by intro c h; cases h) (by rfl) (by go_simp) ?_
      simp only [Act.put, List.setIfInBounds_toArray, List.set_cons_succ, List.set_cons_zero]
      refine hK _ _ ?_
      clear hK
      refine wpAnyIn_done (by kernel_rfl) ?_ _
      refine ⟨((KeepsOthers.drew W).trans hk2).from _, ⟨(Below.refl _ W).drew.trans hb2, hS2.trans HS.out.symm, hI2.trans HI.out.symm⟩, ⟨⟨⟨_, hv2, ?_, trivial⟩, HB.out.drew.trans hb2⟩, hS2, hI2⟩⟩
      rw [Hsn.out, List.map_append, List.length_append]
      exact hr2
    · rw [if_pos (by rfl)]
      refine wpIn_value (v := .slice (some ⟨b, p, none⟩) 32 32) (w1 := W.drew) (by intro c h; cases h) (by rfl) (by go_simp) ?_
      simp only [Act.put, List.setIfInBounds_toArray, List.set_cons_succ, List.set_cons_zero]
      refine hK _ _ ?_
      clear hK
      refine wpAnyIn_ready (rs := [0, 2]) (by kernel_rfl) (by simp) ?_
      refine AllReadyIn.cons rfl (fun K hK => ?_) (AllReadyIn.cons rfl (fun K hK => ?_) AllReadyIn.nil)
      · rw [if_pos (by rfl)]
        refine wpIn_value (v := v) (w1 := W.drew) (by intro c h; cases h) (by rfl) (by go_simp) ?_
        simp only [Act.put, List.setIfInBounds_toArray, List.set_cons_succ, List.set_cons_zero]
        refine hK _ _ ?_
        clear hK
        refine wpAnyIn_ready (rs := [2]) (by kernel_rfl) (by simp) ?_
        refine AllReadyIn.cons rfl (fun K hK => ?_) AllReadyIn.nil
        rw [if_pos (by rfl)]
        refine wpIn_value (v := .pointer (some ⟨b, p, none⟩)) (w1 := W.drew) (by intro c h; cases h) (by rfl) (by go_simp; rw [run_arrayAt Try.underlying40 (by decide)]; rfl) ?_
        simp only [Act.put, List.setIfInBounds_toArray, List.set_cons_succ, List.set_cons_zero]
        refine hK _ _ ?_
        clear hK
        refine wpAnyIn_ready (rs := [3]) (by kernel_rfl) (by simp) ?_
        refine AllReadyIn.cons rfl (fun K hK => ?_) AllReadyIn.nil
        rw [if_pos (by rfl)]
        refine wpIn_load_ints 40 _ rfl b p rfl .u8 kk _ (Hrg.out) Try.underlying40 rfl (by rw [Hkl.out]; exact sizeA32) ?_
        simp only [Act.put, List.setIfInBounds_toArray, List.set_cons_succ, List.set_cons_zero]
        refine hK _ _ ?_
        clear hK
        refine wpAnyIn_ready (rs := [4]) (by kernel_rfl) (by simp) ?_
        refine AllReadyIn.cons rfl (fun K hK => ?_) AllReadyIn.nil
        rw [if_pos (by rfl)]
        refine wpIn_buildSlice_one 65 40 _ rfl Try.underlying65 hi0 hz0 (ints .u8 kk) rfl (by rw [ints_size, Hkl.out, hs0]) (by rw [hs0]; decide) (by rw [hs0]; decide) ?_
        simp only [Act.put, List.setIfInBounds_toArray, List.set_cons_succ, List.set_cons_zero]
        refine hK _ _ ?_
        clear hK
        refine wpAnyIn_ready (rs := [5]) (by kernel_rfl) (by simp) ?_
        refine AllReadyIn.cons rfl (fun K hK => ?_) AllReadyIn.nil
        rw [if_pos (by rfl)]
        refine wpIn_append_own _ _ _ 65 rfl w.heap.size 40 i0 z0 32 32 Try.underlying65 hi0 hz0 hs0 hb0 hz1 (by decide) v pre.length ((preL L pre).map (Value.int .u8)) rfl (Hrow.out.alloc _) ⟨W.heap.size, 0, none⟩ 1 1 (kk.map (Value.int .u8)) rfl (by rw [List.length_map, Hkl.out]) (fun j u hu => ?_) (fun u hu => ?_) (by simp only [maxLen]; omega) (by omega) (by have := HB.out.size; rw [World.size_alloc]; show w.heap.size ≤ W.heap.size + 1; omega) ?_
        · rw [addr_add]
          have hg := heap_alloc_last W.drew (.cells (ints .u8 kk) 40)
          rw [Nat.zero_add, cell_of_row _ W.heap.size j _ _ _ hg, ← hu]
          simp [ints]
        · obtain ⟨z, _, rfl⟩ := List.mem_map.1 hu
          rfl
        intro v' w2 hown' hgrow' _
        obtain ⟨g', cap', rfl⟩ := ownsRow_succ hown'
        obtain ⟨hv1, hv2, hr2, hk2, hb2⟩ := Boxed.appended (W := W.drew) Hhv.out (by decide) Hrow.out HB.out.size hs1 hown' hgrow'
        have hsv := HS.out.not_row (by decide) Hrow.out
        have hiv := HI.out.not_row (by decide) Hrow.out
        have hS2 := ((Boxed.alloc (W := W.drew) HS.out (.cells (ints .u8 kk) 40)).kept hgrow' hsv).other (B' := w1.heap.size) (by omega) (.slice (some ⟨g', 0, none⟩) (pre.length + 1) cap')
        have hI2 := ((Boxed.alloc (W := W.drew) HI.out (.cells (ints .u8 kk) 40)).kept hgrow' hiv).other (B' := w1.heap.size) (by omega) (.slice (some ⟨g', 0, none⟩) (pre.length + 1) cap')
        have hc1 := hv1.cell
        have hf1 := hv1.frozen
        simp only [Act.put, List.setIfInBounds_toArray, List.set_cons_succ, List.set_cons_zero]
        refine hK _ _ ?_
        clear hK
        refine wpAnyIn_ready (rs := [6]) (by kernel_rfl) (by simp) ?_
        refine AllReadyIn.cons rfl (fun K hK => ?_) AllReadyIn.nil
        rw [if_pos (by rfl)]
        refine wpIn_skip (w1 := w2.setCell ⟨w1.heap.size, 0, none⟩ (.slice (some ⟨g', 0, none⟩) (pre.length + 1) cap')) (by intro c h; cases h) (by rfl) (by go_simp) ?_
        simp only [Act.put, List.setIfInBounds_toArray, List.set_cons_succ, List.set_cons_zero]
        refine hK _ _ ?_
        clear hK
        refine wpAnyIn_done (by kernel_rfl) ?_ _
        refine ⟨((KeepsOthers.drew W).trans hk2).from _, ⟨(Below.refl _ W).drew.trans hb2, hS2.trans HS.out.symm, hI2.trans HI.out.symm⟩, ⟨⟨⟨_, hv2, ?_, trivial⟩, HB.out.drew.trans hb2⟩, hS2, hI2⟩⟩
        rw [Hsn.out, List.map_append, List.length_append]
        exact hr2
      · rw [if_pos (by rfl)]
        refine wpIn_value (v := .pointer (some ⟨b, p, none⟩)) (w1 := W.drew) (by intro c h; cases h) (by rfl) (by go_simp; rw [run_arrayAt Try.underlying40 (by decide)]; rfl) ?_
        simp only [Act.put, List.setIfInBounds_toArray, List.set_cons_succ, List.set_cons_zero]
        refine hK _ _ ?_
        clear hK
        refine wpAnyIn_ready (rs := [0, 3]) (by kernel_rfl) (by simp) ?_
        refine AllReadyIn.cons rfl (fun K hK => ?_) (AllReadyIn.cons rfl (fun K hK => ?_) AllReadyIn.nil)
        · rw [if_pos (by rfl)]
          refine wpIn_value (v := v) (w1 := W.drew) (by intro c h; cases h) (by rfl) (by go_simp) ?_
          simp only [Act.put, List.setIfInBounds_toArray, List.set_cons_succ, List.set_cons_zero]
          refine hK _ _ ?_
          clear hK
          refine wpAnyIn_ready (rs := [3]) (by kernel_rfl) (by simp) ?_
          refine AllReadyIn.cons rfl (fun K hK => ?_) AllReadyIn.nil
          rw [if_pos (by rfl)]
          refine wpIn_load_ints 40 _ rfl b p rfl .u8 kk _ (Hrg.out) Try.underlying40 rfl (by rw [Hkl.out]; exact sizeA32) ?_
          simp only [Act.put, List.setIfInBounds_toArray, List.set_cons_succ, List.set_cons_zero]
          refine hK _ _ ?_
          clear hK
          refine wpAnyIn_ready (rs := [4]) (by kernel_rfl) (by simp) ?_
          refine AllReadyIn.cons rfl (fun K hK => ?_) AllReadyIn.nil
          rw [if_pos (by rfl)]
          refine wpIn_buildSlice_one 65 40 _ rfl Try.underlying65 hi0 hz0 (ints .u8 kk) rfl (by rw [ints_size, Hkl.out, hs0]) (by rw [hs0]; decide) (by rw [hs0]; decide) ?_
          simp only [Act.put, List.setIfInBounds_toArray, List.set_cons_succ, List.set_cons_zero]
          refine hK _ _ ?_
          clear hK
          refine wpAnyIn_ready (rs := [5]) (by kernel_rfl) (by simp) ?_
          refine AllReadyIn.cons rfl (fun K hK => ?_) AllReadyIn.nil
          rw [if_pos (by rfl)]
          refine wpIn_append_own _ _ _ 65 rfl w.heap.size 40 i0 z0 32 32 Try.underlying65 hi0 hz0 hs0 hb0 hz1 (by decide) v pre.length ((preL L pre).map (Value.int .u8)) rfl (Hrow.out.alloc _) ⟨W.heap.size, 0, none⟩ 1 1 (kk.map (Value.int .u8)) rfl (by rw [List.length_map, Hkl.out]) (fun j u hu => ?_) (fun u hu => ?_) (by simp only [maxLen]; omega) (by omega) (by have := HB.out.size; rw [World.size_alloc]; show w.heap.size ≤ W.heap.size + 1; omega) ?_
          · rw [addr_add]
            have hg := heap_alloc_last W.drew (.cells (ints .u8 kk) 40)
            rw [Nat.zero_add, cell_of_row _ W.heap.size j _ _ _ hg, ← hu]
            simp [ints]
          · obtain ⟨z, _, rfl⟩ := List.mem_map.1 hu
            rfl
          intro v' w2 hown' hgrow' _
          obtain ⟨g', cap', rfl⟩ := ownsRow_succ hown'
          obtain ⟨hv1, hv2, hr2, hk2, hb2⟩ := Boxed.appended (W := W.drew) Hhv.out (by decide) Hrow.out HB.out.size hs1 hown' hgrow'
          have hsv := HS.out.not_row (by decide) Hrow.out
          have hiv := HI.out.not_row (by decide) Hrow.out
          have hS2 := ((Boxed.alloc (W := W.drew) HS.out (.cells (ints .u8 kk) 40)).kept hgrow' hsv).other (B' := w1.heap.size) (by omega) (.slice (some ⟨g', 0, none⟩) (pre.length + 1) cap')
          have hI2 := ((Boxed.alloc (W := W.drew) HI.out (.cells (ints .u8 kk) 40)).kept hgrow' hiv).other (B' := w1.heap.size) (by omega) (.slice (some ⟨g', 0, none⟩) (pre.length + 1) cap')
          have hc1 := hv1.cell
          have hf1 := hv1.frozen
          simp only [Act.put, List.setIfInBounds_toArray, List.set_cons_succ, List.set_cons_zero]
          refine hK _ _ ?_
          clear hK
          refine wpAnyIn_ready (rs := [6]) (by kernel_rfl) (by simp) ?_
          refine AllReadyIn.cons rfl (fun K hK => ?_) AllReadyIn.nil
          rw [if_pos (by rfl)]
          refine wpIn_skip (w1 := w2.setCell ⟨w1.heap.size, 0, none⟩ (.slice (some ⟨g', 0, none⟩) (pre.length + 1) cap')) (by intro c h; cases h) (by rfl) (by go_simp) ?_
          simp only [Act.put, List.setIfInBounds_toArray, List.set_cons_succ, List.set_cons_zero]
          refine hK _ _ ?_
          clear hK
          refine wpAnyIn_done (by kernel_rfl) ?_ _
          refine ⟨((KeepsOthers.drew W).trans hk2).from _, ⟨(Below.refl _ W).drew.trans hb2, hS2.trans HS.out.symm, hI2.trans HI.out.symm⟩, ⟨⟨⟨_, hv2, ?_, trivial⟩, HB.out.drew.trans hb2⟩, hS2, hI2⟩⟩
          rw [Hsn.out, List.map_append, List.length_append]
          exact hr2
        · rw [if_pos (by rfl)]
          refine wpIn_load_ints 40 _ rfl b p rfl .u8 kk _ (Hrg.out) Try.underlying40 rfl (by rw [Hkl.out]; exact sizeA32) ?_
          simp only [Act.put, List.setIfInBounds_toArray, List.set_cons_succ, List.set_cons_zero]
          refine hK _ _ ?_
          clear hK
          refine wpAnyIn_ready (rs := [0, 4]) (by kernel_rfl) (by simp) ?_
          refine AllReadyIn.cons rfl (fun K hK => ?_) (AllReadyIn.cons rfl (fun K hK => ?_) AllReadyIn.nil)
          · rw [if_pos (by rfl)]
            refine wpIn_value (v := v) (w1 := W.drew) (by intro c h; cases h) (by rfl) (by go_simp) ?_
            simp only [Act.put, List.setIfInBounds_toArray, List.set_cons_succ, List.set_cons_zero]
            refine hK _ _ ?_
            clear hK
            refine wpAnyIn_ready (rs := [4]) (by kernel_rfl) (by simp) ?_
            refine AllReadyIn.cons rfl (fun K hK => ?_) AllReadyIn.nil
            rw [if_pos (by rfl)]
            refine wpIn_buildSlice_one 65 40 _ rfl Try.underlying65 hi0 hz0 (ints .u8 kk) rfl (by rw [ints_size, Hkl.out, hs0]) (by rw [hs0]; decide) (by rw [hs0]; decide) ?_
            simp only [Act.put, List.setIfInBounds_toArray, List.set_cons_succ, List.set_cons_zero]
            refine hK _ _ ?_
            clear hK
            refine wpAnyIn_ready (rs := [5]) (by kernel_rfl) (by simp) ?_
            refine AllReadyIn.cons rfl (fun K hK => ?_) AllReadyIn.nil
            rw [if_pos (by rfl)]
            refine wpIn_append_own _ _ _ 65 rfl w.heap.size 40 i0 z0 32 32 Try.underlying65 hi0 hz0 hs0 hb0 hz1 (by decide) v pre.length ((preL L pre).map (Value.int .u8)) rfl (Hrow.out.alloc _) ⟨W.heap.size, 0, none⟩ 1 1 (kk.map (Value.int .u8)) rfl (by rw [List.length_map, Hkl.out]) (fun j u hu => ?_) (fun u hu => ?_) (by simp only [maxLen]; omega) (by omega) (by have := HB.out.size; rw [World.size_alloc]; show w.heap.size ≤ W.heap.size + 1; omega) ?_
            · rw [addr_add]
              have hg := heap_alloc_last W.drew (.cells (ints .u8 kk) 40)
              rw [Nat.zero_add, cell_of_row _ W.heap.size j _ _ _ hg, ← hu]
              simp [ints]
            · obtain ⟨z, _, rfl⟩ := List.mem_map.1 hu
              rfl
            intro v' w2 hown' hgrow' _
            obtain ⟨g', cap', rfl⟩ := ownsRow_succ hown'
            obtain ⟨hv1, hv2, hr2, hk2, hb2⟩ := Boxed.appended (W := W.drew) Hhv.out (by decide) Hrow.out HB.out.size hs1 hown' hgrow'
            have hsv := HS.out.not_row (by decide) Hrow.out
            have hiv := HI.out.not_row (by decide) Hrow.out
            have hS2 := ((Boxed.alloc (W := W.drew) HS.out (.cells (ints .u8 kk) 40)).kept hgrow' hsv).other (B' := w1.heap.size) (by omega) (.slice (some ⟨g', 0, none⟩) (pre.length + 1) cap')
            have hI2 := ((Boxed.alloc (W := W.drew) HI.out (.cells (ints .u8 kk) 40)).kept hgrow' hiv).other (B' := w1.heap.size) (by omega) (.slice (some ⟨g', 0, none⟩) (pre.length + 1) cap')
            have hc1 := hv1.cell
            have hf1 := hv1.frozen
            simp only [Act.put, List.setIfInBounds_toArray, List.set_cons_succ, List.set_cons_zero]
            refine hK _ _ ?_
            clear hK
            refine wpAnyIn_ready (rs := [6]) (by kernel_rfl) (by simp) ?_
            refine AllReadyIn.cons rfl (fun K hK => ?_) AllReadyIn.nil
            rw [if_pos (by rfl)]
            refine wpIn_skip (w1 := w2.setCell ⟨w1.heap.size, 0, none⟩ (.slice (some ⟨g', 0, none⟩) (pre.length + 1) cap')) (by intro c h; cases h) (by rfl) (by go_simp) ?_
            simp only [Act.put, List.setIfInBounds_toArray, List.set_cons_succ, List.set_cons_zero]
            refine hK _ _ ?_
            clear hK
            refine wpAnyIn_done (by kernel_rfl) ?_ _
            refine ⟨((KeepsOthers.drew W).trans hk2).from _, ⟨(Below.refl _ W).drew.trans hb2, hS2.trans HS.out.symm, hI2.trans HI.out.symm⟩, ⟨⟨⟨_, hv2, ?_, trivial⟩, HB.out.drew.trans hb2⟩, hS2, hI2⟩⟩
            rw [Hsn.out, List.map_append, List.length_append]
            exact hr2
          · rw [if_pos (by rfl)]
            refine wpIn_buildSlice_one 65 40 _ rfl Try.underlying65 hi0 hz0 (ints .u8 kk) rfl (by rw [ints_size, Hkl.out, hs0]) (by rw [hs0]; decide) (by rw [hs0]; decide) ?_
            simp only [Act.put, List.setIfInBounds_toArray, List.set_cons_succ, List.set_cons_zero]
            refine hK _ _ ?_
            clear hK
            refine wpAnyIn_ready (rs := [0]) (by kernel_rfl) (by simp) ?_
            refine AllReadyIn.cons rfl (fun K hK => ?_) AllReadyIn.nil
            rw [if_pos (by rfl)]
            refine wpIn_value (v := v) (w1 := W.drew.alloc (.cells (ints .u8 kk) 40)) (by intro c h; cases h) (by rfl) (by go_simp) ?_
            simp only [Act.put, List.setIfInBounds_toArray, List.set_cons_succ, List.set_cons_zero]
            refine hK _ _ ?_
            clear hK
            refine wpAnyIn_ready (rs := [5]) (by kernel_rfl) (by simp) ?_
            refine AllReadyIn.cons rfl (fun K hK => ?_) AllReadyIn.nil
            rw [if_pos (by rfl)]
            refine wpIn_append_own _ _ _ 65 rfl w.heap.size 40 i0 z0 32 32 Try.underlying65 hi0 hz0 hs0 hb0 hz1 (by decide) v pre.length ((preL L pre).map (Value.int .u8)) rfl (Hrow.out.alloc _) ⟨W.heap.size, 0, none⟩ 1 1 (kk.map (Value.int .u8)) rfl (by rw [List.length_map, Hkl.out]) (fun j u hu => ?_) (fun u hu => ?_) (by simp only [maxLen]; omega) (by omega) (by have := HB.out.size; rw [World.size_alloc]; show w.heap.size ≤ W.heap.size + 1; omega) ?_
            · rw [addr_add]
              have hg := heap_alloc_last W.drew (.cells (ints .u8 kk) 40)
              rw [Nat.zero_add, cell_of_row _ W.heap.size j _ _ _ hg, ← hu]
              simp [ints]
            · obtain ⟨z, _, rfl⟩ := List.mem_map.1 hu
              rfl
            intro v' w2 hown' hgrow' _
            obtain ⟨g', cap', rfl⟩ := ownsRow_succ hown'
            obtain ⟨hv1, hv2, hr2, hk2, hb2⟩ := Boxed.appended (W := W.drew) Hhv.out (by decide) Hrow.out HB.out.size hs1 hown' hgrow'
            have hsv := HS.out.not_row (by decide) Hrow.out
            have hiv := HI.out.not_row (by decide) Hrow.out
            have hS2 := ((Boxed.alloc (W := W.drew) HS.out (.cells (ints .u8 kk) 40)).kept hgrow' hsv).other (B' := w1.heap.size) (by omega) (.slice (some ⟨g', 0, none⟩) (pre.length + 1) cap')
            have hI2 := ((Boxed.alloc (W := W.drew) HI.out (.cells (ints .u8 kk) 40)).kept hgrow' hiv).other (B' := w1.heap.size) (by omega) (.slice (some ⟨g', 0, none⟩) (pre.length + 1) cap')
            have hc1 := hv1.cell
            have hf1 := hv1.frozen
            simp only [Act.put, List.setIfInBounds_toArray, List.set_cons_succ, List.set_cons_zero]
            refine hK _ _ ?_
            clear hK
            refine wpAnyIn_ready (rs := [6]) (by kernel_rfl) (by simp) ?_
            refine AllReadyIn.cons rfl (fun K hK => ?_) AllReadyIn.nil
            rw [if_pos (by rfl)]
            refine wpIn_skip (w1 := w2.setCell ⟨w1.heap.size, 0, none⟩ (.slice (some ⟨g', 0, none⟩) (pre.length + 1) cap')) (by intro c h; cases h) (by rfl) (by go_simp) ?_
            simp only [Act.put, List.setIfInBounds_toArray, List.set_cons_succ, List.set_cons_zero]
            refine hK _ _ ?_
            clear hK
            refine wpAnyIn_done (by kernel_rfl) ?_ _
            refine ⟨((KeepsOthers.drew W).trans hk2).from _, ⟨(Below.refl _ W).drew.trans hb2, hS2.trans HS.out.symm, hI2.trans HI.out.symm⟩, ⟨⟨⟨_, hv2, ?_, trivial⟩, HB.out.drew.trans hb2⟩, hS2, hI2⟩⟩
            rw [Hsn.out, List.map_append, List.length_append]
            exact hr2
  case done =>
    rintro D ys W hD rfl ⟨⟨⟨v, hv, hrow, _⟩, hB⟩, hS, hI⟩ hK
    have hc := hv.cell
    gi_wp2
    refine ⟨by simp, .inl ⟨_, _, rfl, run_takeDeferred hK, ?_⟩⟩
    rw [preL_all (hL.trans hN.symm), List.length_finRange] at hrow
    have hsz' := hsz
    exact ⟨_, results_tmp rfl _ _ _, v, rfl, ownsRow_putObj hrow _ hK rfl, hB.trans (belowK_b (w := w) (Nat.le_refl _) W D _ _ (by omega) hK rfl rfl)⟩
  case stop =>
    rintro D c pre W _ _ h _
    exact h.elim
theorem RdK.owned {w : World} {base : Nat} {v : Value} {m : Nat} {L : List Int} {t : TypeId} (hl : L.length = 32 * m) (h : w.ownsRow base t 32 v m (L.map (Value.int .u8))) : ∃ a cap, v = .slice a m cap ∧ RdK w a m L := by
  obtain ⟨h1, h2⟩ := h
  rcases h2 with ⟨rfl, rfl⟩ | ⟨g, cap, cur, rfl, hb, hg, hc, hm, hs, ht⟩
  · exact ⟨none, 0, rfl, hl, Or.inl rfl⟩
  · refine ⟨_, cap, rfl, hl, Or.inr ⟨g, 0, rfl, (Array.getElem?_eq_some_iff.1 hg).1, fun j hj => ?_⟩⟩
    rw [Nat.zero_add, cell_of_row w g j _ _ _ hg]
    have : (cur.toList.take (m * 32))[j]? = (L.map (Value.int .u8))[j]? := by rw [ht]
    rw [List.getElem?_take_of_lt (by omega), List.getElem?_map, List.getElem?_eq_getElem (l := L) (by omega)] at this
    rw [List.getElem?_eq_getElem (l := L) (by omega)]
    simpa using this
theorem blocks_impl (a : Option Addr) (b off m cap : Nat) (L : List Int) (hm : m ≤ 1048576) (ha : m = 0 ∨ a = some ⟨b, off, none⟩) (hcap : 32 * m ≤ cap) (hcap2 : cap ≤ maxLen) (hL : L.length = 32 * m) (w : World)
    (hb : m = 0 ∨ b < w.heap.size) (hc : ∀ j, j < 32 * m → w.cell? ⟨b, off + j, none⟩ = some (.int .u8 (L[j]?.getD 0))) :
    Calls Try.prog 139 #[.slice a (32 * m) cap] w fun e w' => ∃ v, e = .returned v ∧ w'.ownsRow w.heap.size 40 32 v m (L.map (Value.int .u8)) ∧ Below w.heap.size w w' :=
  callsIn_wide.1 (blocks_in Fence.wide 3 trivial trivial trivial rfl (Nat.le_refl _) a b off m cap L hm ha hcap hcap2 hL w hb hc)
end Go.Proofs.Ytdoelmjaongjfaa
