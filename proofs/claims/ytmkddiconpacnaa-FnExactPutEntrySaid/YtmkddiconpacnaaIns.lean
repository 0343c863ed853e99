/- slices.Insert of one entry, by the program. Written by wip/gen/src.py. -/
import Derived.Test.YtmkddiconpacnaaDel
import Derived.Test.YtmkddiconpacnaaNodT
import Derived.Shelf.Spec.SlicesInsertGrow
import Derived.Lib.Overlaps
namespace Go.Proofs.Ytmkddiconpacnaa
open Go.ChangeShapes Go.WideShapes Go.ChangeAt Go.RowKit
set_option linter.unusedVariables false
set_option linter.unusedSimpArgs false
theorem run_copy_n {P : Program} (w : World) (dT sT ty elem : TypeId) (sz b o dLen dCap : Nat) (a : Addr) (sLen sCap : Nat) (cs : List Value)
    (hu : P.underlying dT = some (.slice elem)) (hs : (P.info? elem).map (·.size) = some sz) (hn : cs.length = Nat.min sLen dLen * sz)
    (hsrc : ∀ j v, cs[j]? = some v → w.cell? (a.add j) = some v) (hc : ∀ j, j < cs.length → (w.cell? ⟨b, o + j, none⟩).isSome = true) (hf : ∀ j, j < cs.length → w.frozen? ⟨b, o + j, none⟩ = false) (h1 : ∀ v ∈ cs, v.oneCell' = true) :
    (Builtin.copy_ #[dT, sT] ty #[.slice (some ⟨b, o, none⟩) dLen dCap, .slice (some a) sLen sCap]).run P w = .ok (goInt (Nat.min sLen dLen)) (w.setCells b o cs) := by
  have hl := run_loadCells_list (P := P) w a cs hsrc
  have hst := run_storeCells_cells (P := P) b o cs 0 w (by simpa using hc) (by simpa using hf) h1
  cases hq : P.info? elem with
  | none => simp [hq] at hs
  | some i =>
    have hi : i.size = sz := by simpa [hq] using hs
    simp [Builtin.copy_, run_underlying hu, Builtin.lenOf, Builtin.firstCells, sizeOf, typeInfo, hq, hi, ← hn, hl, hst]
/-- The row with an entry put in at a place. -/
def insF (p : Nat) (nm vl : ByteArray) (f : Nat → Value) (j : Nat) : Value := if j < 2 * p then f j else if j = 2 * p then .string nm else if j = 2 * p + 1 then .string vl else f (j - 2)
def IsRow2 (w : World) (base : Nat) (v : Value) (n : Nat) (F : Nat → Value) : Prop :=
  ∃ g cap G, v = .slice (some ⟨g, 0, none⟩) n cap ∧ w.rowIs g 31 (cap * 2) G ∧ base ≤ g ∧ n ≤ cap ∧ cap ≤ maxLen ∧ ∀ j, j < n * 2 → G j = F j
theorem someV {l : List Value} {k : Nat} (h : k < l.length) : l[k]? = some (l[k]?.getD default) := by rw [List.getElem?_eq_getElem h]; rfl
set_option maxRecDepth 100000 in
set_option maxHeartbeats 4000000 in
/-- There is room, the place lies ahead of the end. -/
theorem ins_room (g p n cap base vb : Nat) (f : Nat → Value) (nm vl : ByteArray) (w : World) (hg : w.rowIs g 31 (cap * 2) f) (ho : ∀ j, j < n * 2 → (f j).oneCell' = true) (hb : base ≤ g) (hm : cap ≤ maxLen) (hp : p < n) (hr : n + 1 ≤ cap)
    (hv : w.heap[vb]? = some (.cells #[.string nm, .string vl] 31)) (hne : vb ≠ g) :
    Calls Try.prog 117 #[.slice (some ⟨g, 0, none⟩) n cap, .int .i64 (p : Nat), .slice (some ⟨vb, 0, none⟩) 1 1] w fun e w' => ∃ v, e = .returned v ∧ IsRow2 w' base v (n + 1) (insF p nm vl f) ∧ Below base w w' := by
  unfold maxLen at hm
  obtain ⟨i0, z0, hi0, hz1, hzc, hzv⟩ := entParts2
  have hsz : (Try.prog.info? 31).map (·.size) = some 2 := by rw [hi0]; simp [hz1]
  have hsr : ∀ w, (Go.sizeOf 31).run Try.prog w = .ok 2 w := fun w => by simp [sizeOf, typeInfo, hi0, hz1]
  obtain ⟨cg, hgg, hgs, hgc⟩ := hg
  have hov : ∀ lb cb, (callFunc 139 #[.slice (some ⟨vb, 0, none⟩) 1 1, .slice (some ⟨g, (p + 1) * 2, none⟩) lb cb]).run Try.prog w = .ok (.value (.bool false)) w := fun lb cb => by
    rw [run_callFunc_extern Try.func139 (by kernel_rfl) (by kernel_rfl) (by kernel_rfl) (e := Extern.SlicesOverlaps.overlaps #[27, 27] #[4]) (by kernel_rfl),
      Lib.run_overlaps_apart w 27 4 31 Try.underlying27 2 hsr ⟨vb, 0, none⟩ ⟨g, (p + 1) * 2, none⟩ 1 1 lb cb hne 31 31 2 (cap * 2) (by simp [World.shape?, hv]) (by simp [World.shape?, hgg, hgs]) (by omega) (frozen_of_row w vb 0 _ _ hv) (frozen_of_row w vb 2 _ _ hv)]
    rfl
  have hg : w.rowIs g 31 (cap * 2) f := ⟨cg, hgg, hgs, hgc⟩
  obtain ⟨cs, hcs⟩ : ∃ cs, cs = (List.range ((n - p) * 2)).map (fun t => f (p * 2 + t)) := ⟨_, rfl⟩
  have hlen : cs.length = (n - p) * 2 := by rw [hcs]; simp
  have hget : ∀ t u, cs[t]? = some u → t < (n - p) * 2 ∧ u = f (p * 2 + t) := by
    intro t u h
    have h1 := (List.getElem?_eq_some_iff.1 h).1
    rw [hlen] at h1
    rw [hcs, List.getElem?_map, List.getElem?_range h1] at h
    exact ⟨h1, by simpa using h.symm⟩
  have hmin : Nat.min (n + 1 - p) (n + 1 - (p + 1)) = n - p := by show min _ _ = _; omega
  have hmin2 : Nat.min 1 (n + 1 - p) = 1 := by show min _ _ = _; omega
  have hcp1 : ∀ ty dc sc, (Builtin.copy_ #[27, 27] ty #[.slice (some ⟨g, (p + 1) * 2, none⟩) (n - p) dc, .slice (some ⟨g, p * 2, none⟩) (n + 1 - p) sc]).run Try.prog w.drew = .ok (goInt (n - p : Nat)) (w.drew.setCells g ((p + 1) * 2) cs) := fun ty dc sc => by
    have h := run_copy_n (P := Try.prog) w.drew 27 27 ty 31 2 g ((p + 1) * 2) (n + 1 - (p + 1)) dc ⟨g, p * 2, none⟩ (n + 1 - p) sc cs Try.underlying27 hsz (by rw [hlen, hmin])
      (fun j v hj => by obtain ⟨h1, rfl⟩ := hget j v hj; rw [addrE]; exact hg.drew.cell (by omega))
      (fun j hj => by rw [hlen] at hj; rw [hg.drew.cell (i := (p + 1) * 2 + j) (by omega)]; rfl) (fun j hj => hg.drew.frozen _) (fun v hv => by obtain ⟨t, ht⟩ := List.mem_iff_getElem?.1 hv; obtain ⟨h1, rfl⟩ := hget t v ht; exact ho _ (by omega))
    rw [hmin, show n + 1 - (p + 1) = n - p by omega] at h
    exact h
  have hr1 := Go.rowIs_setCells cs ((p + 1) * 2) _ _ hg.drew
  have hb1 := Go.below_setCells (B := base) (b := g) hb cs ((p + 1) * 2) _ (Below.refl base w).drew
  have hv1 := (heap_setCells_far (g := g) (g' := vb) hne cs ((p + 1) * 2) w.drew).trans hv
  obtain ⟨W1, hW1⟩ : ∃ W1, W1 = w.drew.setCells g ((p + 1) * 2) cs := ⟨_, rfl⟩
  rw [← hW1] at hr1 hb1 hv1 hcp1
  have hr2 := Go.rowIs_setCells [.string nm, .string vl] (p * 2) _ _ hr1
  have hb2 := Go.below_setCells (B := base) (b := g) hb [.string nm, .string vl] (p * 2) _ hb1
  have hcp2 : ∀ ty dc, (Builtin.copy_ #[27, 27] ty #[.slice (some ⟨g, p * 2, none⟩) (n + 1 - p) dc, .slice (some ⟨vb, 0, none⟩) 1 1]).run Try.prog W1 = .ok (goInt 1) (W1.setCells g (p * 2) [.string nm, .string vl]) := fun ty dc => by
    have h := run_copy_n (P := Try.prog) W1 27 27 ty 31 2 g (p * 2) (n + 1 - p) dc ⟨vb, 0, none⟩ 1 1 [.string nm, .string vl] Try.underlying27 hsz (by rw [hmin2]; rfl)
      (fun j v hj => by rw [addrE, Nat.zero_add, cell_of_row W1 vb j _ _ _ hv1, ← hj]; simp)
      (fun j hj => by rw [show [Value.string nm, Value.string vl].length = 2 from rfl] at hj; rw [hr1.cell (i := p * 2 + j) (by omega)]; rfl) (fun j hj => hr1.frozen _) (fun v hv => by
        rcases List.mem_cons.1 hv with rfl | hv
        · rfl
        · rcases List.mem_cons.1 hv with rfl | hv
          · rfl
          · cases hv)
    rw [hmin2] at h
    exact h
  obtain ⟨W2, hW2⟩ : ∃ W2, W2 = W1.setCells g (p * 2) [.string nm, .string vl] := ⟨_, rfl⟩
  rw [← hW2] at hr2 hb2 hcp2
  have X := Lib.hid (And.intro hr2 hb2)
  have N := Lib.hid (And.intro hcs hlen)
  have C1 := Lib.hid hcp1
  have C2 := Lib.hid hcp2
  have HB := Lib.hid hb
  have HM := Lib.hid hm
  have w1 : IntKind.i64.wrap ((p : Int) + 1) = (p : Int) + 1 := by rw [IntKind.wrap_i64]; omega
  have b1 : (0 : Int) ≤ (p : Int) + 1 := by omega
  have tn : ((p : Int) + 1).toNat = p + 1 := by omega
  have tn2 : ((n : Int) + 1).toNat = n + 1 := by omega
  have e1 : ¬ (cap = p + 1) := by omega
  have e2 : ¬ (cap = p) := by omega
  have e3 : ¬ ((p : Int) = (n : Int)) := by omega
  have e4 : ¬ ((cap : Int) < (n : Int) + 1) := by omega
  have e5 : (p : Int) + 1 ≤ (n : Int) + 1 := by omega
  have e6 : (p : Int) ≤ (n : Int) + 1 := by omega
  have e7 : (n : Int) + 1 ≤ (cap : Int) := by omega
  have e8 : p ≤ n := by omega
  have e9 : p ≤ n + 1 := by omega
  have e10 : p + 1 ≤ n + 1 := by omega
  clear hcp1 hcp2 hW1 hW2 hr1 hr2 hb1 hb2 hv1 hgg hgs hgc hget hcs hlen hg hv hmin hmin2
  go_enter Try.func117, Try.ntmps117
  go_wp2_with (simp only [hov])
  go_region_law (refine step_copy_runI rfl (.tmp 73) (.tmp 76) 27 27 rfl (.slice (some ⟨g, (p + 1) * 2, none⟩) (n - p) (cap - (p + 1))) (.slice (some ⟨g, p * 2, none⟩) (n + 1 - p) (cap - p)) (by simp [Act.eval, Act.put]) (by simp [Act.eval, Act.put]) (C1.out _ _ _) ?_)
  go_wp2_with (refine wpList_copy_runI _ rfl _ _ 27 27 rfl _ _ rfl rfl (C2.out _ _) ?_)
  go_ret
  refine ⟨_, rfl, ⟨g, cap, _, rfl, X.out.1, HB.out, by omega, by unfold maxLen; omega, fun j hj => ?_⟩, X.out.2⟩
  have N1 := N.out.1
  have N2 := N.out.2
  unfold insF
  by_cases h1 : j < 2 * p
  · rw [if_pos h1, if_neg (by omega), if_neg (by omega)]
  · rw [if_neg h1]
    by_cases h2 : j = 2 * p
    · subst h2
      rw [if_pos rfl, if_pos (by simp; omega), show 2 * p - p * 2 = 0 by omega]
      rfl
    · rw [if_neg h2]
      by_cases h3 : j = 2 * p + 1
      · subst h3
        rw [if_pos rfl, if_pos (by simp; omega), show 2 * p + 1 - p * 2 = 1 by omega]
        rfl
      · rw [if_neg h3, if_neg (by simp; omega), if_pos (by rw [N2]; omega), N1, List.getElem?_map, List.getElem?_range (by omega)]
        simp only [Option.map_some, Option.getD_some]
        congr 1
        omega
set_option maxRecDepth 100000 in
set_option maxHeartbeats 4000000 in
/-- There is no room, the place lies ahead of the end. -/
theorem ins_grow (g p n cap base vb : Nat) (f : Nat → Value) (nm vl : ByteArray) (w : World) (hg : w.rowIs g 31 (cap * 2) f) (ho : ∀ j, j < n * 2 → (f j).oneCell' = true) (hb : base ≤ w.heap.size) (hm : n ≤ 1048576) (hp : p < n) (hc : n ≤ cap) (hr : cap < n + 1)
    (hv : w.heap[vb]? = some (.cells #[.string nm, .string vl] 31)) :
    Calls Try.prog 117 #[.slice (some ⟨g, 0, none⟩) n cap, .int .i64 (p : Nat), .slice (some ⟨vb, 0, none⟩) 1 1] w fun e w' => ∃ v, e = .returned v ∧ IsRow2 w' base v (n + 1) (insF p nm vl f) ∧ Below base w w' := by
  obtain ⟨i0, z0, hi0, hz1, hzc, hzv⟩ := entParts2
  obtain ⟨i1, z1, hi1, hz0', hz1', hz2', hzs'⟩ := entParts
  rw [hi0] at hi1
  injection hi1 with hi1
  subst hi1
  have hze : z1 = z0 := by
    have := hzv w
    simp [zeroValue, typeInfo, hi0, hz0'] at this
    exact this
  subst hze
  have hsz : (Try.prog.info? 31).map (·.size) = some 2 := by rw [hi0]; simp [hz1]
  have hbw := hg.lt
  have hvw := (Array.getElem?_eq_some_iff.1 hv).1
  obtain ⟨hs, hhs⟩ : ∃ hs, hs = (List.range (p * 2)).map f := ⟨_, rfl⟩
  obtain ⟨ts, hts⟩ : ∃ ts, ts = (List.range ((n - p) * 2)).map (fun t => f (p * 2 + t)) := ⟨_, rfl⟩
  have hhl : hs.length = p * 2 := by rw [hhs]; simp
  have htl : ts.length = (n - p) * 2 := by rw [hts]; simp
  have hhg : ∀ t u, hs[t]? = some u → t < p * 2 ∧ u = f t := by
    intro t u h
    have h1 := (List.getElem?_eq_some_iff.1 h).1
    rw [hhl] at h1
    rw [hhs, List.getElem?_map, List.getElem?_range h1] at h
    exact ⟨h1, by simpa using h.symm⟩
  have htg : ∀ t u, ts[t]? = some u → t < (n - p) * 2 ∧ u = f (p * 2 + t) := by
    intro t u h
    have h1 := (List.getElem?_eq_some_iff.1 h).1
    rw [htl] at h1
    rw [hts, List.getElem?_map, List.getElem?_range h1] at h
    exact ⟨h1, by simpa using h.symm⟩
  have hold : (Builtin.firstCells i0.size p (.slice (some ⟨g, 0, none⟩) p cap)).run Try.prog w.drew = .ok hs.toArray w.drew := by
    rw [hz1]
    exact run_firstCells_some w.drew 2 p ⟨g, 0, none⟩ p cap hs hhl (fun j v hj => by
      obtain ⟨h1, rfl⟩ := hhg j v hj
      rw [addrE, Nat.zero_add]
      exact hg.drew.cell (by omega))
  have hik : p + (n + 1 - p) = n + 1 := by omega
  have hrz : ∀ ty, (Builtin.append_ #[27, 3] ty #[.slice (some ⟨g, 0, none⟩) p cap, .int .i64 ((n : Int) + 1 - (p : Int))]).run Try.prog w = .ok (.slice (some ⟨w.heap.size, 0, none⟩) (n + 1) (grownCap w (n + 1) cap 31)) (w.drew.alloc (.cells (hs.toArray ++ Builtin.zeroCells z1.cells (n + 1 - p) ++ Builtin.zeroCells z1.cells (grownCap w (n + 1) cap 31 - (n + 1))) 31)) := fun ty => by
    have h := Lib.run_append_grow_zeros w 27 3 ty 31 i0 _ .i64 .i64 Try.underlying27 Try.underlying3 hi0 hz0' (some ⟨g, 0, none⟩) p cap hs hold (n + 1 - p) (by omega) (by omega) (by omega) (by omega) (by rw [hz2']; omega) (by rw [hz2']; exact growslice_fits (by omega) (by omega))
    rw [hik] at h
    rw [show (n : Int) + 1 - (p : Int) = ((n + 1 - p : Nat) : Int) by omega]
    exact h
  have hGn : n + 1 ≤ grownCap w (n + 1) cap 31 := grownCap_ge w _ _ _
  have hGm := grownCap_le_maxLen w (n + 1) cap 31 (by unfold maxLen; omega)
  obtain ⟨G, hG⟩ : ∃ G, G = grownCap w (n + 1) cap 31 := ⟨_, rfl⟩
  rw [← hG] at hrz hGn hGm
  obtain ⟨ROW, hROW⟩ : ∃ ROW, ROW = hs.toArray ++ Builtin.zeroCells z1.cells (n + 1 - p) ++ Builtin.zeroCells z1.cells (G - (n + 1)) := ⟨_, rfl⟩
  rw [← hROW] at hrz
  have hRs : ROW.size = G * 2 := by
    rw [hROW]
    simp only [Array.size_append, List.size_toArray, hhl, size_zeroCells, hzs']
    omega
  have hRg : ∀ j, j < p * 2 → ROW[j]? = some (f j) := fun j hj => by
    rw [hROW, Array.getElem?_append_left (by simp [hhl]; omega), Array.getElem?_append_left (by simp [hhl]; omega), List.getElem?_toArray, hhs, List.getElem?_map, List.getElem?_range hj]
    rfl
  obtain ⟨W1, hW1⟩ : ∃ W1, W1 = w.drew.alloc (.cells ROW 31) := ⟨_, rfl⟩
  have hn1 : W1.heap[w.heap.size]? = some (.cells ROW 31) := by rw [hW1]; exact heap_alloc_last w.drew _
  have hr1 := rowIs_block hn1
  rw [hRs] at hr1
  have hg1 : W1.rowIs g 31 (cap * 2) f := by rw [hW1]; exact hg.drew.alloc _
  have hv1 : W1.heap[vb]? = some (.cells #[.string nm, .string vl] 31) := by rw [hW1]; exact (Below.heap_alloc w.drew _ vb hvw).trans hv
  have hb1 : Below base w W1 := by rw [hW1]; exact (Below.refl base w).drew.alloc hb _
  rw [← hW1] at hrz
  have hmin2 : Nat.min 1 (n + 1 - p) = 1 := by show min _ _ = _; omega
  have hcp1 : ∀ ty dc, (Builtin.copy_ #[27, 27] ty #[.slice (some ⟨w.heap.size, p * 2, none⟩) (n + 1 - p) dc, .slice (some ⟨vb, 0, none⟩) 1 1]).run Try.prog W1 = .ok (goInt 1) (W1.setCells w.heap.size (p * 2) [.string nm, .string vl]) := fun ty dc => by
    have h := run_copy_n (P := Try.prog) W1 27 27 ty 31 2 w.heap.size (p * 2) (n + 1 - p) dc ⟨vb, 0, none⟩ 1 1 [.string nm, .string vl] Try.underlying27 hsz (by rw [hmin2]; rfl)
      (fun j v hj => by rw [addrE, Nat.zero_add, cell_of_row W1 vb j _ _ _ hv1, ← hj]; simp)
      (fun j hj => by rw [show [Value.string nm, Value.string vl].length = 2 from rfl] at hj; rw [hr1.cell (i := p * 2 + j) (by omega)]; rfl) (fun j hj => hr1.frozen _) (fun v hv => by
        rcases List.mem_cons.1 hv with rfl | hv
        · rfl
        · rcases List.mem_cons.1 hv with rfl | hv
          · rfl
          · cases hv)
    rw [hmin2] at h
    exact h
  have hr2 := Go.rowIs_setCells [.string nm, .string vl] (p * 2) _ _ hr1
  have hb2 := Go.below_setCells (B := base) (b := w.heap.size) hb [.string nm, .string vl] (p * 2) _ hb1
  have hg2 := Go.rowIs_setCells_other (b := w.heap.size) (b' := g) (by omega) [.string nm, .string vl] (p * 2) _ hg1
  obtain ⟨W2, hW2⟩ : ∃ W2, W2 = W1.setCells w.heap.size (p * 2) [.string nm, .string vl] := ⟨_, rfl⟩
  rw [← hW2] at hr2 hb2 hcp1 hg2
  have hmin : Nat.min (n - p) (n - p) = n - p := by show min _ _ = _; omega
  have hcp2 : ∀ ty dc sc, (Builtin.copy_ #[27, 27] ty #[.slice (some ⟨w.heap.size, (p + 1) * 2, none⟩) (n - p) dc, .slice (some ⟨g, p * 2, none⟩) (n - p) sc]).run Try.prog W2.drew = .ok (goInt (n - p : Nat)) (W2.drew.setCells w.heap.size ((p + 1) * 2) ts) := fun ty dc sc => by
    have h := run_copy_n (P := Try.prog) W2.drew 27 27 ty 31 2 w.heap.size ((p + 1) * 2) (n - p) dc ⟨g, p * 2, none⟩ (n - p) sc ts Try.underlying27 hsz (by rw [htl, hmin])
      (fun j v hj => by obtain ⟨h1, rfl⟩ := htg j v hj; rw [addrE]; exact hg2.drew.cell (by omega))
      (fun j hj => by rw [htl] at hj; rw [hr2.drew.cell (i := (p + 1) * 2 + j) (by omega)]; rfl) (fun j hj => hr2.drew.frozen _) (fun v hv => by obtain ⟨t, ht⟩ := List.mem_iff_getElem?.1 hv; obtain ⟨h1, rfl⟩ := htg t v ht; exact ho _ (by omega))
    rw [hmin] at h
    exact h
  have hr3 := Go.rowIs_setCells ts ((p + 1) * 2) _ _ hr2.drew
  have hb3 := Go.below_setCells (B := base) (b := w.heap.size) hb ts ((p + 1) * 2) _ hb2.drew
  obtain ⟨W3, hW3⟩ : ∃ W3, W3 = W2.drew.setCells w.heap.size ((p + 1) * 2) ts := ⟨_, rfl⟩
  rw [← hW3] at hr3 hb3 hcp2
  have X := Lib.hid (And.intro hr3 hb3)
  have N := Lib.hid (And.intro hts htl)
  have RG := Lib.hid hRg
  have C0 := Lib.hid hrz
  have C1 := Lib.hid hcp1
  have C2 := Lib.hid hcp2
  have HB := Lib.hid hb
  have HGM := Lib.hid (And.intro hGn hGm)
  unfold maxLen at hGm
  have w1 : IntKind.i64.wrap ((p : Int) + 1) = (p : Int) + 1 := by rw [IntKind.wrap_i64]; omega
  have b1 : (0 : Int) ≤ (p : Int) + 1 := by omega
  have tn : ((p : Int) + 1).toNat = p + 1 := by omega
  have e1 : ¬ (cap = p) := by omega
  have e2 : ¬ (G = p) := by omega
  have e2' : ¬ (G = p + 1) := by omega
  have e3 : ¬ ((p : Int) = (n : Int)) := by omega
  have e4 : (cap : Int) < (n : Int) + 1 := by omega
  have e8 : p ≤ n := by omega
  have e9 : p ≤ n + 1 := by omega
  have e10 : p + 1 ≤ n + 1 := by omega
  have e11 : (p : Int) ≤ (n : Int) + 1 := by omega
  have e12 : (p : Int) + 1 ≤ (n : Int) + 1 := by omega
  have e13 : p ≤ cap := by omega
  have e14 : 0 ≤ (n : Int) + 1 - (p : Int) := by omega
  clear hcp1 hcp2 hrz hW1 hW2 hW3 hr1 hr2 hr3 hb1 hb2 hb3 hv1 hg1 hg2 hn1 htg hhg hts htl hhs hhl hg hv hmin hmin2 hold hRg hRs hROW hG hGn hik
  go_enter Try.func117, Try.ntmps117
  go_wp2_with (first
    | (at_builtin; refine Lib.wpList_append_run _ rfl _ _ _ _ rfl _ _ rfl rfl _ _ (C0.out _) ?_)
    | (refine wpList_copy_runI _ rfl _ _ 27 27 rfl _ _ rfl rfl (C1.out _ _) ?_))
  go_region_law (refine step_copy_runI rfl (.tmp 50) (.tmp 53) 27 27 rfl (.slice (some ⟨w.heap.size, (p + 1) * 2, none⟩) (n - p) (G - (p + 1))) (.slice (some ⟨g, p * 2, none⟩) (n - p) (cap - p)) (by simp [Act.eval, Act.put]) (by simp [Act.eval, Act.put]) (C2.out _ _ _) ?_)
  go_wp2
  go_ret
  refine ⟨_, rfl, ⟨w.heap.size, G, _, rfl, X.out.1, HB.out, HGM.out.1, HGM.out.2, fun j hj => ?_⟩, X.out.2⟩
  have N1 := N.out.1
  have N2 := N.out.2
  unfold insF
  by_cases h1 : j < 2 * p
  · rw [if_pos h1, if_neg (by omega), if_neg (by omega), RG.out j (by omega)]
    rfl
  · rw [if_neg h1]
    by_cases h2 : j = 2 * p
    · subst h2
      rw [if_pos rfl, if_neg (by omega), if_pos (by simp; omega), show 2 * p - p * 2 = 0 by omega]
      rfl
    · rw [if_neg h2]
      by_cases h3 : j = 2 * p + 1
      · subst h3
        rw [if_pos rfl, if_neg (by omega), if_pos (by simp; omega), show 2 * p + 1 - p * 2 = 1 by omega]
        rfl
      · rw [if_neg h3, if_pos (by rw [N2]; omega), N1, List.getElem?_map, List.getElem?_range (by omega)]
        simp only [Option.map_some, Option.getD_some]
        congr 1
        omega
end Go.Proofs.Ytmkddiconpacnaa
