/- A blob that a result owns: marked and held. Written by hand. -/
import Derived.Test.YtabepfdononppaaVs
import Derived.Test.YtabepfdononppaaEq
import Derived.Test.YtabepfdononppaaOwnB
import Derived.Laws.IdiomCopy
import Derived.Lib.LazyBuf
import Derived.Test.YtabepfdononppaaKeep
namespace Go.Proofs.Ytabepfdononppaa
open Go.ChangeShapes Go.WideShapes Go.ChangeAt Go.RowKit
set_option linter.unusedVariables false
set_option linter.unusedSimpArgs false
theorem cmp_trans3 {a b c : BlV} (h1 : cmpI (keyX a) (keyX b) < 0) (h2 : cmpI (keyX b) (keyX c) < 0) : cmpI (keyX a) (keyX c) < 0 :=
  cmpI_trans _ _ _ (by rw [(isK_keyX a).1, (isK_keyX b).1]) (by rw [(isK_keyX b).1, (isK_keyX c).1]) h1 h2
theorem stP_asc : ∀ {bs : List BlV}, (∀ (i : Nat) (x y : BlV), bs[i]? = some x → bs[i + 1]? = some y → cmpI (keyX x) (keyX y) < 0) → bs.Pairwise (fun x y => cmpI (keyX x) (keyX y) < 0)
  | [], _ => List.Pairwise.nil
  | [x], _ => List.pairwise_singleton _ _
  | x :: y :: r, h => by
    have hr := stP_asc (bs := y :: r) (fun i a b ha hb => h (i + 1) a b (by simpa using ha) (by simpa using hb))
    have h0 : cmpI (keyX x) (keyX y) < 0 := h 0 x y rfl rfl
    refine List.Pairwise.cons (fun z hz => ?_) hr
    rcases List.mem_cons.1 hz with rfl | hz
    · exact h0
    · exact cmp_trans3 h0 ((List.pairwise_cons.1 hr).1 z hz)
end Go.Proofs.Ytabepfdononppaa
namespace Go.Proofs.Ytabepfdononppaa
open Go.ChangeShapes Go.WideShapes Go.ChangeAt Go.RowKit
set_option linter.unusedVariables false
set_option linter.unusedSimpArgs false
theorem OpenP.anyKey {w : World} {base X : Nat} {v1 v2 : Value} {xs : List BlV} {ys : List Nat} {i : Nat} {x : BlV} (h : OpenP w base X v1 v2 xs ys xs.length (xs.flatMap keyX)) (hx : xs[i]? = some x) :
    ∃ kg cap, v2 = .slice (some ⟨kg, 0, none⟩) xs.length cap ∧ ∀ U, Below w.heap.size w U → U.rangeAt kg (i * 32) ((keyX x).map (Value.int .u8)) := by
  obtain ⟨h1, h2⟩ := h.row2
  have hlt := (List.getElem?_eq_some_iff.1 hx).1
  rcases h2 with ⟨_, h0⟩ | ⟨kg, cap, cur, hv, hb, hg, hc, hm, hs, ht⟩
  · omega
  · have hT : xs.flatMap keyX = (xs.take i).flatMap keyX ++ (keyX x ++ (xs.drop (i + 1)).flatMap keyX) := by
      have e : xs = xs.take i ++ (x :: xs.drop (i + 1)) := by
        rw [← (List.getElem?_eq_some_iff.1 hx).2, List.getElem_cons_drop, List.take_append_drop]
      conv => lhs; rw [e]
      rw [List.flatMap_append, List.flatMap_cons]
    have hL : ((xs.take i).flatMap keyX).length = 32 * i := by
      rw [flat_len, List.length_take]
      omega
    refine ⟨kg, cap, hv, fun U hU j v hv2 => ?_⟩
    have hj : j < 32 := by
      have := (List.getElem?_eq_some_iff.1 hv2).1
      rw [List.length_map, (isK_keyX x).1] at this
      exact this
    rw [cell_of_row U kg (i * 32 + j) _ _ _ (keep_block hg hU)]
    have h3 : (cur.toList.take (xs.length * 32))[i * 32 + j]? = some v := by
      rw [ht, hT, List.map_append, List.getElem?_append_right (by rw [List.length_map, hL]; omega), List.length_map, hL, show i * 32 + j - 32 * i = j by omega, List.map_append, List.getElem?_append_left (by rw [List.length_map, (isK_keyX x).1]; exact hj)]
      exact hv2
    rw [List.getElem?_take_of_lt (by omega), Array.getElem?_toList] at h3
    exact h3
theorem sizeU8x : (Try.prog.info? 5).map (·.size) = some 1 := by kernel_rfl
theorem eqlKx (a b : List Int) (ha : a.length = 32) (hb : b.length = 32) (W : World) : Sem.run Try.prog (Op.equalIn 10000 46 (.agg (ints .u8 a)) (.agg (ints .u8 b))) W = .ok (decide (a = b)) W :=
  run_equalIn_ints Try.underlying46 Try.underlying5 sizeU8x a b ha hb 9998 W
def FndR (xs : List BlV) (key : List Int) (r : Int) : Prop := (∃ (i : Nat) (x : BlV), xs[i]? = some x ∧ keyX x = key ∧ r = i) ∨ ((∀ (i : Nat) (x : BlV), xs[i]? = some x → keyX x ≠ key) ∧ r = -1)
set_option maxRecDepth 100000 in
set_option maxHeartbeats 4000000 in
theorem find_spec (X base : Nat) (v1 v2 : Value) (xs : List BlV) (ys : List Nat) (key : List Int) (hk : IsK key) (hx : xs.length ≤ 1048576) (w : World) (hop : OpenP w base X v1 v2 xs ys xs.length (xs.flatMap keyX)) :
    Calls Try.prog 68 #[.pointer (some ⟨X, 0, none⟩), .agg (ints .u8 key)] w fun e w' => ∃ r, e = .returned (.int .i64 r) ∧ FndR xs key r ∧ Below w.heap.size w w' := by
  have HK := Lib.hid hk
  have HOP := Lib.hid hop
  clear hop hk
  go_enter Try.func68, Try.ntmps68
  go_wp2_with fail
  go_loopw [5] (fun i wr => ∃ k : Nat, k ≤ xs.length ∧ i = .int .i64 k ∧ Hid (∀ (j : Nat) (x : BlV), j < k → xs[j]? = some x → keyX x ≠ key) ∧ Below w.heap.size w wr ∧ wr.heap[w.heap.size]? = some (.cells (ints .u8 key) 46)) (fun i _ => xs.length - (intOf i).toNat)
  case atStart => exact ⟨0, by omega, rfl, Lib.hid (fun j x hj => by omega), by go_grown, heap_alloc_last _ _⟩
  case round =>
    obtain ⟨k, hk, rfl, hp, hb, hg⟩ := hrel
    have HB := Lib.hid hb
    have HG := Lib.hid hg
    have OW := Lib.hid (HOP.out.below hb)
    have q1 := cell_of_row _ _ 1 _ _ _ OW.out.box
    clear hb hg
    by_cases hlt : k < xs.length
    · obtain ⟨x, hx0⟩ : ∃ x, xs[k]? = some x := ⟨xs[k], List.getElem?_eq_getElem hlt⟩
      obtain ⟨kg, cap, rfl, hrg⟩ := OW.out.anyKey hx0
      have RG := Lib.hid hrg
      have HX := Lib.hid hx0
      clear hrg hx0
      have HXL := Lib.hid (isK_keyX x).1
      obtain ⟨kk, hkk⟩ : ∃ kk, keyX x = kk := ⟨_, rfl⟩
      rw [hkk] at RG HXL
      have HKK := Lib.hid hkk
      clear hkk
      generalize hL : xs.length = L at *
      have b0 : (0 : Int) ≤ (k : Int) := by omega
      have b1 : (k : Int) < (L : Int) := by omega
      go_upto_region 4 with fail
      refine wp_region_held_drew (S := Below wr.heap.size wr) (by kernel_rfl) ((Below.refl _ _).drew) (fun hS => ?_)
      refine takeS (i := 0) (v := .pointer (some ⟨X, 0, none⟩)) rfl rfl (by kernel_rfl) (by kernel_rfl) (by kernel_rfl) (fun _ _ _ h => h) (Or.inl ⟨by rfl, fun U hU => by go_simp⟩) hS ?_
      try simp only [List.setIfInBounds_toArray, List.set_cons_zero, List.set_cons_succ]
      refine takeS (i := 1) (v := .pointer (some ⟨X, 0, none⟩)) rfl rfl (by kernel_rfl) (by kernel_rfl) (by kernel_rfl) (fun _ _ _ h => h) (Or.inl ⟨by rfl, fun U hU => by go_simp⟩) hS ?_
      try simp only [List.setIfInBounds_toArray, List.set_cons_zero, List.set_cons_succ]
      refine takeS (i := 2) (v := .pointer (some ⟨X, 1, none⟩)) rfl rfl (by kernel_rfl) (by kernel_rfl) (by kernel_rfl) (fun _ _ _ h => h) (Or.inl ⟨by rfl, fun U hU => by go_simp⟩) hS ?_
      try simp only [List.setIfInBounds_toArray, List.set_cons_zero, List.set_cons_succ]
      refine takeS (i := 3) (v := .slice (some ⟨kg, 0, none⟩) L cap) rfl rfl (by kernel_rfl) (by kernel_rfl) (by kernel_rfl) (fun _ _ _ h => h) (Or.inl ⟨by rfl, fun U hU => by have q0 := cell_of_row _ X 1 _ _ _ (keep_block OW.out.box hU); go_simp⟩) hS ?_
      try simp only [List.setIfInBounds_toArray, List.set_cons_zero, List.set_cons_succ]
      refine takeS (i := 4) (v := .int .i64 (k : Int)) rfl rfl (by kernel_rfl) (by kernel_rfl) (by kernel_rfl) (fun _ _ _ h => h) (Or.inl ⟨by rfl, fun U hU => by go_simp⟩) hS ?_
      try simp only [List.setIfInBounds_toArray, List.set_cons_zero, List.set_cons_succ]
      refine takeS (i := 5) (v := .pointer (some ⟨kg, k * 32, none⟩)) rfl rfl (by kernel_rfl) (by kernel_rfl) (by kernel_rfl) (fun _ _ _ h => h) (Or.inl ⟨by rfl, fun U hU => by go_simp⟩) hS ?_
      try simp only [List.setIfInBounds_toArray, List.set_cons_zero, List.set_cons_succ]
      refine takeS (i := 6) (v := .agg (ints .u8 kk)) rfl rfl (by kernel_rfl) (by kernel_rfl) (by kernel_rfl) (fun _ _ _ h => h) (yields_range (by rfl) 46 _ rfl kg (k * 32) rfl .u8 kk _ (fun U hU => RG.out U hU) Try.underlying46 rfl (by rw [HXL.out]; exact sizeKey)) hS ?_
      try simp only [List.setIfInBounds_toArray, List.set_cons_zero, List.set_cons_succ]
      refine takeS (i := 7) (v := .agg (ints .u8 key)) rfl rfl (by kernel_rfl) (by kernel_rfl) (by kernel_rfl) (fun _ _ _ h => h) (yields_rowS (by rfl) 46 _ rfl w.heap.size rfl (ints .u8 key) 46 _ (fun U hU => keep_block HG.out hU) Try.underlying46 rfl (by rw [ints_size, HK.out.1]; exact sizeKey)) hS ?_
      try simp only [List.setIfInBounds_toArray, List.set_cons_zero, List.set_cons_succ]
      refine takeS (i := 8) (v := .bool (decide (kk = key))) rfl rfl (by kernel_rfl) (by kernel_rfl) (by kernel_rfl) (fun _ _ _ h => h) (Or.inl ⟨by rfl, fun U hU => by have heq := eqlKx kk key HXL.out HK.out.1 U; go_simp⟩) hS ?_
      try simp only [List.setIfInBounds_toArray, List.set_cons_zero, List.set_cons_succ]
      refine wpAnyH_done (by kernel_rfl) ?_ _
      have BE := Lib.hid (below_call HB.out HB.out.size hS)
      have GE := Lib.hid (keep_block HG.out hS)
      clear hS
      by_cases heq : kk = key
      · have hd : decide (kk = key) = true := decide_eq_true heq
        rw [hd]
        have HE := Lib.hid heq
        clear hd heq
        go_wp2_with fail
        go_ret
        exact ⟨_, rfl, .inl ⟨k, x, HX.out, HKK.out.trans HE.out, rfl⟩, BE.out⟩
      · have hd : decide (kk = key) = false := decide_eq_false heq
        rw [hd]
        have HE := Lib.hid heq
        clear hd heq
        go_wp2_with fail
        go_roundw
        case rel =>
          refine ⟨k + 1, by omega, by go_num, Lib.hid (fun j z hj hz => ?_), BE.out, GE.out⟩
          by_cases hjk : j = k
          · subst hjk
            have e := HX.out
            rw [hz] at e
            cases e
            rw [HKK.out]
            exact HE.out
          · exact hp.out j z (by omega) hz
        case measure => simp [intOf]; omega
    · obtain rfl : k = xs.length := by omega
      obtain ⟨a2, c2, rfl, -⟩ := RdK.owned (flat_len xs) OW.out.row2
      generalize hL : xs.length = L at *
      go_wp2_with fail
      go_ret
      exact ⟨_, rfl, .inr ⟨fun i x hi => hp.out i x (by have := (List.getElem?_eq_some_iff.1 hi).1; omega) hi, rfl⟩, HB.out⟩
end Go.Proofs.Ytabepfdononppaa
namespace Go.Proofs.Ytabepfdononppaa
open Go.ChangeShapes Go.WideShapes Go.ChangeAt Go.RowKit
set_option linter.unusedVariables false
set_option linter.unusedSimpArgs false
theorem sizeU8c : (Try.prog.info? 5).map (·.size) = some 1 := by kernel_rfl
theorem row_exactC {w : World} {g : Nat} {T : TypeId} {N : Nat} {f : Nat → Value} {A : Array Value} (h : w.rowIs g T N f) (hs : A.size = N) (hA : ∀ i, i < N → A[i]? = some (f i)) : w.heap[g]? = some (.cells A T) := by
  obtain ⟨c, hg, hcs, hc⟩ := h
  rw [hg]
  congr 2
  apply Array.ext_getElem?
  intro i
  by_cases hi : i < N
  · rw [hc i hi, hA i hi]
  · rw [Array.getElem?_eq_none (by omega), Array.getElem?_eq_none (by omega)]
theorem row_blockC {w : World} {g : Nat} {T : TypeId} {A : Array Value} (h : w.heap[g]? = some (.cells A T)) : w.rowIs g T A.size (fun i => A[i]?.getD default) :=
  ⟨A, h, rfl, fun i hi => by show A[i]? = some (A[i]?.getD default); rw [Array.getElem?_eq_getElem hi]; rfl⟩
theorem filledC {w : World} {g : Nat} {l0 l : List Int} {T : TypeId} (hl : l.length = l0.length) (h : w.heap[g]? = some (.cells (ints .u8 l0) T)) :
    (w.setCells g 0 (l.map (Value.int .u8))).heap[g]? = some (.cells (ints .u8 l) T) := by
  have hb := Go.rowIs_setCells (l.map (Value.int .u8)) 0 _ _ (row_blockC h)
  refine row_exactC hb (by rw [ints_size, ints_size, hl]) fun i hi => ?_
  rw [ints_size] at hi
  have hi2 : i < l.length := by omega
  simp [ints, hi2]
set_option maxRecDepth 100000 in
set_option maxHeartbeats 4000000 in
theorem copyOf_impl (y n : Nat) (l : List Int) (hl : l.length = n) (hn : n ≤ 1048576) (w : World) (hy : w.heap[y]? = some (.cells (ints .u8 l) 5)) :
    Calls Try.prog 89 #[.slice (some ⟨y, 0, none⟩) n n] w fun e w' => e = .returned (.slice (some ⟨w.heap.size, 0, none⟩) n n) ∧ w'.heap[w.heap.size]? = some (.cells (ints .u8 l) 5) ∧ Below w.heap.size w w' := by
  have hmk := run_make_row' (P := Try.prog) 41 5 (.int .u8 0) 1 Try.underlying41 infoByte rfl .i64 .i64 n (by omega) (by omega) w
  rw [made_zero] at hmk
  have A1 := heap_alloc_last w (.cells (ints .u8 (List.replicate n 0)) 5)
  have Y1 := keep_block hy ((Below.refl w.heap.size w).alloc (Nat.le_refl _) (.cells (ints .u8 (List.replicate n 0)) 5))
  have B1 := (Below.refl w.heap.size w).alloc (Nat.le_refl _) (.cells (ints .u8 (List.replicate n 0)) 5)
  obtain ⟨W1, hW1⟩ : ∃ W1, w.alloc (.cells (ints .u8 (List.replicate n 0)) 5) = W1 := ⟨_, rfl⟩
  rw [hW1] at A1 Y1 B1 hmk
  have hcp := fun ty => run_copy_cells (P := Try.prog) W1 41 41 ty 5 w.heap.size 0 n n ⟨y, 0, none⟩ n n (l.map (Value.int .u8)) Try.underlying41 sizeU8c (by rw [List.length_map, hl]; simp)
    (fun j v hj => by rw [addr_add, Nat.zero_add]; exact (cell_of_row W1 y j _ _ _ Y1).trans (by simpa [ints] using hj))
    (fun j hj => by rw [List.length_map, hl] at hj; rw [Nat.zero_add, cell_of_row W1 w.heap.size j _ _ _ A1]; simp [ints, hj])
    (fun j hj => frozen_of_row W1 w.heap.size (0 + j) _ _ A1) (fun v hv => by obtain ⟨z, _, rfl⟩ := List.mem_map.1 hv; rfl)
  rw [List.length_map, hl] at hcp
  have G2 := filledC (w := W1) (l := l) (by rw [hl, List.length_replicate]) A1
  have B2 := below_setCells_k (g := w.heap.size) (Nat.le_refl _) (l.map (Value.int .u8)) 0 _ B1
  generalize W1.setCells w.heap.size 0 (l.map (Value.int .u8)) = W2 at hcp G2 B2
  have HG := Lib.hid G2
  have HB := Lib.hid B2
  clear G2 B2 A1 Y1 B1 hy hW1
  go_enter Try.func89, Try.ntmps89
  go_wp2
  go_ret
  exact ⟨rfl, HG.out, HB.out⟩
set_option maxRecDepth 100000 in
set_option maxHeartbeats 4000000 in
theorem copied_impl (t : Int) (y n : Nat) (l : List Int) (hl : l.length = n) (hn : n ≤ 1048576) (w : World) (hy : w.heap[y]? = some (.cells (ints .u8 l) 5)) :
    Calls Try.prog 70 #[.agg #[.int .u8 t, .slice (some ⟨y, 0, none⟩) n n]] w fun e w' => ∃ v, e = .returned (.agg #[.int .u8 t, v]) ∧ OwnB w' w.heap.size v n l ∧ Below w.heap.size w w' := by
  have A0 := heap_alloc2_old w (.cells #[.int .u8 t, .slice (some ⟨y, 0, none⟩) n n] 43) (.cells #[.int .u8 0, .slice none 0 0] 43)
  have A1 := heap_alloc2_new w (.cells #[.int .u8 t, .slice (some ⟨y, 0, none⟩) n n] 43) (.cells #[.int .u8 0, .slice none 0 0] 43)
  have B0 := ((Below.refl w.heap.size w).alloc (Nat.le_refl _) (.cells #[.int .u8 t, .slice (some ⟨y, 0, none⟩) n n] 43)).alloc (by simp) (.cells #[.int .u8 0, .slice none 0 0] 43)
  have Y0 := keep_block hy B0
  obtain ⟨W1, hW1⟩ : ∃ W1, (w.alloc (.cells #[.int .u8 t, .slice (some ⟨y, 0, none⟩) n n] 43)).alloc (.cells #[.int .u8 0, .slice none 0 0] 43) = W1 := ⟨_, rfl⟩
  have hSZ : W1.heap.size = w.heap.size + 2 := by rw [← hW1]; simp
  rw [hW1] at A0 A1 B0 Y0
  have HA0 := Lib.hid A0
  have HA1 := Lib.hid A1
  have HB0 := Lib.hid B0
  have HY0 := Lib.hid Y0
  have HSZ := Lib.hid hSZ
  clear A0 A1 B0 Y0 hSZ hy
  go_enter Try.func70, Try.ntmps70
  go_upto_region 1 with fail
  refine wp_region_held_drew (S := fun U => Below w.heap.size w U ∧ U.heap[w.heap.size]? = some (.cells #[.int .u8 t, .slice (some ⟨y, 0, none⟩) n n] 43)) (by kernel_rfl) ⟨HB0.out.drew, HA0.out⟩ (fun hS => ?_)
  refine takeS (i := 0) (v := .pointer (some ⟨w.heap.size, 0, none⟩)) rfl rfl (by kernel_rfl) (by kernel_rfl) (by kernel_rfl) (fun _ _ _ h => h) (Or.inl ⟨by rfl, fun U hU => by go_simp⟩) hS ?_
  try simp only [List.setIfInBounds_toArray, List.set_cons_zero, List.set_cons_succ]
  refine takeS (i := 1) (v := .int .u8 t) rfl rfl (by kernel_rfl) (by kernel_rfl) (by kernel_rfl) (fun _ _ _ h => h) (Or.inl ⟨by rfl, fun U hU => by have q0 := cell_of_row _ w.heap.size 0 _ _ _ hU.2; go_simp⟩) hS ?_
  try simp only [List.setIfInBounds_toArray, List.set_cons_zero, List.set_cons_succ]
  refine takeS (i := 2) (v := .pointer (some ⟨w.heap.size, 1, none⟩)) rfl rfl (by kernel_rfl) (by kernel_rfl) (by kernel_rfl) (fun _ _ _ h => h) (Or.inl ⟨by rfl, fun U hU => by go_simp⟩) hS ?_
  try simp only [List.setIfInBounds_toArray, List.set_cons_zero, List.set_cons_succ]
  refine takeS (i := 3) (v := .slice (some ⟨y, 0, none⟩) n n) rfl rfl (by kernel_rfl) (by kernel_rfl) (by kernel_rfl) (fun _ _ _ h => h) (Or.inl ⟨by rfl, fun U hU => by have q0 := cell_of_row _ w.heap.size 1 _ _ _ hU.2; go_simp⟩) hS ?_
  try simp only [List.setIfInBounds_toArray, List.set_cons_zero, List.set_cons_succ]
  refine wpAnyH_ready (rs := [4]) (by kernel_rfl) (by simp) ?_
  refine AllReadyH.cons rfl (fun KQ hK => ?_) AllReadyH.nil
  rw [if_pos (by rfl)]
  go_simp
  refine (copyOf_impl y n l hl hn W1.drew HY0.out).mono ?_
  rintro e w5 ⟨rfl, hg, hb⟩
  have A5 := Lib.hid (keep_block (w := W1.drew) HA1.out hb)
  have C5 := Lib.hid (keep_block (w := W1.drew) HA0.out hb)
  have B5 := Lib.hid (HB0.out.drew.trans (hb.mono HB0.out.size))
  have G5 := Lib.hid hg
  refine hK.out _ _ ⟨B5.out, C5.out⟩ (fun hS => ?_)
  clear hb hK hg
  rw [show W1.drew.heap.size = w.heap.size + 2 from HSZ.out] at G5 ⊢
  refine takeS (i := 5) (v := .agg #[.int .u8 t, .slice (some ⟨w.heap.size + 2, 0, none⟩) n n]) rfl rfl (by kernel_rfl) (by kernel_rfl) (by kernel_rfl) (fun _ _ _ h => h) (Or.inl ⟨by rfl, fun U hU => by go_simp⟩) hS ?_
  try simp only [List.setIfInBounds_toArray, List.set_cons_zero, List.set_cons_succ]
  refine wpAnyH_ready (rs := [6]) (by kernel_rfl) (by simp) ?_
  refine AllReadyH.cons rfl (fun KQ hK => ?_) AllReadyH.nil
  rw [if_pos (by rfl)]
  have q0 := cell_of_row w5 (w.heap.size + 1) 0 _ _ _ A5.out
  have q1 := cell_of_row w5 (w.heap.size + 1) 1 _ _ _ A5.out
  have f0 := frozen_of_row w5 (w.heap.size + 1) 0 _ _ A5.out
  have f1 := frozen_of_row w5 (w.heap.size + 1) 1 _ _ A5.out
  go_simp
  have A6 : ((w5.setCell ⟨w.heap.size + 1, 0, none⟩ (.int .u8 t)).setCell ⟨w.heap.size + 1, 1, none⟩ (.slice (some ⟨w.heap.size + 2, 0, none⟩) n n)).heap[w.heap.size + 1]? = some (.cells #[.int .u8 t, .slice (some ⟨w.heap.size + 2, 0, none⟩) n n] 43) := heap_setCell_same _ (w.heap.size + 1) 1 _ _ _ (heap_setCell_same _ (w.heap.size + 1) 0 _ _ _ A5.out)
  have G6 : ((w5.setCell ⟨w.heap.size + 1, 0, none⟩ (.int .u8 t)).setCell ⟨w.heap.size + 1, 1, none⟩ (.slice (some ⟨w.heap.size + 2, 0, none⟩) n n)).heap[w.heap.size + 2]? = some (.cells (ints .u8 l) 5) := (heap_setCell_other _ _ _ _ (by simp)).trans ((heap_setCell_other _ _ _ _ (by simp)).trans G5.out)
  have C6 : ((w5.setCell ⟨w.heap.size + 1, 0, none⟩ (.int .u8 t)).setCell ⟨w.heap.size + 1, 1, none⟩ (.slice (some ⟨w.heap.size + 2, 0, none⟩) n n)).heap[w.heap.size]? = some (.cells #[.int .u8 t, .slice (some ⟨y, 0, none⟩) n n] 43) := (heap_setCell_other _ _ _ _ (by simp)).trans ((heap_setCell_other _ _ _ _ (by simp)).trans C5.out)
  have B6 : Below w.heap.size w ((w5.setCell ⟨w.heap.size + 1, 0, none⟩ (.int .u8 t)).setCell ⟨w.heap.size + 1, 1, none⟩ (.slice (some ⟨w.heap.size + 2, 0, none⟩) n n)) := (B5.out.setCell (by simp) _).setCell (by simp) _
  refine hK.out _ _ ⟨B6, C6⟩ (fun hS => ?_)
  clear hK q0 q1 f0 f1
  generalize (w5.setCell ⟨w.heap.size + 1, 0, none⟩ (.int .u8 t)).setCell ⟨w.heap.size + 1, 1, none⟩ (.slice (some ⟨w.heap.size + 2, 0, none⟩) n n) = w6 at A6 G6 C6 B6 hS ⊢
  refine wpAnyH_done (by kernel_rfl) ?_ _
  go_wp2_with fail
  refine bodyPost_ret (results_cell_row rfl _ _ (w.heap.size + 1) 43 #[.int .u8 t, .slice (some ⟨w.heap.size + 2, 0, none⟩) n n] (0, 0) _ rfl A6 Try.underlying43 rfl (by show _ = some 2; kernel_rfl)) rfl ?_
  exact ⟨_, rfl, OwnB.of_block (L := []) hl (by omega) (by rw [List.append_nil]; exact G6), B6⟩
set_option maxRecDepth 100000 in
set_option maxHeartbeats 4000000 in
theorem l05Copy_spec (t : Int) (y n : Nat) (l : List Int) (hl : l.length = n) (hn : n ≤ 1048576) (w : World) (hy : w.heap[y]? = some (.cells (ints .u8 l) 5)) :
    Calls Try.prog 69 #[.agg #[.int .u8 t, .slice (some ⟨y, 0, none⟩) n n]] w fun e w' => ∃ a cap, e = .returned (.agg #[.int .u8 t, .slice a n cap]) ∧ Rd .u8 w' a n l ∧ (n = 0 ∨ ∃ g, a = some ⟨g, 0, none⟩ ∧ w.heap.size ≤ g) ∧ Below w.heap.size w w' := by
  have A0 := heap_alloc2_old w (.cells #[.int .u8 t, .slice (some ⟨y, 0, none⟩) n n] 43) (.cells #[.int .u8 0, .slice none 0 0] 43)
  have A1 := heap_alloc2_new w (.cells #[.int .u8 t, .slice (some ⟨y, 0, none⟩) n n] 43) (.cells #[.int .u8 0, .slice none 0 0] 43)
  have B0 := ((Below.refl w.heap.size w).alloc (Nat.le_refl _) (.cells #[.int .u8 t, .slice (some ⟨y, 0, none⟩) n n] 43)).alloc (by simp) (.cells #[.int .u8 0, .slice none 0 0] 43)
  have Y0 := keep_block hy B0
  obtain ⟨W1, hW1⟩ : ∃ W1, (w.alloc (.cells #[.int .u8 t, .slice (some ⟨y, 0, none⟩) n n] 43)).alloc (.cells #[.int .u8 0, .slice none 0 0] 43) = W1 := ⟨_, rfl⟩
  have hSZ : W1.heap.size = w.heap.size + 2 := by rw [← hW1]; simp
  rw [hW1] at A0 A1 B0 Y0
  obtain ⟨i0, hi, hz0, hz1, hz2⟩ := info_parts infoU8
  have Hi := Lib.hid hi
  clear hi
  have HA0 := Lib.hid A0
  have HA1 := Lib.hid A1
  have HB0 := Lib.hid B0
  have HY0 := Lib.hid Y0
  have HSZ := Lib.hid hSZ
  clear A0 A1 B0 Y0 hSZ hy
  go_enter Try.func69, Try.ntmps69
  go_upto_region 1 with fail
  refine wp_region_held_drew (S := fun U => Below w.heap.size w U ∧ U.heap[w.heap.size]? = some (.cells #[.int .u8 t, .slice (some ⟨y, 0, none⟩) n n] 43)) (by kernel_rfl) ⟨HB0.out.drew, HA0.out⟩ (fun hS => ?_)
  refine takeS (i := 0) (v := .pointer (some ⟨w.heap.size, 0, none⟩)) rfl rfl (by kernel_rfl) (by kernel_rfl) (by kernel_rfl) (fun _ _ _ h => h) (Or.inl ⟨by rfl, fun U hU => by go_simp⟩) hS ?_
  try simp only [List.setIfInBounds_toArray, List.set_cons_zero, List.set_cons_succ]
  refine takeS (i := 1) (v := .int .u8 t) rfl rfl (by kernel_rfl) (by kernel_rfl) (by kernel_rfl) (fun _ _ _ h => h) (Or.inl ⟨by rfl, fun U hU => by have q0 := cell_of_row _ w.heap.size 0 _ _ _ hU.2; go_simp⟩) hS ?_
  try simp only [List.setIfInBounds_toArray, List.set_cons_zero, List.set_cons_succ]
  refine takeS (i := 3) (v := .pointer (some ⟨w.heap.size, 1, none⟩)) rfl rfl (by kernel_rfl) (by kernel_rfl) (by kernel_rfl) (fun _ _ _ h => h) (Or.inl ⟨by rfl, fun U hU => by go_simp⟩) hS ?_
  try simp only [List.setIfInBounds_toArray, List.set_cons_zero, List.set_cons_succ]
  refine takeS (i := 4) (v := .slice (some ⟨y, 0, none⟩) n n) rfl rfl (by kernel_rfl) (by kernel_rfl) (by kernel_rfl) (fun _ _ _ h => h) (Or.inl ⟨by rfl, fun U hU => by have q0 := cell_of_row _ w.heap.size 1 _ _ _ hU.2; go_simp⟩) hS ?_
  try simp only [List.setIfInBounds_toArray, List.set_cons_zero, List.set_cons_succ]
  refine wpAnyH_ready (rs := [2]) (by kernel_rfl) (by simp) ?_
  refine AllReadyH.cons rfl (fun KQ hK => ?_) AllReadyH.nil
  rw [if_pos (by rfl)]
  go_simp
  have hB3 : Below w.heap.size w (W1.alloc (.cells #[] 5)).drew := hS.1.alloc (B := w.heap.size) (by show w.heap.size ≤ W1.heap.size; rw [HSZ.out]; omega) (.cells #[] 5)
  have L3 := (Below.refl W1.heap.size W1).alloc (Nat.le_refl _) (.cells #[] 5)
  have A3 := keep_block HA1.out L3
  have C3 := keep_block HA0.out L3
  have Y3 := keep_block HY0.out L3
  have O3 : (W1.alloc (.cells #[] 5)).ownsRow W1.heap.size 5 1 (.slice (some ⟨W1.heap.size, 0, none⟩) 0 0) 0 [] := ⟨rfl, Or.inr ⟨W1.heap.size, 0, #[], rfl, Nat.le_refl _, heap_alloc_last _ _, by omega, by unfold maxLen; omega, rfl, rfl⟩⟩
  have S3 : (W1.alloc (.cells #[] 5)).heap.size = W1.heap.size + 1 := by simp
  refine hK.out _ _ ⟨hB3, C3⟩ (fun hS => ?_)
  clear hK L3
  generalize W1.alloc (.cells #[] 5) = W3 at hB3 A3 C3 Y3 O3 S3 hS ⊢
  refine wpAnyH_ready (rs := [5]) (by kernel_rfl) (by simp) ?_
  refine AllReadyH.cons rfl (fun KQ hK => ?_) AllReadyH.nil
  rw [if_pos (by rfl)]
  refine wp_append_own _ _ _ 41 rfl W1.heap.size 5 i0 (.int .u8 0) 1 1 Try.underlying41 Hi.out hz0 hz1 hz2 rfl (by decide) _ 0 [] rfl O3 ⟨y, 0, none⟩ n n (l.map (Value.int .u8)) rfl (by simp [hl]) ?c1 ?c2 ?c3 ?c4 ?c5 ?_
  case c1 =>
    intro j u hu
    rw [addr_add, Nat.zero_add]
    exact (cell_of_row W3 y j _ _ _ Y3).trans (by simpa [ints] using hu)
  case c2 => intro u hu; obtain ⟨z, _, rfl⟩ := List.mem_map.1 hu; rfl
  case c3 => unfold maxLen; omega
  case c4 => omega
  case c5 => show W1.heap.size ≤ W3.heap.size; omega
  intro v4 w4 hown hg _
  have hg' : W3.drew.grownBy w4 (some W1.heap.size) := hg
  have S3d : W3.drew.heap.size = W3.heap.size := rfl
  have hz := HSZ.out
  have A4 := (hg'.block (w.heap.size + 1) (by omega) (fun e => by have := Option.some.inj e; omega)).trans A3
  have C4 := (hg'.block w.heap.size (by omega) (fun e => by have := Option.some.inj e; omega)).trans C3
  have B4 : Below w.heap.size w w4 := hB3.trans ⟨hg'.os, hg'.tape, hg'.output, hg'.size, fun k hk => hg'.block k (by omega) (fun e => by have := Option.some.inj e; omega)⟩
  have hR : ∃ (a : Option Addr) (cap : Nat), v4 = .slice a n cap ∧ (n = 0 ∨ ∃ g, a = some ⟨g, 0, none⟩ ∧ W1.heap.size ≤ g ∧ g < w4.heap.size ∧ ∀ j, j < n → w4.cell? ⟨g, j, none⟩ = some (.int .u8 (l[j]?.getD 0))) := by
    rcases hown.2 with ⟨rfl, h0⟩ | ⟨g, cap, cur, rfl, hgb, hgc, h1, h2, h3, h4⟩
    · have : n = 0 := by omega
      subst this
      exact ⟨none, 0, rfl, .inl rfl⟩
    · refine ⟨_, cap, by rw [Nat.zero_add], .inr ⟨g, rfl, hgb, (Array.getElem?_eq_some_iff.1 hgc).1, fun j hj => ?_⟩⟩
      rw [cell_of_row w4 g j _ _ _ hgc]
      have h5 : (cur.toList.take ((0 + n) * 1))[j]? = some (.int .u8 (l[j]?.getD 0)) := by
        rw [h4, List.nil_append, List.getElem?_map, List.getElem?_eq_getElem (by omega)]
        rfl
      rw [List.getElem?_take_of_lt (by omega), Array.getElem?_toList] at h5
      exact h5
  obtain ⟨a4, c4, rfl, hR⟩ := hR
  refine hK.out _ _ ⟨B4, C4⟩ (fun hS => ?_)
  clear hK hown hg hg' hB3 A3 C3 Y3 O3
  refine takeS (i := 6) (v := .agg #[.int .u8 t, .slice a4 n c4]) rfl rfl (by kernel_rfl) (by kernel_rfl) (by kernel_rfl) (fun _ _ _ h => h) (Or.inl ⟨by rfl, fun U hU => by go_simp⟩) hS ?_
  try simp only [List.setIfInBounds_toArray, List.set_cons_zero, List.set_cons_succ]
  refine wpAnyH_ready (rs := [7]) (by kernel_rfl) (by simp) ?_
  refine AllReadyH.cons rfl (fun KQ hK => ?_) AllReadyH.nil
  rw [if_pos (by rfl)]
  have q0 := cell_of_row w4 (w.heap.size + 1) 0 _ _ _ A4
  have q1 := cell_of_row w4 (w.heap.size + 1) 1 _ _ _ A4
  have f0 := frozen_of_row w4 (w.heap.size + 1) 0 _ _ A4
  have f1 := frozen_of_row w4 (w.heap.size + 1) 1 _ _ A4
  go_simp
  have A6 : ((w4.setCell ⟨w.heap.size + 1, 0, none⟩ (.int .u8 t)).setCell ⟨w.heap.size + 1, 1, none⟩ (.slice a4 n c4)).heap[w.heap.size + 1]? = some (.cells #[.int .u8 t, .slice a4 n c4] 43) := heap_setCell_same _ (w.heap.size + 1) 1 _ _ _ (heap_setCell_same _ (w.heap.size + 1) 0 _ _ _ A4)
  have C6 : ((w4.setCell ⟨w.heap.size + 1, 0, none⟩ (.int .u8 t)).setCell ⟨w.heap.size + 1, 1, none⟩ (.slice a4 n c4)).heap[w.heap.size]? = some (.cells #[.int .u8 t, .slice (some ⟨y, 0, none⟩) n n] 43) := (heap_setCell_other _ _ _ _ (by simp)).trans ((heap_setCell_other _ _ _ _ (by simp)).trans C4)
  have B6 : Below w.heap.size w ((w4.setCell ⟨w.heap.size + 1, 0, none⟩ (.int .u8 t)).setCell ⟨w.heap.size + 1, 1, none⟩ (.slice a4 n c4)) := (B4.setCell (by simp) _).setCell (by simp) _
  have N6 : n = 0 ∨ ∃ g, a4 = some ⟨g, 0, none⟩ ∧ w.heap.size ≤ g := hR.imp id (fun ⟨g, h1, h2, _⟩ => ⟨g, h1, by omega⟩)
  have R6 : Rd .u8 ((w4.setCell ⟨w.heap.size + 1, 0, none⟩ (.int .u8 t)).setCell ⟨w.heap.size + 1, 1, none⟩ (.slice a4 n c4)) a4 n l := by
    refine ⟨hl, ?_⟩
    rcases hR with h0 | ⟨g, rfl, hgb, hgl, hgc⟩
    · exact .inl h0
    · refine .inr ⟨g, 0, rfl, by simpa [World.setCell] using hgl, fun j hj => ?_⟩
      rw [Nat.zero_add, World.cell?_setCell_far _ _ _ _ (by simp; omega), World.cell?_setCell_far _ _ _ _ (by simp; omega)]
      exact hgc j hj
  refine hK.out _ _ ⟨B6, C6⟩ (fun hS => ?_)
  clear hK q0 q1 f0 f1
  generalize (w4.setCell ⟨w.heap.size + 1, 0, none⟩ (.int .u8 t)).setCell ⟨w.heap.size + 1, 1, none⟩ (.slice a4 n c4) = w6 at A6 C6 B6 R6 hS ⊢
  refine wpAnyH_done (by kernel_rfl) ?_ _
  go_wp2_with fail
  refine bodyPost_ret (results_cell_row rfl _ _ (w.heap.size + 1) 43 #[.int .u8 t, .slice a4 n c4] (0, 0) _ rfl A6 Try.underlying43 rfl (by show _ = some 2; kernel_rfl)) rfl ?_
  exact ⟨a4, c4, rfl, R6, N6, B6⟩
end Go.Proofs.Ytabepfdononppaa
namespace Go.Proofs.Ytabepfdononppaa
open Go.ChangeShapes Go.WideShapes Go.ChangeAt Go.RowKit
set_option linter.unusedVariables false
set_option linter.unusedSimpArgs false
theorem zeroBlInfo : (Try.prog.info? 43).map (·.zero) = some (some (.agg #[.int .u8 0, .slice none 0 0])) := by kernel_rfl
theorem zeroBl (w : World) : (zeroValue 43).run Try.prog w = .ok (.agg #[.int .u8 0, .slice none 0 0]) w := by
  obtain ⟨i, hi, hz⟩ := Option.map_eq_some_iff.1 zeroBlInfo
  simp [zeroValue, typeInfo, hi, hz]
theorem st_one {bs : List BlV} (h : stP bs) {i j : Nat} {x y : BlV} (hx : bs[i]? = some x) (hy : bs[j]? = some y) (hk : keyX x = keyX y) : x = y := by
  have hp := stP_asc h.2.2
  have hi := (List.getElem?_eq_some_iff.1 hx)
  have hj := (List.getElem?_eq_some_iff.1 hy)
  obtain ⟨hi1, hi2⟩ := hi
  obtain ⟨hj1, hj2⟩ := hj
  rcases Nat.lt_trichotomy i j with h1 | h1 | h1
  · have := (List.pairwise_iff_getElem.1 hp) i j hi1 hj1 h1
    rw [hi2, hj2, hk, cmpI_refl] at this
    omega
  · subst h1
    rw [hx] at hy
    exact Option.some.inj hy
  · have := (List.pairwise_iff_getElem.1 hp) j i hj1 hi1 h1
    rw [hi2, hj2, hk, cmpI_refl] at this
    omega
/-- What GetBlob tells: tag, length, data and code. -/
structure GbV where
  t : Int
  n : Nat
  l : List Int
  c : Int
open Classical in
noncomputable def gbV (bs : List BlV) (key : List Int) : GbV :=
  if stP bs then (if h : ∃ (x : BlV) (i : Nat), bs[i]? = some x ∧ keyX x = key then ⟨h.choose.t, h.choose.n, h.choose.l, 0⟩ else ⟨0, 0, [], 6⟩) else ⟨0, 0, [], 1⟩
theorem gbV_no {bs : List BlV} {key : List Int} (h : ¬ stP bs) : gbV bs key = ⟨0, 0, [], 1⟩ := by unfold gbV; exact if_neg h
theorem gbV_none {bs : List BlV} {key : List Int} (h : stP bs) (hn : ∀ (i : Nat) (x : BlV), bs[i]? = some x → keyX x ≠ key) : gbV bs key = ⟨0, 0, [], 6⟩ := by
  unfold gbV
  rw [if_pos h, dif_neg (fun ⟨x, i, hx, hk⟩ => hn i x hx hk)]
theorem gbV_some {bs : List BlV} {key : List Int} (h : stP bs) {i : Nat} {x : BlV} (hx : bs[i]? = some x) (hk : keyX x = key) : gbV bs key = ⟨x.t, x.n, x.l, 0⟩ := by
  have he : ∃ (x : BlV) (i : Nat), bs[i]? = some x ∧ keyX x = key := ⟨x, i, hx, hk⟩
  unfold gbV
  rw [if_pos h, dif_pos he]
  obtain ⟨j, hj, hkj⟩ := he.choose_spec
  rw [st_one h hj hx (hkj.trans hk.symm)]
theorem sizeBl : (Try.prog.info? 43).map (·.size) = some 2 := by kernel_rfl
def GbR (g : GbV) (w : World) (e : Ending) (w' : World) : Prop := ∃ a cap, e = .returned (.tuple #[.agg #[.int .u8 g.t, .slice a g.n cap], .int .i64 g.c]) ∧ Rd .u8 w' a g.n g.l ∧ (g.n = 0 ∨ ∃ b, a = some ⟨b, 0, none⟩ ∧ w.heap.size ≤ b) ∧ Below w.heap.size w w'
/-- The box of a result, written. -/
theorem box_set {w : World} {g : Nat} {u v a b : Value} {T : TypeId} (h : w.heap[g]? = some (.cells #[u, v] T)) : ((w.setCell ⟨g, 0, none⟩ a).setCell ⟨g, 1, none⟩ b).heap[g]? = some (.cells #[a, b] T) := heap_setCell_same _ g 1 _ _ _ (heap_setCell_same _ g 0 _ _ _ h)
theorem OpenP.blob {w : World} {base X : Nat} {v1 v2 : Value} {xs : List BlV} {ys : List Nat} {kn : Nat} {fl : List Int} {i : Nat} {x : BlV} (h : OpenP w base X v1 v2 xs ys kn fl) (hx : xs[i]? = some x) :
    ∃ gb cap y, v1 = .slice (some ⟨gb, 0, none⟩) xs.length cap ∧ w.cell? ⟨gb, i * 2, none⟩ = some (.int .u8 x.t) ∧ w.cell? ⟨gb, i * 2 + 1, none⟩ = some (.slice (some ⟨y, 0, none⟩) x.n x.n) ∧ w.heap[y]? = some (.cells (ints .u8 x.l) 5) := by
  have hlt := (List.getElem?_eq_some_iff.1 hx).1
  obtain ⟨y, hy⟩ : ∃ y, ys[i]? = some y := ⟨ys[i]'(by rw [h.len]; exact hlt), List.getElem?_eq_getElem _⟩
  obtain ⟨b0, b1⟩ := blC_at xs ys i x y hx hy
  rcases h.row1.2 with ⟨_, h0⟩ | ⟨gb, cap, cur, hv, hb, hg, hc, hm, hs, ht⟩
  · omega
  · refine ⟨gb, cap, y, hv, ?_, ?_, h.data i x y hx hy⟩
    · rw [cell_of_row w gb (i * 2) _ _ _ hg, ← Array.getElem?_toList, ← b0, ← ht, List.getElem?_take_of_lt (by omega)]
    · rw [cell_of_row w gb (i * 2 + 1) _ _ _ hg, ← Array.getElem?_toList, ← b1, ← ht, List.getElem?_take_of_lt (by omega)]
theorem Rd.setBox2 {κ : IntKind} {w : World} {a : Option Addr} {n q : Nat} {l : List Int} {u v : Value} (h : Rd κ w a n l) (hn : n = 0 ∨ ∃ g, a = some ⟨g, 0, none⟩ ∧ g ≠ q) : Rd κ ((w.setCell ⟨q, 0, none⟩ u).setCell ⟨q, 1, none⟩ v) a n l := by
  refine ⟨h.1, ?_⟩
  rcases h.2 with h0 | ⟨b, off, he, hb, hc⟩
  · exact .inl h0
  · rcases hn with h0 | ⟨g, hg, hne⟩
    · exact .inl h0
    · rw [he] at hg
      cases hg
      refine .inr ⟨b, 0, he, by simpa [World.setCell] using hb, fun j hj => ?_⟩
      rw [World.cell?_setCell_far _ _ _ _ (fun e => hne e.symm), World.cell?_setCell_far _ _ _ _ (fun e => hne e.symm)]
      exact hc j hj
set_option maxRecDepth 100000 in
set_option maxHeartbeats 4000000 in
theorem gb_spec (g n : Nat) (bs : List BlV) (key : List Int) (hkey : IsK key) (hn : n ≤ 1048576) (hl : bs.length = n) (hf : ∀ (i : Nat) (x : BlV), bs[i]? = some x → BlG x) (w : World) (ha : OutB w g n n bs) :
    Calls Try.prog 28 #[.agg #[.slice (some ⟨g, 0, none⟩) n n], .agg (ints .u8 key)] w (GbR (gbV bs key) w) := by
  have BX : Below w.heap.size w (((w.alloc (.cells #[.slice (some ⟨g, 0, none⟩) n n] 29)).alloc (.cells (ints .u8 key) 46)).alloc (.cells #[.int .u8 0, .slice none 0 0] 43)) := by go_grown
  have A0 : (((w.alloc (.cells #[.slice (some ⟨g, 0, none⟩) n n] 29)).alloc (.cells (ints .u8 key) 46)).alloc (.cells #[.int .u8 0, .slice none 0 0] 43)).heap[w.heap.size]? = some (.cells #[.slice (some ⟨g, 0, none⟩) n n] 29) := heap3_0 w _ _ _
  have A1 : (((w.alloc (.cells #[.slice (some ⟨g, 0, none⟩) n n] 29)).alloc (.cells (ints .u8 key) 46)).alloc (.cells #[.int .u8 0, .slice none 0 0] 43)).heap[w.heap.size + 1]? = some (.cells (ints .u8 key) 46) := heap3_1 w _ _ _
  have A2 : (((w.alloc (.cells #[.slice (some ⟨g, 0, none⟩) n n] 29)).alloc (.cells (ints .u8 key) 46)).alloc (.cells #[.int .u8 0, .slice none 0 0] 43)).heap[w.heap.size + 1 + 1]? = some (.cells #[.int .u8 0, .slice none 0 0] 43) := heap3_2 w _ _ _
  have hS : (((w.alloc (.cells #[.slice (some ⟨g, 0, none⟩) n n] 29)).alloc (.cells (ints .u8 key) 46)).alloc (.cells #[.int .u8 0, .slice none 0 0] 43)).heap.size = w.heap.size + 3 := by simp
  obtain ⟨w0, hw0⟩ : ∃ w0, ((w.alloc (.cells #[.slice (some ⟨g, 0, none⟩) n n] 29)).alloc (.cells (ints .u8 key) 46)).alloc (.cells #[.int .u8 0, .slice none 0 0] 43) = w0 := ⟨_, rfl⟩
  rw [hw0] at BX A0 A1 A2 hS
  have HO := Lib.hid (open_spec w.heap.size g n bs hn hl hf w0 A0 (ha.below BX))
  have HB := Lib.hid BX
  have H1 := Lib.hid A1
  have H2 := Lib.hid A2
  have HS := Lib.hid hS
  have HK := Lib.hid hkey
  have HL := Lib.hid hl
  have HF := Lib.hid hf
  clear ha hf hl A0 A1 A2 hS hkey BX
  go_enter Try.func28, Try.ntmps28
  go_wp2_with fail
  refine HO.out.mono ?_
  rintro e w1 ⟨h, hb⟩
  have B1 := Lib.hid (HB.out.trans (hb.mono HB.out.size))
  have K1 := Lib.hid (keep_block H1.out hb)
  have G1 := Lib.hid (keep_block H2.out hb)
  clear hb HO HB H1 H2 hw0
  rcases h with ⟨hP, rfl, v1, v2, ys, hop⟩ | ⟨hP, rfl⟩
  · have HP := Lib.hid hP
    have OP := Lib.hid hop
    clear hP hop
    go_upto_region 4 with fail
    have hfd := Lib.hid (find_spec w0.heap.size w0.heap.size v1 v2 bs ys key HK.out (by have := HL.out; omega) w1 OP.out)
    go_upto_region 5 with (first
      | (refine wpList_load_row rfl 46 _ rfl (w.heap.size + 1) rfl 46 (ints .u8 key) (0, 0) _ K1.out Try.underlying46 rfl (by rw [ints_size, HK.out.1]; exact sizeKey) ?_)
      | (go_at_call 68; refine hfd.out.mono ?_; rintro e w2 ⟨r, rfl, hr, hb⟩))
    have B2 := Lib.hid (below_call B1.out B1.out.size hb)
    have G2 := Lib.hid (keep_block G1.out hb)
    have P2 := Lib.hid (OP.out.below hb)
    clear hb B1 G1 K1 OP hfd
    rcases hr with ⟨i, x, hx, hkx, rfl⟩ | ⟨hno, rfl⟩
    · have hG := Lib.hid (gbV_some HP.out hx hkx)
      have hXG := Lib.hid (HF.out i x hx)
      have hi : i < n := by have h1 := (List.getElem?_eq_some_iff.1 hx).1; have h2 := HL.out; omega
      obtain ⟨gb, cap, y, rfl, c0, c1, hy⟩ := P2.out.blob hx
      have HY := Lib.hid hy
      have qx := cell_of_row _ _ 0 _ _ _ P2.out.box
      clear hx hkx hy
      obtain ⟨xt, xa, xn, xc, xl⟩ := x
      dsimp only at hG hXG HY c0 c1
      have hcp := Lib.hid (l05Copy_spec xt y xn xl hXG.out.1.2.1 hXG.out.1.1 w2 HY.out)
      rw [HL.out] at qx
      have b0 : (0 : Int) ≤ (i : Int) := by omega
      have b1 : (i : Int) < (n : Int) := by omega
      have b2 : ¬ (i : Int) < 0 := by omega
      go_upto_region 7 with fail
      go_wp2_with fail
      refine hcp.out.mono ?_
      rintro e w3 ⟨a, cap3, rfl, hR, hN, hb⟩
      have G3 := Lib.hid (keep_block G2.out hb)
      have B3 := Lib.hid (below_call B2.out B2.out.size hb)
      have R3 := Lib.hid hR
      clear hb hR hcp c0 c1 qx
      have q0 := cell_of_row w3 (w.heap.size + 1 + 1) 0 _ _ _ G3.out
      have q1 := cell_of_row w3 (w.heap.size + 1 + 1) 1 _ _ _ G3.out
      have f0 := frozen_of_row w3 (w.heap.size + 1 + 1) 0 _ _ G3.out
      have f1 := frozen_of_row w3 (w.heap.size + 1 + 1) 1 _ _ G3.out
      go_wp2_with fail
      refine bodyPost_ret (results_cell2_row rfl _ _ (w.heap.size + 1 + 1) 43 #[.int .u8 xt, .slice a xn cap3] (0, 0) _ rfl (box_set G3.out) Try.underlying43 rfl sizeBl) rfl ?_
      have N3 := Lib.hid hN
      refine ⟨a, cap3, by rw [hG.out]; rfl, ?_, by rw [hG.out]; exact N3.out.imp id (fun ⟨b, h1, h2⟩ => ⟨b, h1, Nat.le_trans B2.out.size h2⟩), (B3.out.setCell (by simp; omega) _).setCell (by simp; omega) _⟩
      rw [hG.out]
      refine R3.out.setBox2 (hN.imp id (fun ⟨g', h1, h2⟩ => ⟨g', h1, ?_⟩))
      have h3 := (Array.getElem?_eq_some_iff.1 G2.out).1
      omega
    · have q0 := cell_of_row w2 (w.heap.size + 1 + 1) 0 _ _ _ G2.out
      have q1 := cell_of_row w2 (w.heap.size + 1 + 1) 1 _ _ _ G2.out
      have f0 := frozen_of_row w2 (w.heap.size + 1 + 1) 0 _ _ G2.out
      have f1 := frozen_of_row w2 (w.heap.size + 1 + 1) 1 _ _ G2.out
      go_wp2_with fail
      refine bodyPost_ret (results_cell2_row rfl _ _ (w.heap.size + 1 + 1) 43 #[.int .u8 0, .slice none 0 0] (0, 0) _ rfl (box_set G2.out) Try.underlying43 rfl sizeBl) rfl ?_
      exact ⟨none, 0, by rw [gbV_none HP.out hno]; rfl, by rw [gbV_none HP.out hno]; exact ⟨rfl, .inl rfl⟩, by rw [gbV_none HP.out hno]; exact .inl rfl, (B2.out.setCell (by simp; omega) _).setCell (by simp; omega) _⟩
  · have HP := Lib.hid hP
    clear hP
    have q0 := cell_of_row w1 (w.heap.size + 1 + 1) 0 _ _ _ G1.out
    have q1 := cell_of_row w1 (w.heap.size + 1 + 1) 1 _ _ _ G1.out
    have f0 := frozen_of_row w1 (w.heap.size + 1 + 1) 0 _ _ G1.out
    have f1 := frozen_of_row w1 (w.heap.size + 1 + 1) 1 _ _ G1.out
    go_wp2_with fail
    refine bodyPost_ret (results_cell2_row rfl _ _ (w.heap.size + 1 + 1) 43 #[.int .u8 0, .slice none 0 0] (0, 0) _ rfl (box_set G1.out) Try.underlying43 rfl sizeBl) rfl ?_
    exact ⟨none, 0, by rw [gbV_no HP.out]; rfl, by rw [gbV_no HP.out]; exact ⟨rfl, .inl rfl⟩, by rw [gbV_no HP.out]; exact .inl rfl, (B1.out.setCell (by simp; omega) _).setCell (by simp; omega) _⟩
end Go.Proofs.Ytabepfdononppaa
namespace Go.Proofs.Ytabepfdononppaa
open Go.ChangeShapes Go.WideShapes Go.ChangeAt Go.RowKit
set_option linter.unusedVariables false
set_option linter.unusedSimpArgs false
theorem OwnB.setBox2 {w : World} {base n q : Nat} {v u1 u2 : Value} {l : List Int} (h : OwnB w base v n l) (hq : q < base) : OwnB ((w.setCell ⟨q, 0, none⟩ u1).setCell ⟨q, 1, none⟩ u2) base v n l := by
  obtain ⟨a, cap, hv, hr, ho⟩ := h
  refine ⟨a, cap, hv, hr.setBox2 (ho.imp id fun ⟨g, T, L, h1, h2, _⟩ => ⟨g, h1, by omega⟩), ho.imp id fun ⟨g, T, L, h1, h2, h3⟩ => ⟨g, T, L, h1, h2, ?_⟩⟩
  exact (heap_setCell_other _ _ _ _ (by show g ≠ q; omega)).trans ((heap_setCell_other _ _ _ _ (by show g ≠ q; omega)).trans h3)
def GbI (g : GbV) (w : World) (e : Ending) (w' : World) : Prop := ∃ v, e = .returned (.tuple #[.agg #[.int .u8 g.t, v], .int .i64 g.c]) ∧ OwnB w' w.heap.size v g.n g.l ∧ Below w.heap.size w w'
set_option maxRecDepth 100000 in
set_option maxHeartbeats 4000000 in
theorem gb_impl (g n : Nat) (bs : List BlV) (key : List Int) (hkey : IsK key) (hn : n ≤ 1048576) (hl : bs.length = n) (hf : ∀ (i : Nat) (x : BlV), bs[i]? = some x → BlG x) (w : World) (ha : OutB w g n n bs) :
    Calls Try.prog 30 #[.agg #[.slice (some ⟨g, 0, none⟩) n n], .agg (ints .u8 key)] w (GbI (gbV bs key) w) := by
  have BX : Below w.heap.size w (((w.alloc (.cells #[.slice (some ⟨g, 0, none⟩) n n] 29)).alloc (.cells (ints .u8 key) 46)).alloc (.cells #[.int .u8 0, .slice none 0 0] 43)) := by go_grown
  have A0 : (((w.alloc (.cells #[.slice (some ⟨g, 0, none⟩) n n] 29)).alloc (.cells (ints .u8 key) 46)).alloc (.cells #[.int .u8 0, .slice none 0 0] 43)).heap[w.heap.size]? = some (.cells #[.slice (some ⟨g, 0, none⟩) n n] 29) := heap3_0 w _ _ _
  have A1 : (((w.alloc (.cells #[.slice (some ⟨g, 0, none⟩) n n] 29)).alloc (.cells (ints .u8 key) 46)).alloc (.cells #[.int .u8 0, .slice none 0 0] 43)).heap[w.heap.size + 1]? = some (.cells (ints .u8 key) 46) := heap3_1 w _ _ _
  have A2 : (((w.alloc (.cells #[.slice (some ⟨g, 0, none⟩) n n] 29)).alloc (.cells (ints .u8 key) 46)).alloc (.cells #[.int .u8 0, .slice none 0 0] 43)).heap[w.heap.size + 1 + 1]? = some (.cells #[.int .u8 0, .slice none 0 0] 43) := heap3_2 w _ _ _
  have hS : (((w.alloc (.cells #[.slice (some ⟨g, 0, none⟩) n n] 29)).alloc (.cells (ints .u8 key) 46)).alloc (.cells #[.int .u8 0, .slice none 0 0] 43)).heap.size = w.heap.size + 3 := by simp
  obtain ⟨w0, hw0⟩ : ∃ w0, ((w.alloc (.cells #[.slice (some ⟨g, 0, none⟩) n n] 29)).alloc (.cells (ints .u8 key) 46)).alloc (.cells #[.int .u8 0, .slice none 0 0] 43) = w0 := ⟨_, rfl⟩
  rw [hw0] at BX A0 A1 A2 hS
  have HO := Lib.hid (sof_impl g n bs hn hl hf w0 (ha.below BX))
  have HB := Lib.hid BX
  have H0 := Lib.hid A0
  have H1 := Lib.hid A1
  have H2 := Lib.hid A2
  have HS := Lib.hid hS
  have HK := Lib.hid hkey
  have HL := Lib.hid hl
  have HF := Lib.hid hf
  clear ha hf hl A0 A1 A2 hS hkey BX
  go_enter Try.func30, Try.ntmps30
  go_upto_region 1 with fail
  have qs := cell_of_row _ w.heap.size 0 _ _ _ H0.out
  go_wp2_with fail
  clear qs
  refine HO.out.mono ?_
  rintro e w1 ⟨h, hb⟩
  have B1 := Lib.hid (HB.out.trans (hb.mono HB.out.size))
  have K1 := Lib.hid (keep_block H1.out hb)
  have G1 := Lib.hid (keep_block H2.out hb)
  clear hb HO HB H0 H1 H2 hw0
  rcases h with ⟨hP, m, rfl, -, ps, hK, hlen, hps⟩ | ⟨hP, rfl⟩
  · have HP := Lib.hid hP
    clear hP
    have ha := hK.apart kty
    by_cases hx : ∃ (i : Nat) (x : BlV), bs[i]? = some x ∧ keyX x = key
    · obtain ⟨i, x, hx, hkx⟩ := hx
      have hG := Lib.hid (gbV_some HP.out hx hkx)
      have hXG := Lib.hid (HF.out i x hx)
      have hi := (List.getElem?_eq_some_iff.1 hx).1
      obtain ⟨p, hp⟩ : ∃ p, ps[i]? = some p := ⟨ps[i]'(by omega), List.getElem?_eq_getElem (by omega)⟩
      obtain ⟨hp1, y, hp2, hy⟩ := hps i p x hp hx
      obtain ⟨pk, pv⟩ := p
      dsimp only at hp1 hp2
      subst hp2
      have hgk : getK ps key = some (blV x y) := getK_at ha (by rw [← hkx, ← hp1]; exact List.mem_of_getElem? hp)
      have hlk := hK.look true kty shelfTy (zeroBl w1) HK.out
      rw [hgk] at hlk
      obtain ⟨xt, xa, xn, xc, xl⟩ := x
      dsimp only at hG hXG hy
      replace hlk : (Instr.lookup 81 (.map (some m)) (.agg (ints .u8 key)) true).run Try.prog w1 = .ok (.tuple #[.agg #[.int .u8 xt, .slice (some ⟨y, 0, none⟩) xn xn], .bool true]) w1 := hlk
      have HY := Lib.hid hy
      clear hy hp hp1 hx hkx hgk ha hps hK
      go_upto_region 4 with fail
      have hBB : Below w1.heap.size w1 (w1.alloc (.cells #[.int .u8 xt, (.slice (some ⟨y, 0, none⟩) xn xn)] 43)) := (Below.refl _ w1).alloc (Nat.le_refl _) _
      have hTT : (w1.alloc (.cells #[.int .u8 xt, (.slice (some ⟨y, 0, none⟩) xn xn)] 43)).heap[w1.heap.size]? = some (.cells #[.int .u8 xt, (.slice (some ⟨y, 0, none⟩) xn xn)] 43) := heap_alloc_last w1 _
      have HBB := Lib.hid hBB
      have HTT := Lib.hid hTT
      clear hBB hTT
      go_upto_region 5 with (first
        | (refine wpList_load_row rfl 46 _ rfl (w.heap.size + 1) rfl 46 (ints .u8 key) (0, 0) _ K1.out Try.underlying46 rfl (by rw [ints_size, HK.out.1]; exact sizeKey) ?_))
      clear hlk
      generalize w1.alloc (.cells #[.int .u8 xt, (.slice (some ⟨y, 0, none⟩) xn xn)] 43) = w2 at HBB HTT ⊢
      have Y2 := Lib.hid (keep_block HY.out HBB.out)
      have G2 := Lib.hid (keep_block G1.out HBB.out)
      have B2 := Lib.hid (below_call B1.out B1.out.size HBB.out)
      have hcp := Lib.hid (copied_impl xt y xn xl hXG.out.1.2.1 hXG.out.1.1 w2 Y2.out)
      have qa := cell_of_row _ _ 0 _ _ _ HTT.out
      have qb := cell_of_row _ _ 1 _ _ _ HTT.out
      clear HBB HTT
      go_wp2_with fail
      refine hcp.out.mono ?_
      rintro e w3 ⟨v, rfl, hO0, hb⟩
      obtain ⟨a3, cap3, rfl, -, hO⟩ := hO0.read
      have G3 := Lib.hid (keep_block G2.out hb)
      have B3 := Lib.hid (below_call B2.out B2.out.size hb)
      have O3 := Lib.hid hO
      have SZ := Lib.hid (show w.heap.size + 1 + 1 < w2.heap.size from (Array.getElem?_eq_some_iff.1 G2.out).1)
      clear hb hO hO0 hcp qa qb
      have q0 := cell_of_row w3 (w.heap.size + 1 + 1) 0 _ _ _ G3.out
      have q1 := cell_of_row w3 (w.heap.size + 1 + 1) 1 _ _ _ G3.out
      have f0 := frozen_of_row w3 (w.heap.size + 1 + 1) 0 _ _ G3.out
      have f1 := frozen_of_row w3 (w.heap.size + 1 + 1) 1 _ _ G3.out
      go_wp2_with fail
      refine bodyPost_ret (results_cell2_row rfl _ _ (w.heap.size + 1 + 1) 43 #[.int .u8 xt, .slice a3 xn cap3] (0, 0) _ rfl (box_set G3.out) Try.underlying43 rfl sizeBl) rfl ?_
      refine ⟨_, by rw [hG.out]; rfl, ?_, (B3.out.setCell (by simp; omega) _).setCell (by simp; omega) _⟩
      rw [hG.out]
      exact (O3.out.setBox2 SZ.out).mono (by have := SZ.out; omega)
    · have hno : ∀ (i : Nat) (x : BlV), bs[i]? = some x → keyX x ≠ key := fun i x h1 h2 => hx ⟨i, x, h1, h2⟩
      have hG := Lib.hid (gbV_none HP.out hno)
      have hgk : getK ps key = none := getK_none.2 (fun p hp => by
        obtain ⟨x, hx', e, _⟩ := shelf_mem hlen hps hp
        rw [e]
        obtain ⟨i, hi⟩ := List.getElem?_of_mem hx'
        exact hno i x hi)
      have hlk := hK.look true kty shelfTy (zeroBl w1) HK.out
      rw [hgk] at hlk
      replace hlk : (Instr.lookup 81 (.map (some m)) (.agg (ints .u8 key)) true).run Try.prog w1 = .ok (.tuple #[.agg #[.int .u8 0, .slice none 0 0], .bool false]) w1 := hlk
      clear hgk ha hps hK hno hx
      go_upto_region 4 with fail
      have hBB : Below w1.heap.size w1 (w1.alloc (.cells #[.int .u8 0, (.slice none 0 0)] 43)) := (Below.refl _ w1).alloc (Nat.le_refl _) _
      have hTT : (w1.alloc (.cells #[.int .u8 0, (.slice none 0 0)] 43)).heap[w1.heap.size]? = some (.cells #[.int .u8 0, (.slice none 0 0)] 43) := heap_alloc_last w1 _
      have HBB := Lib.hid hBB
      have HTT := Lib.hid hTT
      clear hBB hTT
      go_upto_region 5 with (first
        | (refine wpList_load_row rfl 46 _ rfl (w.heap.size + 1) rfl 46 (ints .u8 key) (0, 0) _ K1.out Try.underlying46 rfl (by rw [ints_size, HK.out.1]; exact sizeKey) ?_))
      clear hlk
      generalize w1.alloc (.cells #[.int .u8 0, (.slice none 0 0)] 43) = w2 at HBB HTT ⊢
      have G2 := Lib.hid (keep_block G1.out HBB.out)
      have B2 := Lib.hid (below_call B1.out B1.out.size HBB.out)
      clear HBB HTT
      have q0 := cell_of_row w2 (w.heap.size + 1 + 1) 0 _ _ _ G2.out
      have q1 := cell_of_row w2 (w.heap.size + 1 + 1) 1 _ _ _ G2.out
      have f0 := frozen_of_row w2 (w.heap.size + 1 + 1) 0 _ _ G2.out
      have f1 := frozen_of_row w2 (w.heap.size + 1 + 1) 1 _ _ G2.out
      go_wp2_with fail
      refine bodyPost_ret (results_cell2_row rfl _ _ (w.heap.size + 1 + 1) 43 #[.int .u8 0, .slice none 0 0] (0, 0) _ rfl (box_set G2.out) Try.underlying43 rfl sizeBl) rfl ?_
      exact ⟨_, by rw [hG.out]; rfl, by rw [hG.out]; exact OwnB.nil _ _ _ _, (B2.out.setCell (by simp; omega) _).setCell (by simp; omega) _⟩
  · have HP := Lib.hid hP
    clear hP
    have q0 := cell_of_row w1 (w.heap.size + 1 + 1) 0 _ _ _ G1.out
    have q1 := cell_of_row w1 (w.heap.size + 1 + 1) 1 _ _ _ G1.out
    have f0 := frozen_of_row w1 (w.heap.size + 1 + 1) 0 _ _ G1.out
    have f1 := frozen_of_row w1 (w.heap.size + 1 + 1) 1 _ _ G1.out
    go_wp2_with fail
    refine bodyPost_ret (results_cell2_row rfl _ _ (w.heap.size + 1 + 1) 43 #[.int .u8 0, .slice none 0 0] (0, 0) _ rfl (box_set G1.out) Try.underlying43 rfl sizeBl) rfl ?_
    exact ⟨_, by rw [gbV_no HP.out]; rfl, by rw [gbV_no HP.out]; exact OwnB.nil _ _ _ _, (B1.out.setCell (by simp; omega) _).setCell (by simp; omega) _⟩
end Go.Proofs.Ytabepfdononppaa
namespace Go.Proofs.Ytabepfdononppaa
open Go.ChangeShapes Go.WideShapes Go.ChangeAt Go.RowKit
set_option linter.unusedVariables false
set_option linter.unusedSimpArgs false
set_option maxRecDepth 100000 in
set_option maxHeartbeats 2000000 in
theorem markBl (t : Int) (v : Value) (n base : Nat) (xs : List Int) (k0 : Int) (h0 : 0 ≤ k0) (h1 : k0 ≤ 1099511627776) (hn : n ≤ 1048576) (w : World) (hbase : base ≤ w.heap.size) (ho : OwnB w base v n xs) :
    ∃ a cap, v = .slice a n cap ∧ Calls Try.prog 32 #[.agg #[.int .u8 t, .slice a n cap], .int .i64 k0] w fun e w' => e = .returned (.int .i64 (k0 + n)) ∧ OwnB w' base (.slice a n cap) n (markL k0 n) ∧ Below base w w' := by
  obtain ⟨a, cap, rfl, hm⟩ := markOwn v n base xs k0 h0 h1 hn (w.alloc (.cells #[.int .u8 t, v] 43)) (ho.below ((Below.refl _ w).alloc (Nat.le_refl _) _))
  refine ⟨a, cap, rfl, ?_⟩
  have HM := Lib.hid hm
  have HB := Lib.hid ((Below.refl base w).alloc hbase (.cells #[.int .u8 t, .slice a n cap] 43))
  clear hm ho
  have k1 : 0 ≤ k0 + (n : Int) := by omega
  generalize k0 + (n : Int) = r at HM k1 ⊢
  go_enter Try.func32, Try.ntmps32
  go_wp2_with fail
  refine HM.out.mono ?_
  rintro e w1 ⟨rfl, ho, hb⟩
  have HO := Lib.hid ho
  have HC := Lib.hid (HB.out.trans hb)
  clear ho hb
  go_wp2_with fail
  go_ret
  exact ⟨rfl, HO.out, HC.out⟩
set_option maxRecDepth 100000 in
set_option maxHeartbeats 2000000 in
theorem heldBl (t : Int) (a : Option Addr) (n cap : Nat) (k0 : Int) (h0 : 0 ≤ k0) (h1 : k0 ≤ 1099511627776) (hn : n ≤ 1048576) (w : World) (hr : Rd .u8 w a n (markL k0 n)) :
    Calls Try.prog 33 #[.agg #[.int .u8 t, .slice a n cap], .int .i64 k0] w fun e w' => e = .returned (.int .i64 (k0 + n)) ∧ Below w.heap.size w w' := by
  have HH := Lib.hid (heldBS a n cap k0 h0 h1 (by omega) (w.alloc (.cells #[.int .u8 t, .slice a n cap] 43)) (hr.below ((Below.refl _ w).alloc (Nat.le_refl _) _)))
  have HB := Lib.hid ((Below.refl w.heap.size w).alloc (Nat.le_refl _) (.cells #[.int .u8 t, .slice a n cap] 43))
  clear hr
  have k1 : ¬ k0 + (n : Int) < 0 := by omega
  generalize k0 + (n : Int) = r at HH k1 ⊢
  go_enter Try.func33, Try.ntmps33
  go_wp2_with fail
  refine HH.out.mono ?_
  rintro e w1 ⟨rfl, hb⟩
  first | subst hb | skip
  go_wp2_with fail
  go_ret
  exact ⟨rfl, HB.out⟩
theorem OwnB.setBoxQ {w : World} {base n q cap : Nat} {a : Option Addr} {u1 u2 : Value} {l : List Int} (h : OwnB w base (.slice a n cap) n l) (hn : n = 0 ∨ ∃ b, a = some ⟨b, 0, none⟩ ∧ b ≠ q) : OwnB ((w.setCell ⟨q, 0, none⟩ u1).setCell ⟨q, 1, none⟩ u2) base (.slice a n cap) n l := by
  obtain ⟨a', cap', hv, hr, ho⟩ := h
  cases hv
  refine ⟨a, cap, rfl, hr.setBox2 hn, ?_⟩
  rcases ho with h0 | ⟨g, T, L, h1, h2, h3⟩
  · exact .inl h0
  · rcases hn with h0 | ⟨b, h4, h5⟩
    · exact .inl h0
    · rw [h1] at h4
      cases h4
      exact .inr ⟨g, T, L, h1, h2, (heap_setCell_other _ _ _ _ (by show g ≠ q; exact h5)).trans ((heap_setCell_other _ _ _ _ (by show g ≠ q; exact h5)).trans h3)⟩
theorem OwnB.keepX {w w' : World} {base n cap : Nat} {a : Option Addr} {X : Nat → Prop} {l : List Int} (h : OwnB w base (.slice a n cap) n l) (hx : ∀ k, X k → k < base) (k : Keep w.heap.size X w w') : OwnB w' base (.slice a n cap) n l := by
  obtain ⟨a', cap', hv, hr, ho⟩ := h
  cases hv
  rcases ho with h0 | ⟨g, T, L, h1, h2, h3⟩
  · exact ⟨a, cap, rfl, ⟨hr.1, .inl h0⟩, .inl h0⟩
  · have h4 : w'.heap[g]? = some (.cells (ints .u8 (l ++ L)) T) := k.hold (fun h => by have := hx g h; omega) h3
    rw [h1]
    exact OwnB.of_block hr.1 h2 h4
theorem gbV_n {bs : List BlV} {key : List Int} (hf : ∀ (i : Nat) (x : BlV), bs[i]? = some x → BlF x) : (gbV bs key).n ≤ 1048576 := by
  unfold gbV
  split
  · split
    · rename_i h
      obtain ⟨i, hi, _⟩ := h.choose_spec
      exact (hf i _ hi).1
    · show 0 ≤ 1048576
      omega
  · show 0 ≤ 1048576
    omega
set_option maxRecDepth 100000 in
set_option maxHeartbeats 2000000 in
theorem markBlK (t : Int) (a : Option Addr) (n cap base : Nat) (xs : List Int) (k0 : Int) (h0 : 0 ≤ k0) (h1 : k0 ≤ 1099511627776) (hn : n ≤ 1048576) (w : World) (ho : OwnB w base (.slice a n cap) n xs) :
    Calls Try.prog 32 #[.agg #[.int .u8 t, .slice a n cap], .int .i64 k0] w fun e w' => e = .returned (.int .i64 (k0 + n)) ∧ OwnB w' base (.slice a n cap) n (markL k0 n) ∧ Keep w.heap.size (fun k => n ≠ 0 ∧ a = some ⟨k, 0, none⟩) w w' := by
  have hm : Calls Try.prog 54 #[.slice a n cap, .int .i64 k0] (w.alloc (.cells #[.int .u8 t, .slice a n cap] 43)) fun e w' => e = .returned (.int .i64 (k0 + n)) ∧ OwnB w' base (.slice a n cap) n (markL k0 n) ∧ Keep w.heap.size (fun k => n ≠ 0 ∧ a = some ⟨k, 0, none⟩) w w' := by
    obtain ⟨a', cap', hv, hr, h⟩ := ho.below ((Below.refl _ w).alloc (Nat.le_refl _) (.cells #[.int .u8 t, .slice a n cap] 43))
    cases hv
    have K0 : Keep w.heap.size (fun k => n ≠ 0 ∧ a = some ⟨k, 0, none⟩) w (w.alloc (.cells #[.int .u8 t, .slice a n cap] 43)) := Keep.of _ ((Below.refl _ w).alloc (Nat.le_refl _) _)
    by_cases hz : n = 0
    · subst hz
      refine (markBS0 a cap k0 _).mono fun e w' ⟨he, hw⟩ => ⟨by rw [he]; simp, OwnB.nil _ _ _ _, by rw [hw]; exact K0⟩
    · rcases h with h0 | ⟨g, T, L, rfl, hb, hg⟩
      · exact absurd h0 hz
      · refine (markBS' g n cap (xs ++ L) T k0 h0 h1 (by omega) (by rw [List.length_append, hr.1]; omega) _ hg).mono fun e w' ⟨he, hw⟩ => ⟨he, ?_, ?_⟩
        · rw [hw]
          exact OwnB.of_block (markL_len _ _) hb (setRow_heap _ _ _ _ _ _ hg)
        · rw [hw]
          exact K0.trans ⟨rfl, rfl, rfl, by simp [World.setRow], fun q _ hq => setRow_other _ _ _ _ (fun e => hq ⟨hz, by rw [e]⟩)⟩
  have HM := Lib.hid hm
  clear hm ho
  have k1 : 0 ≤ k0 + (n : Int) := by omega
  generalize k0 + (n : Int) = r at HM k1 ⊢
  go_enter Try.func32, Try.ntmps32
  go_wp2_with fail
  refine HM.out.mono ?_
  rintro e w1 ⟨rfl, ho, hb⟩
  have HO := Lib.hid ho
  have HC := Lib.hid hb
  clear ho hb
  go_wp2_with fail
  go_ret
  exact ⟨rfl, HO.out, HC.out⟩
end Go.Proofs.Ytabepfdononppaa
