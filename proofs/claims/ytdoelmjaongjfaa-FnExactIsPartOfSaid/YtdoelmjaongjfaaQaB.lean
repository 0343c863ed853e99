/- A shelf as a store, by the program; an open store as a store, by the specification. Written by wip/gen/shst.py. -/
import Derived.Test.YtdoelmjaongjfaaBase
import Derived.Test.YtdoelmjaongjfaaQaA
import Derived.Test.YtdoelmjaongjfaaOwnB
import Derived.Laws.IdiomCopy
import Derived.Lib.LazyBuf
import Derived.Test.YtdoelmjaongjfaaOwS
namespace Go.Proofs.Ytdoelmjaongjfaa
open Go.ChangeShapes Go.WideShapes Go.ChangeAt Go.RowKit
set_option linter.unusedVariables false
theorem run_part_ints {P : Program} {e : TypeId} {κ : IntKind} (he : P.underlying e = some (.int κ)) (l : List Int) (i : Nat) (hi : i < l.length) (w : World) :
    (part e (ints κ l) i).run P w = .ok (.int κ (l[i]?.getD 0)) w := by
  have hg := ints_get κ l i hi
  simp [part, isAgg, run_underlying he w, hg]
theorem all_range {l m : List Int} (h : l.length = m.length) : ((List.range' 0 l.length 1).all fun i => l[i]?.getD 0 == m[i]?.getD 0) = decide (l = m) := by
  rw [Bool.eq_iff_iff, List.all_eq_true]
  simp only [List.mem_range'_1, beq_iff_eq, decide_eq_true_eq]
  constructor
  · intro hA
    apply List.ext_getElem h
    intro i h1 h2
    have := hA i ⟨by omega, by omega⟩
    rw [List.getElem?_eq_getElem h1, List.getElem?_eq_getElem h2] at this
    exact this
  · rintro rfl i _
    rfl
theorem run_equalIn_ints {P : Program} {t e : TypeId} {n : Nat} {κ : IntKind} (ht : P.underlying t = some (.array n e)) (he : P.underlying e = some (.int κ)) (hs : (P.info? e).map (·.size) = some 1) (l m : List Int) (hl : l.length = n) (hm : m.length = n) (d : Nat) (w : World) :
    (Op.equalIn (d + 2) t (.agg (ints κ l)) (.agg (ints κ m))).run P w = .ok (decide (l = m)) w := by
  cases hq : P.info? e with
  | none => simp [hq] at hs
  | some ie =>
    have hz : ie.size = 1 := by simpa [hq] using hs
    rw [← all_range (hl.trans hm.symm), hl]
    unfold Op.equalIn
    simp only [Sem.run_bind, run_underlying ht w, Result.andThen_ok, sizeOf, typeInfo]
    have hprog : Sem.run P program w = .ok P w := rfl
    simp only [hprog, Result.andThen_ok, hq, Sem.run_pure, hz, Nat.mul_one, Std.Legacy.Range.forIn_eq_forIn_range', Std.Legacy.Range.size, Nat.sub_zero, Nat.add_sub_cancel, Nat.div_one]
    have hin : ∀ i ∈ List.range' 0 n 1, i < n := fun i hi => by
      have := (List.mem_range'_1.1 hi).2
      omega
    generalize List.range' 0 n 1 = is at hin ⊢
    induction is with
    | nil => simp
    | cons i is ih =>
      have hi := hin i (by simp)
      have hrest := ih (fun j hj => hin j (by simp [hj]))
      rw [List.forIn_cons]
      simp only [Sem.run_bind, run_part_ints he l i (by omega) w, run_part_ints he m i (by omega) w, Result.andThen_ok, run_equalIn_int w d e κ κ _ _ he, List.all_cons]
      cases hb : (l[i]?.getD 0 == m[i]?.getD 0)
      · simp
      · simpa using hrest
theorem run_eql_ints {P : Program} {t e : TypeId} {n : Nat} {κ : IntKind} (ht : P.underlying t = some (.array n e)) (he : P.underlying e = some (.int κ)) (hs : (P.info? e).map (·.size) = some 1) (l m : List Int) (hl : l.length = n) (hm : m.length = n) (w : World) :
    (binOp .eql t (.agg (ints κ l)) (.agg (ints κ m))).run P w = .ok (.bool (decide (l = m))) w := by
  rw [run_eql_struct, run_equalIn_ints ht he hs l m hl hm 9998 w]
  rfl
end Go.Proofs.Ytdoelmjaongjfaa
namespace Go.Proofs.Ytdoelmjaongjfaa
open Go.ChangeShapes Go.WideShapes Go.ChangeAt Go.RowKit
set_option linter.unusedVariables false
set_option linter.unusedSimpArgs false
theorem OpenP.anyKey {w : World} {base X : Nat} {v1 v2 : Value} {xs : List BlV} {ys : List Nat} {i : Nat} {x : BlV} (h : OpenP w base X v1 v2 xs ys xs.length (xs.flatMap keyX)) (hx : xs[i]? = some x) :
    ∃ kg cap, v2 = .slice (some ⟨kg, 0, none⟩) xs.length cap ∧ ∀ U, Below w.heap.size w U → U.rangeAt kg (i * 32) ((keyX x).map (Value.int .u8)) := by
  obtain ⟨h1, h2⟩ := h.row2
  have hlt := (List.getElem?_eq_some_iff.1 hx).1
  rcases h2 with ⟨_, h0⟩ | ⟨kg, cap, cur, hv, hb, hg, hc, hm, hs, ht⟩
  · omega
  · have hT : xs.flatMap keyX = (xs.take i).flatMap keyX ++ (keyX x ++ (xs.drop (i + 1)).flatMap keyX) := by
      have e : xs = xs.take i ++ (x :: xs.drop (i + 1)) := by
        rw [← (List.getElem?_eq_some_iff.1 hx).2, List.getElem_cons_drop, List.take_append_drop]
      conv => lhs; rw [e]
      rw [List.flatMap_append, List.flatMap_cons]
    have hL : ((xs.take i).flatMap keyX).length = 32 * i := by
      rw [flat_len, List.length_take]
      omega
    refine ⟨kg, cap, hv, fun U hU j v hv2 => ?_⟩
    have hj : j < 32 := by
      have := (List.getElem?_eq_some_iff.1 hv2).1
      rw [List.length_map, (isK_keyX x).1] at this
      exact this
    rw [cell_of_row U kg (i * 32 + j) _ _ _ (keep_block hg hU)]
    have h3 : (cur.toList.take (xs.length * 32))[i * 32 + j]? = some v := by
      rw [ht, hT, List.map_append, List.getElem?_append_right (by rw [List.length_map, hL]; omega), List.length_map, hL, show i * 32 + j - 32 * i = j by omega, List.map_append, List.getElem?_append_left (by rw [List.length_map, (isK_keyX x).1]; exact hj)]
      exact hv2
    rw [List.getElem?_take_of_lt (by omega), Array.getElem?_toList] at h3
    exact h3
theorem sizeU8x : (Try.prog.info? 5).map (·.size) = some 1 := by kernel_rfl
theorem eqlKx (a b : List Int) (ha : a.length = 32) (hb : b.length = 32) (W : World) : Sem.run Try.prog (Op.equalIn 10000 46 (.agg (ints .u8 a)) (.agg (ints .u8 b))) W = .ok (decide (a = b)) W :=
  run_equalIn_ints Try.underlying46 Try.underlying5 sizeU8x a b ha hb 9998 W
def FndR (xs : List BlV) (key : List Int) (r : Int) : Prop := (∃ (i : Nat) (x : BlV), xs[i]? = some x ∧ keyX x = key ∧ r = i) ∨ ((∀ (i : Nat) (x : BlV), xs[i]? = some x → keyX x ≠ key) ∧ r = -1)
set_option maxRecDepth 100000 in
set_option maxHeartbeats 4000000 in
theorem find_spec (X base : Nat) (v1 v2 : Value) (xs : List BlV) (ys : List Nat) (key : List Int) (hk : IsK key) (hx : xs.length ≤ 1048576) (w : World) (hop : OpenP w base X v1 v2 xs ys xs.length (xs.flatMap keyX)) :
    Calls Try.prog 64 #[.pointer (some ⟨X, 0, none⟩), .agg (ints .u8 key)] w fun e w' => ∃ r, e = .returned (.int .i64 r) ∧ FndR xs key r ∧ Below w.heap.size w w' := by
  have HK := Lib.hid hk
  have HOP := Lib.hid hop
  clear hop hk
  go_enter Try.func64, Try.ntmps64
  go_wp2_with fail
  go_loopw [5] (fun i wr => ∃ k : Nat, k ≤ xs.length ∧ i = .int .i64 k ∧ Hid (∀ (j : Nat) (x : BlV), j < k → xs[j]? = some x → keyX x ≠ key) ∧ Below w.heap.size w wr ∧ wr.heap[w.heap.size]? = some (.cells (ints .u8 key) 46)) (fun i _ => xs.length - (intOf i).toNat)
  case atStart => exact ⟨0, by omega, rfl, Lib.hid (fun j x hj => by omega), by go_grown, heap_alloc_last _ _⟩
  case round =>
    obtain ⟨k, hk, rfl, hp, hb, hg⟩ := hrel
    have HB := Lib.hid hb
    have HG := Lib.hid hg
    have OW := Lib.hid (HOP.out.below hb)
    have q1 := cell_of_row _ _ 1 _ _ _ OW.out.box
    clear hb hg
    by_cases hlt : k < xs.length
    · obtain ⟨x, hx0⟩ : ∃ x, xs[k]? = some x := ⟨xs[k], List.getElem?_eq_getElem hlt⟩
      obtain ⟨kg, cap, rfl, hrg⟩ := OW.out.anyKey hx0
      have RG := Lib.hid hrg
      have HX := Lib.hid hx0
      clear hrg hx0
      have HXL := Lib.hid (isK_keyX x).1
      obtain ⟨kk, hkk⟩ : ∃ kk, keyX x = kk := ⟨_, rfl⟩
      rw [hkk] at RG HXL
      have HKK := Lib.hid hkk
      clear hkk
      generalize hL : xs.length = L at *
      have b0 : (0 : Int) ≤ (k : Int) := by omega
      have b1 : (k : Int) < (L : Int) := by omega
      go_upto_region 4 with fail
      refine wp_region_held_drew (S := Below wr.heap.size wr) (by kernel_rfl) ((Below.refl _ _).drew) (fun hS => ?_)
      refine takeS (i := 0) (v := .pointer (some ⟨X, 0, none⟩)) rfl rfl (by kernel_rfl) (by kernel_rfl) (by kernel_rfl) (fun _ _ _ h => h) (Or.inl ⟨by rfl, fun U hU => by go_simp⟩) hS ?_
      try simp only [List.setIfInBounds_toArray, List.set_cons_zero, List.set_cons_succ]
      refine takeS (i := 1) (v := .pointer (some ⟨X, 0, none⟩)) rfl rfl (by kernel_rfl) (by kernel_rfl) (by kernel_rfl) (fun _ _ _ h => h) (Or.inl ⟨by rfl, fun U hU => by go_simp⟩) hS ?_
      try simp only [List.setIfInBounds_toArray, List.set_cons_zero, List.set_cons_succ]
      refine takeS (i := 2) (v := .pointer (some ⟨X, 1, none⟩)) rfl rfl (by kernel_rfl) (by kernel_rfl) (by kernel_rfl) (fun _ _ _ h => h) (Or.inl ⟨by rfl, fun U hU => by go_simp⟩) hS ?_
      try simp only [List.setIfInBounds_toArray, List.set_cons_zero, List.set_cons_succ]
      refine takeS (i := 3) (v := .slice (some ⟨kg, 0, none⟩) L cap) rfl rfl (by kernel_rfl) (by kernel_rfl) (by kernel_rfl) (fun _ _ _ h => h) (Or.inl ⟨by rfl, fun U hU => by have q0 := cell_of_row _ X 1 _ _ _ (keep_block OW.out.box hU); go_simp⟩) hS ?_
      try simp only [List.setIfInBounds_toArray, List.set_cons_zero, List.set_cons_succ]
      refine takeS (i := 4) (v := .int .i64 (k : Int)) rfl rfl (by kernel_rfl) (by kernel_rfl) (by kernel_rfl) (fun _ _ _ h => h) (Or.inl ⟨by rfl, fun U hU => by go_simp⟩) hS ?_
      try simp only [List.setIfInBounds_toArray, List.set_cons_zero, List.set_cons_succ]
      refine takeS (i := 5) (v := .pointer (some ⟨kg, k * 32, none⟩)) rfl rfl (by kernel_rfl) (by kernel_rfl) (by kernel_rfl) (fun _ _ _ h => h) (Or.inl ⟨by rfl, fun U hU => by go_simp⟩) hS ?_
      try simp only [List.setIfInBounds_toArray, List.set_cons_zero, List.set_cons_succ]
      refine takeS (i := 6) (v := .agg (ints .u8 kk)) rfl rfl (by kernel_rfl) (by kernel_rfl) (by kernel_rfl) (fun _ _ _ h => h) (yields_range (by rfl) 46 _ rfl kg (k * 32) rfl .u8 kk _ (fun U hU => RG.out U hU) Try.underlying46 rfl (by rw [HXL.out]; exact sizeKey)) hS ?_
      try simp only [List.setIfInBounds_toArray, List.set_cons_zero, List.set_cons_succ]
      refine takeS (i := 7) (v := .agg (ints .u8 key)) rfl rfl (by kernel_rfl) (by kernel_rfl) (by kernel_rfl) (fun _ _ _ h => h) (yields_rowS (by rfl) 46 _ rfl w.heap.size rfl (ints .u8 key) 46 _ (fun U hU => keep_block HG.out hU) Try.underlying46 rfl (by rw [ints_size, HK.out.1]; exact sizeKey)) hS ?_
      try simp only [List.setIfInBounds_toArray, List.set_cons_zero, List.set_cons_succ]
      refine takeS (i := 8) (v := .bool (decide (kk = key))) rfl rfl (by kernel_rfl) (by kernel_rfl) (by kernel_rfl) (fun _ _ _ h => h) (Or.inl ⟨by rfl, fun U hU => by have heq := eqlKx kk key HXL.out HK.out.1 U; go_simp⟩) hS ?_
      try simp only [List.setIfInBounds_toArray, List.set_cons_zero, List.set_cons_succ]
      refine wpAnyH_done (by kernel_rfl) ?_ _
      have BE := Lib.hid (below_call HB.out HB.out.size hS)
      have GE := Lib.hid (keep_block HG.out hS)
      clear hS
      by_cases heq : kk = key
      · have hd : decide (kk = key) = true := decide_eq_true heq
        rw [hd]
        have HE := Lib.hid heq
        clear hd heq
        go_wp2_with fail
        go_ret
        exact ⟨_, rfl, .inl ⟨k, x, HX.out, HKK.out.trans HE.out, rfl⟩, BE.out⟩
      · have hd : decide (kk = key) = false := decide_eq_false heq
        rw [hd]
        have HE := Lib.hid heq
        clear hd heq
        go_wp2_with fail
        go_roundw
        case rel =>
          refine ⟨k + 1, by omega, by go_num, Lib.hid (fun j z hj hz => ?_), BE.out, GE.out⟩
          by_cases hjk : j = k
          · subst hjk
            have e := HX.out
            rw [hz] at e
            cases e
            rw [HKK.out]
            exact HE.out
          · exact hp.out j z (by omega) hz
        case measure => simp [intOf]; omega
    · obtain rfl : k = xs.length := by omega
      obtain ⟨a2, c2, rfl, -⟩ := RdK.owned (flat_len xs) OW.out.row2
      generalize hL : xs.length = L at *
      go_wp2_with fail
      go_ret
      exact ⟨_, rfl, .inr ⟨fun i x hi => hp.out i x (by have := (List.getElem?_eq_some_iff.1 hi).1; omega) hi, rfl⟩, HB.out⟩
end Go.Proofs.Ytdoelmjaongjfaa
namespace Go.Proofs.Ytdoelmjaongjfaa
open Go.ChangeShapes Go.WideShapes Go.ChangeAt Go.RowKit
set_option linter.unusedVariables false
set_option linter.unusedSimpArgs false
theorem sizeU8c : (Try.prog.info? 5).map (·.size) = some 1 := by kernel_rfl
theorem row_exactC {w : World} {g : Nat} {T : TypeId} {N : Nat} {f : Nat → Value} {A : Array Value} (h : w.rowIs g T N f) (hs : A.size = N) (hA : ∀ i, i < N → A[i]? = some (f i)) : w.heap[g]? = some (.cells A T) := by
  obtain ⟨c, hg, hcs, hc⟩ := h
  rw [hg]
  congr 2
  apply Array.ext_getElem?
  intro i
  by_cases hi : i < N
  · rw [hc i hi, hA i hi]
  · rw [Array.getElem?_eq_none (by omega), Array.getElem?_eq_none (by omega)]
theorem row_blockC {w : World} {g : Nat} {T : TypeId} {A : Array Value} (h : w.heap[g]? = some (.cells A T)) : w.rowIs g T A.size (fun i => A[i]?.getD default) :=
  ⟨A, h, rfl, fun i hi => by show A[i]? = some (A[i]?.getD default); rw [Array.getElem?_eq_getElem hi]; rfl⟩
theorem filledC {w : World} {g : Nat} {l0 l : List Int} {T : TypeId} (hl : l.length = l0.length) (h : w.heap[g]? = some (.cells (ints .u8 l0) T)) :
    (w.setCells g 0 (l.map (Value.int .u8))).heap[g]? = some (.cells (ints .u8 l) T) := by
  have hb := Go.rowIs_setCells (l.map (Value.int .u8)) 0 _ _ (row_blockC h)
  refine row_exactC hb (by rw [ints_size, ints_size, hl]) fun i hi => ?_
  rw [ints_size] at hi
  have hi2 : i < l.length := by omega
  simp [ints, hi2]
set_option maxRecDepth 100000 in
set_option maxHeartbeats 4000000 in
theorem copyOf_impl (y n : Nat) (l : List Int) (hl : l.length = n) (hn : n ≤ 1048576) (w : World) (hy : w.heap[y]? = some (.cells (ints .u8 l) 5)) :
    Calls Try.prog 102 #[.slice (some ⟨y, 0, none⟩) n n] w fun e w' => e = .returned (.slice (some ⟨w.heap.size, 0, none⟩) n n) ∧ w'.heap[w.heap.size]? = some (.cells (ints .u8 l) 5) ∧ Below w.heap.size w w' := by
  have hmk := run_make_row' (P := Try.prog) 41 5 (.int .u8 0) 1 Try.underlying41 infoByte rfl .i64 .i64 n (by omega) (by omega) w
  rw [made_zero] at hmk
  have A1 := heap_alloc_last w (.cells (ints .u8 (List.replicate n 0)) 5)
  have Y1 := keep_block hy ((Below.refl w.heap.size w).alloc (Nat.le_refl _) (.cells (ints .u8 (List.replicate n 0)) 5))
  have B1 := (Below.refl w.heap.size w).alloc (Nat.le_refl _) (.cells (ints .u8 (List.replicate n 0)) 5)
  obtain ⟨W1, hW1⟩ : ∃ W1, w.alloc (.cells (ints .u8 (List.replicate n 0)) 5) = W1 := ⟨_, rfl⟩
  rw [hW1] at A1 Y1 B1 hmk
  have hcp := fun ty => run_copy_cells (P := Try.prog) W1 41 41 ty 5 w.heap.size 0 n n ⟨y, 0, none⟩ n n (l.map (Value.int .u8)) Try.underlying41 sizeU8c (by rw [List.length_map, hl]; simp)
    (fun j v hj => by rw [addr_add, Nat.zero_add]; exact (cell_of_row W1 y j _ _ _ Y1).trans (by simpa [ints] using hj))
    (fun j hj => by rw [List.length_map, hl] at hj; rw [Nat.zero_add, cell_of_row W1 w.heap.size j _ _ _ A1]; simp [ints, hj])
    (fun j hj => frozen_of_row W1 w.heap.size (0 + j) _ _ A1) (fun v hv => by obtain ⟨z, _, rfl⟩ := List.mem_map.1 hv; rfl)
  rw [List.length_map, hl] at hcp
  have G2 := filledC (w := W1) (l := l) (by rw [hl, List.length_replicate]) A1
  have B2 := below_setCells_k (g := w.heap.size) (Nat.le_refl _) (l.map (Value.int .u8)) 0 _ B1
  generalize W1.setCells w.heap.size 0 (l.map (Value.int .u8)) = W2 at hcp G2 B2
  have HG := Lib.hid G2
  have HB := Lib.hid B2
  clear G2 B2 A1 Y1 B1 hy hW1
  go_enter Try.func102, Try.ntmps102
  go_wp2
  go_ret
  exact ⟨rfl, HG.out, HB.out⟩
set_option maxRecDepth 100000 in
set_option maxHeartbeats 4000000 in
theorem copied_impl (t : Int) (y n : Nat) (l : List Int) (hl : l.length = n) (hn : n ≤ 1048576) (w : World) (hy : w.heap[y]? = some (.cells (ints .u8 l) 5)) :
    Calls Try.prog 66 #[.agg #[.int .u8 t, .slice (some ⟨y, 0, none⟩) n n]] w fun e w' => ∃ v, e = .returned (.agg #[.int .u8 t, v]) ∧ OwnB w' w.heap.size v n l ∧ Below w.heap.size w w' := by
  have A0 := heap_alloc2_old w (.cells #[.int .u8 t, .slice (some ⟨y, 0, none⟩) n n] 43) (.cells #[.int .u8 0, .slice none 0 0] 43)
  have A1 := heap_alloc2_new w (.cells #[.int .u8 t, .slice (some ⟨y, 0, none⟩) n n] 43) (.cells #[.int .u8 0, .slice none 0 0] 43)
  have B0 := ((Below.refl w.heap.size w).alloc (Nat.le_refl _) (.cells #[.int .u8 t, .slice (some ⟨y, 0, none⟩) n n] 43)).alloc (by simp) (.cells #[.int .u8 0, .slice none 0 0] 43)
  have Y0 := keep_block hy B0
  obtain ⟨W1, hW1⟩ : ∃ W1, (w.alloc (.cells #[.int .u8 t, .slice (some ⟨y, 0, none⟩) n n] 43)).alloc (.cells #[.int .u8 0, .slice none 0 0] 43) = W1 := ⟨_, rfl⟩
  have hSZ : W1.heap.size = w.heap.size + 2 := by rw [← hW1]; simp
  rw [hW1] at A0 A1 B0 Y0
  have HA0 := Lib.hid A0
  have HA1 := Lib.hid A1
  have HB0 := Lib.hid B0
  have HY0 := Lib.hid Y0
  have HSZ := Lib.hid hSZ
  clear A0 A1 B0 Y0 hSZ hy
  go_enter Try.func66, Try.ntmps66
  go_upto_region 1 with fail
  refine wp_region_held_drew (S := fun U => Below w.heap.size w U ∧ U.heap[w.heap.size]? = some (.cells #[.int .u8 t, .slice (some ⟨y, 0, none⟩) n n] 43)) (by kernel_rfl) ⟨HB0.out.drew, HA0.out⟩ (fun hS => ?_)
  refine takeS (i := 0) (v := .pointer (some ⟨w.heap.size, 0, none⟩)) rfl rfl (by kernel_rfl) (by kernel_rfl) (by kernel_rfl) (fun _ _ _ h => h) (Or.inl ⟨by rfl, fun U hU => by go_simp⟩) hS ?_
  try simp only [List.setIfInBounds_toArray, List.set_cons_zero, List.set_cons_succ]
  refine takeS (i := 1) (v := .int .u8 t) rfl rfl (by kernel_rfl) (by kernel_rfl) (by kernel_rfl) (fun _ _ _ h => h) (Or.inl ⟨by rfl, fun U hU => by have q0 := cell_of_row _ w.heap.size 0 _ _ _ hU.2; go_simp⟩) hS ?_
  try simp only [List.setIfInBounds_toArray, List.set_cons_zero, List.set_cons_succ]
  refine takeS (i := 2) (v := .pointer (some ⟨w.heap.size, 1, none⟩)) rfl rfl (by kernel_rfl) (by kernel_rfl) (by kernel_rfl) (fun _ _ _ h => h) (Or.inl ⟨by rfl, fun U hU => by go_simp⟩) hS ?_
  try simp only [List.setIfInBounds_toArray, List.set_cons_zero, List.set_cons_succ]
  refine takeS (i := 3) (v := .slice (some ⟨y, 0, none⟩) n n) rfl rfl (by kernel_rfl) (by kernel_rfl) (by kernel_rfl) (fun _ _ _ h => h) (Or.inl ⟨by rfl, fun U hU => by have q0 := cell_of_row _ w.heap.size 1 _ _ _ hU.2; go_simp⟩) hS ?_
  try simp only [List.setIfInBounds_toArray, List.set_cons_zero, List.set_cons_succ]
  refine wpAnyH_ready (rs := [4]) (by kernel_rfl) (by simp) ?_
  refine AllReadyH.cons rfl (fun KQ hK => ?_) AllReadyH.nil
  rw [if_pos (by rfl)]
  go_simp
  refine (copyOf_impl y n l hl hn W1.drew HY0.out).mono ?_
  rintro e w5 ⟨rfl, hg, hb⟩
  have A5 := Lib.hid (keep_block (w := W1.drew) HA1.out hb)
  have C5 := Lib.hid (keep_block (w := W1.drew) HA0.out hb)
  have B5 := Lib.hid (HB0.out.drew.trans (hb.mono HB0.out.size))
  have G5 := Lib.hid hg
  refine hK.out _ _ ⟨B5.out, C5.out⟩ (fun hS => ?_)
  clear hb hK hg
  rw [show W1.drew.heap.size = w.heap.size + 2 from HSZ.out] at G5 ⊢
  refine takeS (i := 5) (v := .agg #[.int .u8 t, .slice (some ⟨w.heap.size + 2, 0, none⟩) n n]) rfl rfl (by kernel_rfl) (by kernel_rfl) (by kernel_rfl) (fun _ _ _ h => h) (Or.inl ⟨by rfl, fun U hU => by go_simp⟩) hS ?_
  try simp only [List.setIfInBounds_toArray, List.set_cons_zero, List.set_cons_succ]
  refine wpAnyH_ready (rs := [6]) (by kernel_rfl) (by simp) ?_
  refine AllReadyH.cons rfl (fun KQ hK => ?_) AllReadyH.nil
  rw [if_pos (by rfl)]
  have q0 := cell_of_row w5 (w.heap.size + 1) 0 _ _ _ A5.out
  have q1 := cell_of_row w5 (w.heap.size + 1) 1 _ _ _ A5.out
  have f0 := frozen_of_row w5 (w.heap.size + 1) 0 _ _ A5.out
  have f1 := frozen_of_row w5 (w.heap.size + 1) 1 _ _ A5.out
  go_simp
  have A6 : ((w5.setCell ⟨w.heap.size + 1, 0, none⟩ (.int .u8 t)).setCell ⟨w.heap.size + 1, 1, none⟩ (.slice (some ⟨w.heap.size + 2, 0, none⟩) n n)).heap[w.heap.size + 1]? = some (.cells #[.int .u8 t, .slice (some ⟨w.heap.size + 2, 0, none⟩) n n] 43) := heap_setCell_same _ (w.heap.size + 1) 1 _ _ _ (heap_setCell_same _ (w.heap.size + 1) 0 _ _ _ A5.out)
  have G6 : ((w5.setCell ⟨w.heap.size + 1, 0, none⟩ (.int .u8 t)).setCell ⟨w.heap.size + 1, 1, none⟩ (.slice (some ⟨w.heap.size + 2, 0, none⟩) n n)).heap[w.heap.size + 2]? = some (.cells (ints .u8 l) 5) := (heap_setCell_other _ _ _ _ (by simp)).trans ((heap_setCell_other _ _ _ _ (by simp)).trans G5.out)
  have C6 : ((w5.setCell ⟨w.heap.size + 1, 0, none⟩ (.int .u8 t)).setCell ⟨w.heap.size + 1, 1, none⟩ (.slice (some ⟨w.heap.size + 2, 0, none⟩) n n)).heap[w.heap.size]? = some (.cells #[.int .u8 t, .slice (some ⟨y, 0, none⟩) n n] 43) := (heap_setCell_other _ _ _ _ (by simp)).trans ((heap_setCell_other _ _ _ _ (by simp)).trans C5.out)
  have B6 : Below w.heap.size w ((w5.setCell ⟨w.heap.size + 1, 0, none⟩ (.int .u8 t)).setCell ⟨w.heap.size + 1, 1, none⟩ (.slice (some ⟨w.heap.size + 2, 0, none⟩) n n)) := (B5.out.setCell (by simp) _).setCell (by simp) _
  refine hK.out _ _ ⟨B6, C6⟩ (fun hS => ?_)
  clear hK q0 q1 f0 f1
  generalize (w5.setCell ⟨w.heap.size + 1, 0, none⟩ (.int .u8 t)).setCell ⟨w.heap.size + 1, 1, none⟩ (.slice (some ⟨w.heap.size + 2, 0, none⟩) n n) = w6 at A6 G6 C6 B6 hS ⊢
  refine wpAnyH_done (by kernel_rfl) ?_ _
  go_wp2_with fail
  refine bodyPost_ret (results_cell_row rfl _ _ (w.heap.size + 1) 43 #[.int .u8 t, .slice (some ⟨w.heap.size + 2, 0, none⟩) n n] (0, 0) _ rfl A6 Try.underlying43 rfl (by show _ = some 2; kernel_rfl)) rfl ?_
  exact ⟨_, rfl, OwnB.of_block (L := []) hl (by omega) (by rw [List.append_nil]; exact G6), B6⟩
set_option maxRecDepth 100000 in
set_option maxHeartbeats 4000000 in
theorem l05Copy_spec (t : Int) (y n : Nat) (l : List Int) (hl : l.length = n) (hn : n ≤ 1048576) (w : World) (hy : w.heap[y]? = some (.cells (ints .u8 l) 5)) :
    Calls Try.prog 65 #[.agg #[.int .u8 t, .slice (some ⟨y, 0, none⟩) n n]] w fun e w' => ∃ a cap, e = .returned (.agg #[.int .u8 t, .slice a n cap]) ∧ Rd .u8 w' a n l ∧ (n = 0 ∨ ∃ g, a = some ⟨g, 0, none⟩ ∧ w.heap.size ≤ g) ∧ Below w.heap.size w w' := by
  have A0 := heap_alloc2_old w (.cells #[.int .u8 t, .slice (some ⟨y, 0, none⟩) n n] 43) (.cells #[.int .u8 0, .slice none 0 0] 43)
  have A1 := heap_alloc2_new w (.cells #[.int .u8 t, .slice (some ⟨y, 0, none⟩) n n] 43) (.cells #[.int .u8 0, .slice none 0 0] 43)
  have B0 := ((Below.refl w.heap.size w).alloc (Nat.le_refl _) (.cells #[.int .u8 t, .slice (some ⟨y, 0, none⟩) n n] 43)).alloc (by simp) (.cells #[.int .u8 0, .slice none 0 0] 43)
  have Y0 := keep_block hy B0
  obtain ⟨W1, hW1⟩ : ∃ W1, (w.alloc (.cells #[.int .u8 t, .slice (some ⟨y, 0, none⟩) n n] 43)).alloc (.cells #[.int .u8 0, .slice none 0 0] 43) = W1 := ⟨_, rfl⟩
  have hSZ : W1.heap.size = w.heap.size + 2 := by rw [← hW1]; simp
  rw [hW1] at A0 A1 B0 Y0
  obtain ⟨i0, hi, hz0, hz1, hz2⟩ := info_parts infoU8
  have Hi := Lib.hid hi
  clear hi
  have HA0 := Lib.hid A0
  have HA1 := Lib.hid A1
  have HB0 := Lib.hid B0
  have HY0 := Lib.hid Y0
  have HSZ := Lib.hid hSZ
  clear A0 A1 B0 Y0 hSZ hy
  go_enter Try.func65, Try.ntmps65
  go_upto_region 1 with fail
  refine wp_region_held_drew (S := fun U => Below w.heap.size w U ∧ U.heap[w.heap.size]? = some (.cells #[.int .u8 t, .slice (some ⟨y, 0, none⟩) n n] 43)) (by kernel_rfl) ⟨HB0.out.drew, HA0.out⟩ (fun hS => ?_)
  refine takeS (i := 0) (v := .pointer (some ⟨w.heap.size, 0, none⟩)) rfl rfl (by kernel_rfl) (by kernel_rfl) (by kernel_rfl) (fun _ _ _ h => h) (Or.inl ⟨by rfl, fun U hU => by go_simp⟩) hS ?_
  try simp only [List.setIfInBounds_toArray, List.set_cons_zero, List.set_cons_succ]
  refine takeS (i := 1) (v := .int .u8 t) rfl rfl (by kernel_rfl) (by kernel_rfl) (by kernel_rfl) (fun _ _ _ h => h) (Or.inl ⟨by rfl, fun U hU => by have q0 := cell_of_row _ w.heap.size 0 _ _ _ hU.2; go_simp⟩) hS ?_
  try simp only [List.setIfInBounds_toArray, List.set_cons_zero, List.set_cons_succ]
  refine takeS (i := 3) (v := .pointer (some ⟨w.heap.size, 1, none⟩)) rfl rfl (by kernel_rfl) (by kernel_rfl) (by kernel_rfl) (fun _ _ _ h => h) (Or.inl ⟨by rfl, fun U hU => by go_simp⟩) hS ?_
  try simp only [List.setIfInBounds_toArray, List.set_cons_zero, List.set_cons_succ]
  refine takeS (i := 4) (v := .slice (some ⟨y, 0, none⟩) n n) rfl rfl (by kernel_rfl) (by kernel_rfl) (by kernel_rfl) (fun _ _ _ h => h) (Or.inl ⟨by rfl, fun U hU => by have q0 := cell_of_row _ w.heap.size 1 _ _ _ hU.2; go_simp⟩) hS ?_
  try simp only [List.setIfInBounds_toArray, List.set_cons_zero, List.set_cons_succ]
  refine wpAnyH_ready (rs := [2]) (by kernel_rfl) (by simp) ?_
  refine AllReadyH.cons rfl (fun KQ hK => ?_) AllReadyH.nil
  rw [if_pos (by rfl)]
  go_simp
  have hB3 : Below w.heap.size w (W1.alloc (.cells #[] 5)).drew := hS.1.alloc (B := w.heap.size) (by show w.heap.size ≤ W1.heap.size; rw [HSZ.out]; omega) (.cells #[] 5)
  have L3 := (Below.refl W1.heap.size W1).alloc (Nat.le_refl _) (.cells #[] 5)
  have A3 := keep_block HA1.out L3
  have C3 := keep_block HA0.out L3
  have Y3 := keep_block HY0.out L3
  have O3 : (W1.alloc (.cells #[] 5)).ownsRow W1.heap.size 5 1 (.slice (some ⟨W1.heap.size, 0, none⟩) 0 0) 0 [] := ⟨rfl, Or.inr ⟨W1.heap.size, 0, #[], rfl, Nat.le_refl _, heap_alloc_last _ _, by omega, by unfold maxLen; omega, rfl, rfl⟩⟩
  have S3 : (W1.alloc (.cells #[] 5)).heap.size = W1.heap.size + 1 := by simp
  refine hK.out _ _ ⟨hB3, C3⟩ (fun hS => ?_)
  clear hK L3
  generalize W1.alloc (.cells #[] 5) = W3 at hB3 A3 C3 Y3 O3 S3 hS ⊢
  refine wpAnyH_ready (rs := [5]) (by kernel_rfl) (by simp) ?_
  refine AllReadyH.cons rfl (fun KQ hK => ?_) AllReadyH.nil
  rw [if_pos (by rfl)]
  refine wp_append_own _ _ _ 41 rfl W1.heap.size 5 i0 (.int .u8 0) 1 1 Try.underlying41 Hi.out hz0 hz1 hz2 rfl (by decide) _ 0 [] rfl O3 ⟨y, 0, none⟩ n n (l.map (Value.int .u8)) rfl (by simp [hl]) ?c1 ?c2 ?c3 ?c4 ?c5 ?_
  case c1 =>
    intro j u hu
    rw [addr_add, Nat.zero_add]
    exact (cell_of_row W3 y j _ _ _ Y3).trans (by simpa [ints] using hu)
  case c2 => intro u hu; obtain ⟨z, _, rfl⟩ := List.mem_map.1 hu; rfl
  case c3 => unfold maxLen; omega
  case c4 => omega
  case c5 => show W1.heap.size ≤ W3.heap.size; omega
  intro v4 w4 hown hg _
  have hg' : W3.drew.grownBy w4 (some W1.heap.size) := hg
  have S3d : W3.drew.heap.size = W3.heap.size := rfl
  have hz := HSZ.out
  have A4 := (hg'.block (w.heap.size + 1) (by omega) (fun e => by have := Option.some.inj e; omega)).trans A3
  have C4 := (hg'.block w.heap.size (by omega) (fun e => by have := Option.some.inj e; omega)).trans C3
  have B4 : Below w.heap.size w w4 := hB3.trans ⟨hg'.os, hg'.tape, hg'.output, hg'.size, fun k hk => hg'.block k (by omega) (fun e => by have := Option.some.inj e; omega)⟩
  have hR : ∃ (a : Option Addr) (cap : Nat), v4 = .slice a n cap ∧ (n = 0 ∨ ∃ g, a = some ⟨g, 0, none⟩ ∧ W1.heap.size ≤ g ∧ g < w4.heap.size ∧ ∀ j, j < n → w4.cell? ⟨g, j, none⟩ = some (.int .u8 (l[j]?.getD 0))) := by
    rcases hown.2 with ⟨rfl, h0⟩ | ⟨g, cap, cur, rfl, hgb, hgc, h1, h2, h3, h4⟩
    · have : n = 0 := by omega
      subst this
      exact ⟨none, 0, rfl, .inl rfl⟩
    · refine ⟨_, cap, by rw [Nat.zero_add], .inr ⟨g, rfl, hgb, (Array.getElem?_eq_some_iff.1 hgc).1, fun j hj => ?_⟩⟩
      rw [cell_of_row w4 g j _ _ _ hgc]
      have h5 : (cur.toList.take ((0 + n) * 1))[j]? = some (.int .u8 (l[j]?.getD 0)) := by
        rw [h4, List.nil_append, List.getElem?_map, List.getElem?_eq_getElem (by omega)]
        rfl
      rw [List.getElem?_take_of_lt (by omega), Array.getElem?_toList] at h5
      exact h5
  obtain ⟨a4, c4, rfl, hR⟩ := hR
  refine hK.out _ _ ⟨B4, C4⟩ (fun hS => ?_)
  clear hK hown hg hg' hB3 A3 C3 Y3 O3
  refine takeS (i := 6) (v := .agg #[.int .u8 t, .slice a4 n c4]) rfl rfl (by kernel_rfl) (by kernel_rfl) (by kernel_rfl) (fun _ _ _ h => h) (Or.inl ⟨by rfl, fun U hU => by go_simp⟩) hS ?_
  try simp only [List.setIfInBounds_toArray, List.set_cons_zero, List.set_cons_succ]
  refine wpAnyH_ready (rs := [7]) (by kernel_rfl) (by simp) ?_
  refine AllReadyH.cons rfl (fun KQ hK => ?_) AllReadyH.nil
  rw [if_pos (by rfl)]
  have q0 := cell_of_row w4 (w.heap.size + 1) 0 _ _ _ A4
  have q1 := cell_of_row w4 (w.heap.size + 1) 1 _ _ _ A4
  have f0 := frozen_of_row w4 (w.heap.size + 1) 0 _ _ A4
  have f1 := frozen_of_row w4 (w.heap.size + 1) 1 _ _ A4
  go_simp
  have A6 : ((w4.setCell ⟨w.heap.size + 1, 0, none⟩ (.int .u8 t)).setCell ⟨w.heap.size + 1, 1, none⟩ (.slice a4 n c4)).heap[w.heap.size + 1]? = some (.cells #[.int .u8 t, .slice a4 n c4] 43) := heap_setCell_same _ (w.heap.size + 1) 1 _ _ _ (heap_setCell_same _ (w.heap.size + 1) 0 _ _ _ A4)
  have C6 : ((w4.setCell ⟨w.heap.size + 1, 0, none⟩ (.int .u8 t)).setCell ⟨w.heap.size + 1, 1, none⟩ (.slice a4 n c4)).heap[w.heap.size]? = some (.cells #[.int .u8 t, .slice (some ⟨y, 0, none⟩) n n] 43) := (heap_setCell_other _ _ _ _ (by simp)).trans ((heap_setCell_other _ _ _ _ (by simp)).trans C4)
  have B6 : Below w.heap.size w ((w4.setCell ⟨w.heap.size + 1, 0, none⟩ (.int .u8 t)).setCell ⟨w.heap.size + 1, 1, none⟩ (.slice a4 n c4)) := (B4.setCell (by simp) _).setCell (by simp) _
  have N6 : n = 0 ∨ ∃ g, a4 = some ⟨g, 0, none⟩ ∧ w.heap.size ≤ g := hR.imp id (fun ⟨g, h1, h2, _⟩ => ⟨g, h1, by omega⟩)
  have R6 : Rd .u8 ((w4.setCell ⟨w.heap.size + 1, 0, none⟩ (.int .u8 t)).setCell ⟨w.heap.size + 1, 1, none⟩ (.slice a4 n c4)) a4 n l := by
    refine ⟨hl, ?_⟩
    rcases hR with h0 | ⟨g, rfl, hgb, hgl, hgc⟩
    · exact .inl h0
    · refine .inr ⟨g, 0, rfl, by simpa [World.setCell] using hgl, fun j hj => ?_⟩
      rw [Nat.zero_add, World.cell?_setCell_far _ _ _ _ (by simp; omega), World.cell?_setCell_far _ _ _ _ (by simp; omega)]
      exact hgc j hj
  refine hK.out _ _ ⟨B6, C6⟩ (fun hS => ?_)
  clear hK q0 q1 f0 f1
  generalize (w4.setCell ⟨w.heap.size + 1, 0, none⟩ (.int .u8 t)).setCell ⟨w.heap.size + 1, 1, none⟩ (.slice a4 n c4) = w6 at A6 C6 B6 R6 hS ⊢
  refine wpAnyH_done (by kernel_rfl) ?_ _
  go_wp2_with fail
  refine bodyPost_ret (results_cell_row rfl _ _ (w.heap.size + 1) 43 #[.int .u8 t, .slice a4 n c4] (0, 0) _ rfl A6 Try.underlying43 rfl (by show _ = some 2; kernel_rfl)) rfl ?_
  exact ⟨a4, c4, rfl, R6, N6, B6⟩
end Go.Proofs.Ytdoelmjaongjfaa
namespace Go.Proofs.Ytdoelmjaongjfaa
open Go.ChangeShapes Go.WideShapes Go.ChangeAt Go.RowKit
set_option linter.unusedVariables false
set_option linter.unusedSimpArgs false
/-- Bytes that are read from a block of bytes. -/
def RdU (w : World) (a : Option Addr) (n : Nat) (l : List Int) : Prop := Rd .u8 w a n l ∧ (n = 0 ∨ ∃ (g : Nat) (c : Array Value), a = some ⟨g, 0, none⟩ ∧ w.heap[g]? = some (.cells c 5))
/-- Blocks of one type stay. -/
def TK (T : TypeId) (w w' : World) : Prop := ∀ (q : Nat) (c : Array Value), w.heap[q]? = some (.cells c T) → w'.heap[q]? = some (.cells c T)
theorem TK.refl (T : TypeId) (w : World) : TK T w w := fun _ _ h => h
theorem TK.trans {T : TypeId} {w1 w2 w3 : World} (h : TK T w1 w2) (h2 : TK T w2 w3) : TK T w1 w3 := fun q c hq => h2 q c (h q c hq)
theorem TK.of {T : TypeId} {w w' : World} (h : Below w.heap.size w w') : TK T w w' := fun q c hq => keep_block hq h
theorem TK.grown {T U : TypeId} {w w' : World} {base size k : Nat} {v : Value} {xs : List Value} (hr : w.ownsRow base U size v k xs) (hg : w.grownBy w' v.ownBlock) (hT : U ≠ T) : TK T w w' := fun q c hq => (hg.block q (Array.getElem?_eq_some_iff.1 hq).1 (fun e => row_ne hr hq hT e.symm)).trans hq
theorem TK.box {T U : TypeId} {w : World} {g o : Nat} {c : Array Value} {v : Value} (hg : w.heap[g]? = some (.cells c U)) (hT : U ≠ T) : TK T w (w.setCell ⟨g, o, none⟩ v) := fun q d hq => (heap_setCell_other _ _ _ _ (fun e => by
  subst e
  rw [hg] at hq
  injection hq with e1
  injection e1 with _ e2
  exact hT e2)).trans hq
theorem RdU.keep {w w' : World} {a : Option Addr} {n : Nat} {l : List Int} (h : RdU w a n l) (hk : TK 5 w w') : RdU w' a n l := by
  obtain ⟨⟨h1, h2⟩, h3⟩ := h
  rcases h3 with h0 | ⟨g, c, rfl, hg⟩
  · exact ⟨⟨h1, .inl h0⟩, .inl h0⟩
  · have hg' := hk g c hg
    refine ⟨⟨h1, ?_⟩, .inr ⟨g, c, rfl, hg'⟩⟩
    rcases h2 with h0 | ⟨b, off, e, hb, hc⟩
    · exact .inl h0
    · cases e
      refine .inr ⟨g, 0, rfl, (Array.getElem?_eq_some_iff.1 hg').1, fun j hj => ?_⟩
      have := hc j hj
      rw [cell_of_row _ _ _ _ _ _ hg] at this
      rw [cell_of_row _ _ _ _ _ _ hg']
      exact this
set_option maxRecDepth 100000 in
set_option maxHeartbeats 4000000 in
theorem copied_impl2 (t : Int) (y n : Nat) (l : List Int) (hl : l.length = n) (hn : n ≤ 1048576) (w : World) (hy : w.heap[y]? = some (.cells (ints .u8 l) 5)) :
    Calls Try.prog 66 #[.agg #[.int .u8 t, .slice (some ⟨y, 0, none⟩) n n]] w fun e w' => ∃ q, e = .returned (.agg #[.int .u8 t, .slice (some ⟨q, 0, none⟩) n n]) ∧ w.heap.size ≤ q ∧ w'.heap[q]? = some (.cells (ints .u8 l) 5) ∧ Below w.heap.size w w' := by
  have A0 := heap_alloc2_old w (.cells #[.int .u8 t, .slice (some ⟨y, 0, none⟩) n n] 43) (.cells #[.int .u8 0, .slice none 0 0] 43)
  have A1 := heap_alloc2_new w (.cells #[.int .u8 t, .slice (some ⟨y, 0, none⟩) n n] 43) (.cells #[.int .u8 0, .slice none 0 0] 43)
  have B0 := ((Below.refl w.heap.size w).alloc (Nat.le_refl _) (.cells #[.int .u8 t, .slice (some ⟨y, 0, none⟩) n n] 43)).alloc (by simp) (.cells #[.int .u8 0, .slice none 0 0] 43)
  have Y0 := keep_block hy B0
  obtain ⟨W1, hW1⟩ : ∃ W1, (w.alloc (.cells #[.int .u8 t, .slice (some ⟨y, 0, none⟩) n n] 43)).alloc (.cells #[.int .u8 0, .slice none 0 0] 43) = W1 := ⟨_, rfl⟩
  have hSZ : W1.heap.size = w.heap.size + 2 := by rw [← hW1]; simp
  rw [hW1] at A0 A1 B0 Y0
  have HA0 := Lib.hid A0
  have HA1 := Lib.hid A1
  have HB0 := Lib.hid B0
  have HY0 := Lib.hid Y0
  have HSZ := Lib.hid hSZ
  clear A0 A1 B0 Y0 hSZ hy
  go_enter Try.func66, Try.ntmps66
  go_upto_region 1 with fail
  refine wp_region_held_drew (S := fun U => Below w.heap.size w U ∧ U.heap[w.heap.size]? = some (.cells #[.int .u8 t, .slice (some ⟨y, 0, none⟩) n n] 43)) (by kernel_rfl) ⟨HB0.out.drew, HA0.out⟩ (fun hS => ?_)
  refine takeS (i := 0) (v := .pointer (some ⟨w.heap.size, 0, none⟩)) rfl rfl (by kernel_rfl) (by kernel_rfl) (by kernel_rfl) (fun _ _ _ h => h) (Or.inl ⟨by rfl, fun U hU => by go_simp⟩) hS ?_
  try simp only [List.setIfInBounds_toArray, List.set_cons_zero, List.set_cons_succ]
  refine takeS (i := 1) (v := .int .u8 t) rfl rfl (by kernel_rfl) (by kernel_rfl) (by kernel_rfl) (fun _ _ _ h => h) (Or.inl ⟨by rfl, fun U hU => by have q0 := cell_of_row _ w.heap.size 0 _ _ _ hU.2; go_simp⟩) hS ?_
  try simp only [List.setIfInBounds_toArray, List.set_cons_zero, List.set_cons_succ]
  refine takeS (i := 2) (v := .pointer (some ⟨w.heap.size, 1, none⟩)) rfl rfl (by kernel_rfl) (by kernel_rfl) (by kernel_rfl) (fun _ _ _ h => h) (Or.inl ⟨by rfl, fun U hU => by go_simp⟩) hS ?_
  try simp only [List.setIfInBounds_toArray, List.set_cons_zero, List.set_cons_succ]
  refine takeS (i := 3) (v := .slice (some ⟨y, 0, none⟩) n n) rfl rfl (by kernel_rfl) (by kernel_rfl) (by kernel_rfl) (fun _ _ _ h => h) (Or.inl ⟨by rfl, fun U hU => by have q0 := cell_of_row _ w.heap.size 1 _ _ _ hU.2; go_simp⟩) hS ?_
  try simp only [List.setIfInBounds_toArray, List.set_cons_zero, List.set_cons_succ]
  refine wpAnyH_ready (rs := [4]) (by kernel_rfl) (by simp) ?_
  refine AllReadyH.cons rfl (fun KQ hK => ?_) AllReadyH.nil
  rw [if_pos (by rfl)]
  go_simp
  refine (copyOf_impl y n l hl hn W1.drew HY0.out).mono ?_
  rintro e w5 ⟨rfl, hg, hb⟩
  have A5 := Lib.hid (keep_block (w := W1.drew) HA1.out hb)
  have C5 := Lib.hid (keep_block (w := W1.drew) HA0.out hb)
  have B5 := Lib.hid (HB0.out.drew.trans (hb.mono HB0.out.size))
  have G5 := Lib.hid hg
  refine hK.out _ _ ⟨B5.out, C5.out⟩ (fun hS => ?_)
  clear hb hK hg
  rw [show W1.drew.heap.size = w.heap.size + 2 from HSZ.out] at G5 ⊢
  refine takeS (i := 5) (v := .agg #[.int .u8 t, .slice (some ⟨w.heap.size + 2, 0, none⟩) n n]) rfl rfl (by kernel_rfl) (by kernel_rfl) (by kernel_rfl) (fun _ _ _ h => h) (Or.inl ⟨by rfl, fun U hU => by go_simp⟩) hS ?_
  try simp only [List.setIfInBounds_toArray, List.set_cons_zero, List.set_cons_succ]
  refine wpAnyH_ready (rs := [6]) (by kernel_rfl) (by simp) ?_
  refine AllReadyH.cons rfl (fun KQ hK => ?_) AllReadyH.nil
  rw [if_pos (by rfl)]
  have q0 := cell_of_row w5 (w.heap.size + 1) 0 _ _ _ A5.out
  have q1 := cell_of_row w5 (w.heap.size + 1) 1 _ _ _ A5.out
  have f0 := frozen_of_row w5 (w.heap.size + 1) 0 _ _ A5.out
  have f1 := frozen_of_row w5 (w.heap.size + 1) 1 _ _ A5.out
  go_simp
  have A6 : ((w5.setCell ⟨w.heap.size + 1, 0, none⟩ (.int .u8 t)).setCell ⟨w.heap.size + 1, 1, none⟩ (.slice (some ⟨w.heap.size + 2, 0, none⟩) n n)).heap[w.heap.size + 1]? = some (.cells #[.int .u8 t, .slice (some ⟨w.heap.size + 2, 0, none⟩) n n] 43) := heap_setCell_same _ (w.heap.size + 1) 1 _ _ _ (heap_setCell_same _ (w.heap.size + 1) 0 _ _ _ A5.out)
  have G6 : ((w5.setCell ⟨w.heap.size + 1, 0, none⟩ (.int .u8 t)).setCell ⟨w.heap.size + 1, 1, none⟩ (.slice (some ⟨w.heap.size + 2, 0, none⟩) n n)).heap[w.heap.size + 2]? = some (.cells (ints .u8 l) 5) := (heap_setCell_other _ _ _ _ (by simp)).trans ((heap_setCell_other _ _ _ _ (by simp)).trans G5.out)
  have C6 : ((w5.setCell ⟨w.heap.size + 1, 0, none⟩ (.int .u8 t)).setCell ⟨w.heap.size + 1, 1, none⟩ (.slice (some ⟨w.heap.size + 2, 0, none⟩) n n)).heap[w.heap.size]? = some (.cells #[.int .u8 t, .slice (some ⟨y, 0, none⟩) n n] 43) := (heap_setCell_other _ _ _ _ (by simp)).trans ((heap_setCell_other _ _ _ _ (by simp)).trans C5.out)
  have B6 : Below w.heap.size w ((w5.setCell ⟨w.heap.size + 1, 0, none⟩ (.int .u8 t)).setCell ⟨w.heap.size + 1, 1, none⟩ (.slice (some ⟨w.heap.size + 2, 0, none⟩) n n)) := (B5.out.setCell (by simp) _).setCell (by simp) _
  refine hK.out _ _ ⟨B6, C6⟩ (fun hS => ?_)
  clear hK q0 q1 f0 f1
  generalize (w5.setCell ⟨w.heap.size + 1, 0, none⟩ (.int .u8 t)).setCell ⟨w.heap.size + 1, 1, none⟩ (.slice (some ⟨w.heap.size + 2, 0, none⟩) n n) = w6 at A6 G6 C6 B6 hS ⊢
  refine wpAnyH_done (by kernel_rfl) ?_ _
  go_wp2_with fail
  refine bodyPost_ret (results_cell_row rfl _ _ (w.heap.size + 1) 43 #[.int .u8 t, .slice (some ⟨w.heap.size + 2, 0, none⟩) n n] (0, 0) _ rfl A6 Try.underlying43 rfl (by show _ = some 2; kernel_rfl)) rfl ?_
  exact ⟨w.heap.size + 2, rfl, by omega, G6, B6⟩
set_option maxRecDepth 100000 in
set_option maxHeartbeats 4000000 in
theorem l05Copy_spec2 (t : Int) (y n : Nat) (l : List Int) (hl : l.length = n) (hn : n ≤ 1048576) (w : World) (hy : w.heap[y]? = some (.cells (ints .u8 l) 5)) :
    Calls Try.prog 65 #[.agg #[.int .u8 t, .slice (some ⟨y, 0, none⟩) n n]] w fun e w' => ∃ a cap, e = .returned (.agg #[.int .u8 t, .slice a n cap]) ∧ RdU w' a n l ∧ Below w.heap.size w w' := by
  have A0 := heap_alloc2_old w (.cells #[.int .u8 t, .slice (some ⟨y, 0, none⟩) n n] 43) (.cells #[.int .u8 0, .slice none 0 0] 43)
  have A1 := heap_alloc2_new w (.cells #[.int .u8 t, .slice (some ⟨y, 0, none⟩) n n] 43) (.cells #[.int .u8 0, .slice none 0 0] 43)
  have B0 := ((Below.refl w.heap.size w).alloc (Nat.le_refl _) (.cells #[.int .u8 t, .slice (some ⟨y, 0, none⟩) n n] 43)).alloc (by simp) (.cells #[.int .u8 0, .slice none 0 0] 43)
  have Y0 := keep_block hy B0
  obtain ⟨W1, hW1⟩ : ∃ W1, (w.alloc (.cells #[.int .u8 t, .slice (some ⟨y, 0, none⟩) n n] 43)).alloc (.cells #[.int .u8 0, .slice none 0 0] 43) = W1 := ⟨_, rfl⟩
  have hSZ : W1.heap.size = w.heap.size + 2 := by rw [← hW1]; simp
  rw [hW1] at A0 A1 B0 Y0
  obtain ⟨i0, hi, hz0, hz1, hz2⟩ := info_parts infoU8
  have Hi := Lib.hid hi
  clear hi
  have HA0 := Lib.hid A0
  have HA1 := Lib.hid A1
  have HB0 := Lib.hid B0
  have HY0 := Lib.hid Y0
  have HSZ := Lib.hid hSZ
  clear A0 A1 B0 Y0 hSZ hy
  go_enter Try.func65, Try.ntmps65
  go_upto_region 1 with fail
  refine wp_region_held_drew (S := fun U => Below w.heap.size w U ∧ U.heap[w.heap.size]? = some (.cells #[.int .u8 t, .slice (some ⟨y, 0, none⟩) n n] 43)) (by kernel_rfl) ⟨HB0.out.drew, HA0.out⟩ (fun hS => ?_)
  refine takeS (i := 0) (v := .pointer (some ⟨w.heap.size, 0, none⟩)) rfl rfl (by kernel_rfl) (by kernel_rfl) (by kernel_rfl) (fun _ _ _ h => h) (Or.inl ⟨by rfl, fun U hU => by go_simp⟩) hS ?_
  try simp only [List.setIfInBounds_toArray, List.set_cons_zero, List.set_cons_succ]
  refine takeS (i := 1) (v := .int .u8 t) rfl rfl (by kernel_rfl) (by kernel_rfl) (by kernel_rfl) (fun _ _ _ h => h) (Or.inl ⟨by rfl, fun U hU => by have q0 := cell_of_row _ w.heap.size 0 _ _ _ hU.2; go_simp⟩) hS ?_
  try simp only [List.setIfInBounds_toArray, List.set_cons_zero, List.set_cons_succ]
  refine takeS (i := 3) (v := .pointer (some ⟨w.heap.size, 1, none⟩)) rfl rfl (by kernel_rfl) (by kernel_rfl) (by kernel_rfl) (fun _ _ _ h => h) (Or.inl ⟨by rfl, fun U hU => by go_simp⟩) hS ?_
  try simp only [List.setIfInBounds_toArray, List.set_cons_zero, List.set_cons_succ]
  refine takeS (i := 4) (v := .slice (some ⟨y, 0, none⟩) n n) rfl rfl (by kernel_rfl) (by kernel_rfl) (by kernel_rfl) (fun _ _ _ h => h) (Or.inl ⟨by rfl, fun U hU => by have q0 := cell_of_row _ w.heap.size 1 _ _ _ hU.2; go_simp⟩) hS ?_
  try simp only [List.setIfInBounds_toArray, List.set_cons_zero, List.set_cons_succ]
  refine wpAnyH_ready (rs := [2]) (by kernel_rfl) (by simp) ?_
  refine AllReadyH.cons rfl (fun KQ hK => ?_) AllReadyH.nil
  rw [if_pos (by rfl)]
  go_simp
  have hB3 : Below w.heap.size w (W1.alloc (.cells #[] 5)).drew := hS.1.alloc (B := w.heap.size) (by show w.heap.size ≤ W1.heap.size; rw [HSZ.out]; omega) (.cells #[] 5)
  have L3 := (Below.refl W1.heap.size W1).alloc (Nat.le_refl _) (.cells #[] 5)
  have A3 := keep_block HA1.out L3
  have C3 := keep_block HA0.out L3
  have Y3 := keep_block HY0.out L3
  have O3 : (W1.alloc (.cells #[] 5)).ownsRow W1.heap.size 5 1 (.slice (some ⟨W1.heap.size, 0, none⟩) 0 0) 0 [] := ⟨rfl, Or.inr ⟨W1.heap.size, 0, #[], rfl, Nat.le_refl _, heap_alloc_last _ _, by omega, by unfold maxLen; omega, rfl, rfl⟩⟩
  have S3 : (W1.alloc (.cells #[] 5)).heap.size = W1.heap.size + 1 := by simp
  refine hK.out _ _ ⟨hB3, C3⟩ (fun hS => ?_)
  clear hK L3
  generalize W1.alloc (.cells #[] 5) = W3 at hB3 A3 C3 Y3 O3 S3 hS ⊢
  refine wpAnyH_ready (rs := [5]) (by kernel_rfl) (by simp) ?_
  refine AllReadyH.cons rfl (fun KQ hK => ?_) AllReadyH.nil
  rw [if_pos (by rfl)]
  refine wp_append_own _ _ _ 41 rfl W1.heap.size 5 i0 (.int .u8 0) 1 1 Try.underlying41 Hi.out hz0 hz1 hz2 rfl (by decide) _ 0 [] rfl O3 ⟨y, 0, none⟩ n n (l.map (Value.int .u8)) rfl (by simp [hl]) ?c1 ?c2 ?c3 ?c4 ?c5 ?_
  case c1 =>
    intro j u hu
    rw [addr_add, Nat.zero_add]
    exact (cell_of_row W3 y j _ _ _ Y3).trans (by simpa [ints] using hu)
  case c2 => intro u hu; obtain ⟨z, _, rfl⟩ := List.mem_map.1 hu; rfl
  case c3 => unfold maxLen; omega
  case c4 => omega
  case c5 => show W1.heap.size ≤ W3.heap.size; omega
  intro v4 w4 hown hg _
  have hg' : W3.drew.grownBy w4 (some W1.heap.size) := hg
  have S3d : W3.drew.heap.size = W3.heap.size := rfl
  have hz := HSZ.out
  have A4 := (hg'.block (w.heap.size + 1) (by omega) (fun e => by have := Option.some.inj e; omega)).trans A3
  have C4 := (hg'.block w.heap.size (by omega) (fun e => by have := Option.some.inj e; omega)).trans C3
  have B4 : Below w.heap.size w w4 := hB3.trans ⟨hg'.os, hg'.tape, hg'.output, hg'.size, fun k hk => hg'.block k (by omega) (fun e => by have := Option.some.inj e; omega)⟩
  have hR : ∃ (a : Option Addr) (cap : Nat), v4 = .slice a n cap ∧ (n = 0 ∨ ∃ g, a = some ⟨g, 0, none⟩ ∧ W1.heap.size ≤ g ∧ g < w4.heap.size ∧ (∃ c, w4.heap[g]? = some (.cells c 5)) ∧ ∀ j, j < n → w4.cell? ⟨g, j, none⟩ = some (.int .u8 (l[j]?.getD 0))) := by
    rcases hown.2 with ⟨rfl, h0⟩ | ⟨g, cap, cur, rfl, hgb, hgc, h1, h2, h3, h4⟩
    · have : n = 0 := by omega
      subst this
      exact ⟨none, 0, rfl, .inl rfl⟩
    · refine ⟨_, cap, by rw [Nat.zero_add], .inr ⟨g, rfl, hgb, (Array.getElem?_eq_some_iff.1 hgc).1, ⟨cur, hgc⟩, fun j hj => ?_⟩⟩
      rw [cell_of_row w4 g j _ _ _ hgc]
      have h5 : (cur.toList.take ((0 + n) * 1))[j]? = some (.int .u8 (l[j]?.getD 0)) := by
        rw [h4, List.nil_append, List.getElem?_map, List.getElem?_eq_getElem (by omega)]
        rfl
      rw [List.getElem?_take_of_lt (by omega), Array.getElem?_toList] at h5
      exact h5
  obtain ⟨a4, c4, rfl, hR⟩ := hR
  refine hK.out _ _ ⟨B4, C4⟩ (fun hS => ?_)
  clear hK hown hg hg' hB3 A3 C3 Y3 O3
  refine takeS (i := 6) (v := .agg #[.int .u8 t, .slice a4 n c4]) rfl rfl (by kernel_rfl) (by kernel_rfl) (by kernel_rfl) (fun _ _ _ h => h) (Or.inl ⟨by rfl, fun U hU => by go_simp⟩) hS ?_
  try simp only [List.setIfInBounds_toArray, List.set_cons_zero, List.set_cons_succ]
  refine wpAnyH_ready (rs := [7]) (by kernel_rfl) (by simp) ?_
  refine AllReadyH.cons rfl (fun KQ hK => ?_) AllReadyH.nil
  rw [if_pos (by rfl)]
  have q0 := cell_of_row w4 (w.heap.size + 1) 0 _ _ _ A4
  have q1 := cell_of_row w4 (w.heap.size + 1) 1 _ _ _ A4
  have f0 := frozen_of_row w4 (w.heap.size + 1) 0 _ _ A4
  have f1 := frozen_of_row w4 (w.heap.size + 1) 1 _ _ A4
  go_simp
  have A6 : ((w4.setCell ⟨w.heap.size + 1, 0, none⟩ (.int .u8 t)).setCell ⟨w.heap.size + 1, 1, none⟩ (.slice a4 n c4)).heap[w.heap.size + 1]? = some (.cells #[.int .u8 t, .slice a4 n c4] 43) := heap_setCell_same _ (w.heap.size + 1) 1 _ _ _ (heap_setCell_same _ (w.heap.size + 1) 0 _ _ _ A4)
  have C6 : ((w4.setCell ⟨w.heap.size + 1, 0, none⟩ (.int .u8 t)).setCell ⟨w.heap.size + 1, 1, none⟩ (.slice a4 n c4)).heap[w.heap.size]? = some (.cells #[.int .u8 t, .slice (some ⟨y, 0, none⟩) n n] 43) := (heap_setCell_other _ _ _ _ (by simp)).trans ((heap_setCell_other _ _ _ _ (by simp)).trans C4)
  have B6 : Below w.heap.size w ((w4.setCell ⟨w.heap.size + 1, 0, none⟩ (.int .u8 t)).setCell ⟨w.heap.size + 1, 1, none⟩ (.slice a4 n c4)) := (B4.setCell (by simp) _).setCell (by simp) _
  have N6 : n = 0 ∨ ∃ g c, a4 = some ⟨g, 0, none⟩ ∧ ((w4.setCell ⟨w.heap.size + 1, 0, none⟩ (.int .u8 t)).setCell ⟨w.heap.size + 1, 1, none⟩ (.slice a4 n c4)).heap[g]? = some (.cells c 5) := hR.imp id (fun ⟨g, h1, h2, _, ⟨c, h3⟩, _⟩ => ⟨g, c, h1, (heap_setCell_other _ _ _ _ (by simp; omega)).trans ((heap_setCell_other _ _ _ _ (by simp; omega)).trans h3)⟩)
  have R6 : Rd .u8 ((w4.setCell ⟨w.heap.size + 1, 0, none⟩ (.int .u8 t)).setCell ⟨w.heap.size + 1, 1, none⟩ (.slice a4 n c4)) a4 n l := by
    refine ⟨hl, ?_⟩
    rcases hR with h0 | ⟨g, rfl, hgb, hgl, -, hgc⟩
    · exact .inl h0
    · refine .inr ⟨g, 0, rfl, by simpa [World.setCell] using hgl, fun j hj => ?_⟩
      rw [Nat.zero_add, World.cell?_setCell_far _ _ _ _ (by simp; omega), World.cell?_setCell_far _ _ _ _ (by simp; omega)]
      exact hgc j hj
  refine hK.out _ _ ⟨B6, C6⟩ (fun hS => ?_)
  clear hK q0 q1 f0 f1
  generalize (w4.setCell ⟨w.heap.size + 1, 0, none⟩ (.int .u8 t)).setCell ⟨w.heap.size + 1, 1, none⟩ (.slice a4 n c4) = w6 at A6 C6 B6 R6 N6 hS ⊢
  refine wpAnyH_done (by kernel_rfl) ?_ _
  go_wp2_with fail
  refine bodyPost_ret (results_cell_row rfl _ _ (w.heap.size + 1) 43 #[.int .u8 t, .slice a4 n c4] (0, 0) _ rfl A6 Try.underlying43 rfl (by show _ = some 2; kernel_rfl)) rfl ?_
  exact ⟨a4, c4, rfl, ⟨R6, N6⟩, B6⟩
end Go.Proofs.Ytdoelmjaongjfaa
namespace Go.Proofs.Ytdoelmjaongjfaa
open Go.ChangeShapes Go.WideShapes Go.ChangeAt Go.RowKit
set_option linter.unusedVariables false
set_option linter.unusedSimpArgs false
theorem zeroBlInfo : (Try.prog.info? 43).map (·.zero) = some (some (.agg #[.int .u8 0, .slice none 0 0])) := by kernel_rfl
theorem zeroBl (w : World) : (zeroValue 43).run Try.prog w = .ok (.agg #[.int .u8 0, .slice none 0 0]) w := by
  obtain ⟨i, hi, hz⟩ := Option.map_eq_some_iff.1 zeroBlInfo
  simp [zeroValue, typeInfo, hi, hz]
theorem st_one {bs : List BlV} (h : stP bs) {i j : Nat} {x y : BlV} (hx : bs[i]? = some x) (hy : bs[j]? = some y) (hk : keyX x = keyX y) : x = y := by
  have hp := stP_asc h.2.2
  have hi := (List.getElem?_eq_some_iff.1 hx)
  have hj := (List.getElem?_eq_some_iff.1 hy)
  obtain ⟨hi1, hi2⟩ := hi
  obtain ⟨hj1, hj2⟩ := hj
  rcases Nat.lt_trichotomy i j with h1 | h1 | h1
  · have := (List.pairwise_iff_getElem.1 hp) i j hi1 hj1 h1
    rw [hi2, hj2, hk, cmpI_refl] at this
    omega
  · subst h1
    rw [hx] at hy
    exact Option.some.inj hy
  · have := (List.pairwise_iff_getElem.1 hp) j i hj1 hi1 h1
    rw [hi2, hj2, hk, cmpI_refl] at this
    omega
/-- What GetBlob tells: tag, length, data and code. -/
structure GbV where
  t : Int
  n : Nat
  l : List Int
  c : Int
open Classical in
noncomputable def gbV (bs : List BlV) (key : List Int) : GbV :=
  if stP bs then (if h : ∃ (x : BlV) (i : Nat), bs[i]? = some x ∧ keyX x = key then ⟨h.choose.t, h.choose.n, h.choose.l, 0⟩ else ⟨0, 0, [], 6⟩) else ⟨0, 0, [], 1⟩
theorem gbV_no {bs : List BlV} {key : List Int} (h : ¬ stP bs) : gbV bs key = ⟨0, 0, [], 1⟩ := by unfold gbV; exact if_neg h
theorem gbV_none {bs : List BlV} {key : List Int} (h : stP bs) (hn : ∀ (i : Nat) (x : BlV), bs[i]? = some x → keyX x ≠ key) : gbV bs key = ⟨0, 0, [], 6⟩ := by
  unfold gbV
  rw [if_pos h, dif_neg (fun ⟨x, i, hx, hk⟩ => hn i x hx hk)]
theorem gbV_some {bs : List BlV} {key : List Int} (h : stP bs) {i : Nat} {x : BlV} (hx : bs[i]? = some x) (hk : keyX x = key) : gbV bs key = ⟨x.t, x.n, x.l, 0⟩ := by
  have he : ∃ (x : BlV) (i : Nat), bs[i]? = some x ∧ keyX x = key := ⟨x, i, hx, hk⟩
  unfold gbV
  rw [if_pos h, dif_pos he]
  obtain ⟨j, hj, hkj⟩ := he.choose_spec
  rw [st_one h hj hx (hkj.trans hk.symm)]
theorem sizeBl : (Try.prog.info? 43).map (·.size) = some 2 := by kernel_rfl
def GbR (g : GbV) (w : World) (e : Ending) (w' : World) : Prop := ∃ a cap, e = .returned (.tuple #[.agg #[.int .u8 g.t, .slice a g.n cap], .int .i64 g.c]) ∧ Rd .u8 w' a g.n g.l ∧ (g.n = 0 ∨ ∃ b, a = some ⟨b, 0, none⟩ ∧ w.heap.size ≤ b) ∧ Below w.heap.size w w'
/-- The box of a result, written. -/
theorem box_set {w : World} {g : Nat} {u v a b : Value} {T : TypeId} (h : w.heap[g]? = some (.cells #[u, v] T)) : ((w.setCell ⟨g, 0, none⟩ a).setCell ⟨g, 1, none⟩ b).heap[g]? = some (.cells #[a, b] T) := heap_setCell_same _ g 1 _ _ _ (heap_setCell_same _ g 0 _ _ _ h)
theorem OpenP.blob {w : World} {base X : Nat} {v1 v2 : Value} {xs : List BlV} {ys : List Nat} {kn : Nat} {fl : List Int} {i : Nat} {x : BlV} (h : OpenP w base X v1 v2 xs ys kn fl) (hx : xs[i]? = some x) :
    ∃ gb cap y, v1 = .slice (some ⟨gb, 0, none⟩) xs.length cap ∧ w.cell? ⟨gb, i * 2, none⟩ = some (.int .u8 x.t) ∧ w.cell? ⟨gb, i * 2 + 1, none⟩ = some (.slice (some ⟨y, 0, none⟩) x.n x.n) ∧ w.heap[y]? = some (.cells (ints .u8 x.l) 5) := by
  have hlt := (List.getElem?_eq_some_iff.1 hx).1
  obtain ⟨y, hy⟩ : ∃ y, ys[i]? = some y := ⟨ys[i]'(by rw [h.len]; exact hlt), List.getElem?_eq_getElem _⟩
  obtain ⟨b0, b1⟩ := blC_at xs ys i x y hx hy
  rcases h.row1.2 with ⟨_, h0⟩ | ⟨gb, cap, cur, hv, hb, hg, hc, hm, hs, ht⟩
  · omega
  · refine ⟨gb, cap, y, hv, ?_, ?_, h.data i x y hx hy⟩
    · rw [cell_of_row w gb (i * 2) _ _ _ hg, ← Array.getElem?_toList, ← b0, ← ht, List.getElem?_take_of_lt (by omega)]
    · rw [cell_of_row w gb (i * 2 + 1) _ _ _ hg, ← Array.getElem?_toList, ← b1, ← ht, List.getElem?_take_of_lt (by omega)]
theorem Rd.setBox2 {κ : IntKind} {w : World} {a : Option Addr} {n q : Nat} {l : List Int} {u v : Value} (h : Rd κ w a n l) (hn : n = 0 ∨ ∃ g, a = some ⟨g, 0, none⟩ ∧ g ≠ q) : Rd κ ((w.setCell ⟨q, 0, none⟩ u).setCell ⟨q, 1, none⟩ v) a n l := by
  refine ⟨h.1, ?_⟩
  rcases h.2 with h0 | ⟨b, off, he, hb, hc⟩
  · exact .inl h0
  · rcases hn with h0 | ⟨g, hg, hne⟩
    · exact .inl h0
    · rw [he] at hg
      cases hg
      refine .inr ⟨b, 0, he, by simpa [World.setCell] using hb, fun j hj => ?_⟩
      rw [World.cell?_setCell_far _ _ _ _ (fun e => hne e.symm), World.cell?_setCell_far _ _ _ _ (fun e => hne e.symm)]
      exact hc j hj
set_option maxRecDepth 100000 in
set_option maxHeartbeats 4000000 in
theorem gb_spec (g n : Nat) (bs : List BlV) (key : List Int) (hkey : IsK key) (hn : n ≤ 1048576) (hl : bs.length = n) (hf : ∀ (i : Nat) (x : BlV), bs[i]? = some x → BlG x) (w : World) (ha : OutB w g n n bs) :
    Calls Try.prog 27 #[.agg #[.slice (some ⟨g, 0, none⟩) n n], .agg (ints .u8 key)] w (GbR (gbV bs key) w) := by
  have BX : Below w.heap.size w (((w.alloc (.cells #[.slice (some ⟨g, 0, none⟩) n n] 29)).alloc (.cells (ints .u8 key) 46)).alloc (.cells #[.int .u8 0, .slice none 0 0] 43)) := by go_grown
  have A0 : (((w.alloc (.cells #[.slice (some ⟨g, 0, none⟩) n n] 29)).alloc (.cells (ints .u8 key) 46)).alloc (.cells #[.int .u8 0, .slice none 0 0] 43)).heap[w.heap.size]? = some (.cells #[.slice (some ⟨g, 0, none⟩) n n] 29) := heap3_0 w _ _ _
  have A1 : (((w.alloc (.cells #[.slice (some ⟨g, 0, none⟩) n n] 29)).alloc (.cells (ints .u8 key) 46)).alloc (.cells #[.int .u8 0, .slice none 0 0] 43)).heap[w.heap.size + 1]? = some (.cells (ints .u8 key) 46) := heap3_1 w _ _ _
  have A2 : (((w.alloc (.cells #[.slice (some ⟨g, 0, none⟩) n n] 29)).alloc (.cells (ints .u8 key) 46)).alloc (.cells #[.int .u8 0, .slice none 0 0] 43)).heap[w.heap.size + 1 + 1]? = some (.cells #[.int .u8 0, .slice none 0 0] 43) := heap3_2 w _ _ _
  have hS : (((w.alloc (.cells #[.slice (some ⟨g, 0, none⟩) n n] 29)).alloc (.cells (ints .u8 key) 46)).alloc (.cells #[.int .u8 0, .slice none 0 0] 43)).heap.size = w.heap.size + 3 := by simp
  obtain ⟨w0, hw0⟩ : ∃ w0, ((w.alloc (.cells #[.slice (some ⟨g, 0, none⟩) n n] 29)).alloc (.cells (ints .u8 key) 46)).alloc (.cells #[.int .u8 0, .slice none 0 0] 43) = w0 := ⟨_, rfl⟩
  rw [hw0] at BX A0 A1 A2 hS
  have HO := Lib.hid (open_spec w.heap.size g n bs hn hl hf w0 A0 (ha.below BX))
  have HB := Lib.hid BX
  have H1 := Lib.hid A1
  have H2 := Lib.hid A2
  have HS := Lib.hid hS
  have HK := Lib.hid hkey
  have HL := Lib.hid hl
  have HF := Lib.hid hf
  clear ha hf hl A0 A1 A2 hS hkey BX
  go_enter Try.func27, Try.ntmps27
  go_wp2_with fail
  refine HO.out.mono ?_
  rintro e w1 ⟨h, hb⟩
  have B1 := Lib.hid (HB.out.trans (hb.mono HB.out.size))
  have K1 := Lib.hid (keep_block H1.out hb)
  have G1 := Lib.hid (keep_block H2.out hb)
  clear hb HO HB H1 H2 hw0
  rcases h with ⟨hP, rfl, v1, v2, ys, hop⟩ | ⟨hP, rfl⟩
  · have HP := Lib.hid hP
    have OP := Lib.hid hop
    clear hP hop
    go_upto_region 4 with fail
    have hfd := Lib.hid (find_spec w0.heap.size w0.heap.size v1 v2 bs ys key HK.out (by have := HL.out; omega) w1 OP.out)
    go_upto_region 5 with (first
      | (refine wpList_load_row rfl 46 _ rfl (w.heap.size + 1) rfl 46 (ints .u8 key) (0, 0) _ K1.out Try.underlying46 rfl (by rw [ints_size, HK.out.1]; exact sizeKey) ?_)
      | (go_at_call 64; refine hfd.out.mono ?_; rintro e w2 ⟨r, rfl, hr, hb⟩))
    have B2 := Lib.hid (below_call B1.out B1.out.size hb)
    have G2 := Lib.hid (keep_block G1.out hb)
    have P2 := Lib.hid (OP.out.below hb)
    clear hb B1 G1 K1 OP hfd
    rcases hr with ⟨i, x, hx, hkx, rfl⟩ | ⟨hno, rfl⟩
    · have hG := Lib.hid (gbV_some HP.out hx hkx)
      have hXG := Lib.hid (HF.out i x hx)
      have hi : i < n := by have h1 := (List.getElem?_eq_some_iff.1 hx).1; have h2 := HL.out; omega
      obtain ⟨gb, cap, y, rfl, c0, c1, hy⟩ := P2.out.blob hx
      have HY := Lib.hid hy
      have qx := cell_of_row _ _ 0 _ _ _ P2.out.box
      clear hx hkx hy
      obtain ⟨xt, xa, xn, xc, xl⟩ := x
      dsimp only at hG hXG HY c0 c1
      have hcp := Lib.hid (l05Copy_spec xt y xn xl hXG.out.1.2.1 hXG.out.1.1 w2 HY.out)
      rw [HL.out] at qx
      have b0 : (0 : Int) ≤ (i : Int) := by omega
      have b1 : (i : Int) < (n : Int) := by omega
      have b2 : ¬ (i : Int) < 0 := by omega
      go_upto_region 7 with fail
      go_wp2_with fail
      refine hcp.out.mono ?_
      rintro e w3 ⟨a, cap3, rfl, hR, hN, hb⟩
      have G3 := Lib.hid (keep_block G2.out hb)
      have B3 := Lib.hid (below_call B2.out B2.out.size hb)
      have R3 := Lib.hid hR
      clear hb hR hcp c0 c1 qx
      have q0 := cell_of_row w3 (w.heap.size + 1 + 1) 0 _ _ _ G3.out
      have q1 := cell_of_row w3 (w.heap.size + 1 + 1) 1 _ _ _ G3.out
      have f0 := frozen_of_row w3 (w.heap.size + 1 + 1) 0 _ _ G3.out
      have f1 := frozen_of_row w3 (w.heap.size + 1 + 1) 1 _ _ G3.out
      go_wp2_with fail
      refine bodyPost_ret (results_cell2_row rfl _ _ (w.heap.size + 1 + 1) 43 #[.int .u8 xt, .slice a xn cap3] (0, 0) _ rfl (box_set G3.out) Try.underlying43 rfl sizeBl) rfl ?_
      have N3 := Lib.hid hN
      refine ⟨a, cap3, by rw [hG.out]; rfl, ?_, by rw [hG.out]; exact N3.out.imp id (fun ⟨b, h1, h2⟩ => ⟨b, h1, Nat.le_trans B2.out.size h2⟩), (B3.out.setCell (by simp; omega) _).setCell (by simp; omega) _⟩
      rw [hG.out]
      refine R3.out.setBox2 (hN.imp id (fun ⟨g', h1, h2⟩ => ⟨g', h1, ?_⟩))
      have h3 := (Array.getElem?_eq_some_iff.1 G2.out).1
      omega
    · have q0 := cell_of_row w2 (w.heap.size + 1 + 1) 0 _ _ _ G2.out
      have q1 := cell_of_row w2 (w.heap.size + 1 + 1) 1 _ _ _ G2.out
      have f0 := frozen_of_row w2 (w.heap.size + 1 + 1) 0 _ _ G2.out
      have f1 := frozen_of_row w2 (w.heap.size + 1 + 1) 1 _ _ G2.out
      go_wp2_with fail
      refine bodyPost_ret (results_cell2_row rfl _ _ (w.heap.size + 1 + 1) 43 #[.int .u8 0, .slice none 0 0] (0, 0) _ rfl (box_set G2.out) Try.underlying43 rfl sizeBl) rfl ?_
      exact ⟨none, 0, by rw [gbV_none HP.out hno]; rfl, by rw [gbV_none HP.out hno]; exact ⟨rfl, .inl rfl⟩, by rw [gbV_none HP.out hno]; exact .inl rfl, (B2.out.setCell (by simp; omega) _).setCell (by simp; omega) _⟩
  · have HP := Lib.hid hP
    clear hP
    have q0 := cell_of_row w1 (w.heap.size + 1 + 1) 0 _ _ _ G1.out
    have q1 := cell_of_row w1 (w.heap.size + 1 + 1) 1 _ _ _ G1.out
    have f0 := frozen_of_row w1 (w.heap.size + 1 + 1) 0 _ _ G1.out
    have f1 := frozen_of_row w1 (w.heap.size + 1 + 1) 1 _ _ G1.out
    go_wp2_with fail
    refine bodyPost_ret (results_cell2_row rfl _ _ (w.heap.size + 1 + 1) 43 #[.int .u8 0, .slice none 0 0] (0, 0) _ rfl (box_set G1.out) Try.underlying43 rfl sizeBl) rfl ?_
    exact ⟨none, 0, by rw [gbV_no HP.out]; rfl, by rw [gbV_no HP.out]; exact ⟨rfl, .inl rfl⟩, by rw [gbV_no HP.out]; exact .inl rfl, (B1.out.setCell (by simp; omega) _).setCell (by simp; omega) _⟩
end Go.Proofs.Ytdoelmjaongjfaa
namespace Go.Proofs.Ytdoelmjaongjfaa
open Go.ChangeShapes Go.WideShapes Go.ChangeAt Go.RowKit
set_option linter.unusedVariables false
set_option linter.unusedSimpArgs false
theorem OwnS.lt {w : World} {base : Nat} {v : Value} {xs : List BlV} {ys : List Nat} (h : OwnS w base v xs ys) {i y : Nat} (hy : ys[i]? = some y) : y < w.heap.size := by
  have hlt := (List.getElem?_eq_some_iff.1 hy).1
  rw [h.len] at hlt
  exact (Array.getElem?_eq_some_iff.1 (h.data i _ y (List.getElem?_eq_getElem hlt) hy)).1
theorem OwnS.app {w w1 : World} {base : Nat} {v v' : Value} {xs : List BlV} {ys : List Nat} (h : OwnS w base v xs ys) (hg : w.grownBy w1 v.ownBlock) {x : BlV} {y : Nat}
    (hr : w1.ownsRow base 43 2 v' (xs.length + 1) (blC xs ys ++ [.int .u8 x.t, .slice (some ⟨y, 0, none⟩) x.n x.n])) (hy : w.heap[y]? = some (.cells (ints .u8 x.l) 5)) (hlo : base ≤ y) (hnew : ∀ (i z : Nat), ys[i]? = some z → z ≠ y) : OwnS w1 base v' (xs ++ [x]) (ys ++ [y]) := by
  have hk := TK.grown (T := 5) h.row hg (by decide)
  refine ⟨by simp [h.len], by rw [blC_snoc _ _ _ _ h.len, List.length_append]; exact hr, fun i z hz => ?_, fun i z q hz hq => ?_, fun i j z hz hq => ?_⟩
  · by_cases hi : i < ys.length
    · rw [List.getElem?_append_left hi] at hz
      exact h.lo i z hz
    · rw [List.getElem?_append_right (by omega)] at hz
      have e1 := (List.getElem?_eq_some_iff.1 hz).1
      simp at e1
      rw [show i - ys.length = 0 by omega] at hz
      cases hz
      exact hlo
  · by_cases hi : i < xs.length
    · rw [List.getElem?_append_left hi] at hz
      rw [List.getElem?_append_left (by rw [h.len]; exact hi)] at hq
      exact hk _ _ (h.data i z q hz hq)
    · rw [List.getElem?_append_right (by omega)] at hz
      rw [List.getElem?_append_right (by rw [h.len]; omega)] at hq
      have e1 := (List.getElem?_eq_some_iff.1 hz).1
      simp at e1
      have e2 : i - xs.length = 0 := by omega
      rw [e2] at hz
      rw [h.len, e2] at hq
      cases hz
      cases hq
      exact hk _ _ hy
  · have hcase : ∀ (i z : Nat), (ys ++ [y])[i]? = some z → (i < ys.length ∧ ys[i]? = some z) ∨ (i = ys.length ∧ z = y) := fun i z hz => by
      by_cases hi : i < ys.length
      · rw [List.getElem?_append_left hi] at hz
        exact .inl ⟨hi, hz⟩
      · rw [List.getElem?_append_right (by omega)] at hz
        have e1 := (List.getElem?_eq_some_iff.1 hz).1
        simp at e1
        rw [show i - ys.length = 0 by omega] at hz
        cases hz
        exact .inr ⟨by omega, rfl⟩
    rcases hcase i z hz with ⟨h1, h2⟩ | ⟨h1, h2⟩ <;> rcases hcase j z hq with ⟨h3, h4⟩ | ⟨h3, h4⟩
    · exact h.nod i j z h2 h4
    · exact absurd h4 (hnew i z h2)
    · exact absurd h2 (hnew j z h4)
    · omega
theorem OwnS.setBox {w : World} {base g : Nat} {v : Value} {xs : List BlV} {ys : List Nat} {c : Array Value} (h : OwnS w base v xs ys) (hg : w.heap[g]? = some (.cells c 29)) (u : Value) : OwnS (w.setCell ⟨g, 0, none⟩ u) base v xs ys :=
  ⟨h.len, h.row.kept (grown_setCell w g 0 u) (Or.inr (row_ne h.row hg (by decide))), h.lo, fun i x y hx hy => TK.box (T := 5) hg (by decide) _ _ (h.data i x y hx hy), h.nod⟩
/-- The cells of blobs whose data are anywhere. -/
def blU : List BlV → List (Option Addr × Nat) → List Value
  | x :: xs, u :: us => [.int .u8 x.t, .slice u.1 x.n u.2] ++ blU xs us
  | _, _ => []
theorem blU_snoc : ∀ (xs : List BlV) (us : List (Option Addr × Nat)) (x : BlV) (a : Option Addr) (c : Nat), us.length = xs.length → blU (xs ++ [x]) (us ++ [(a, c)]) = blU xs us ++ [.int .u8 x.t, .slice a x.n c]
  | [], [], x, a, c, _ => by simp [blU]
  | _ :: _, [], _, _, _, h => by simp at h
  | [], _ :: _, _, _, _, h => by simp at h
  | a :: xs, b :: us, x, y, c, h => by
    simp only [List.cons_append, blU]
    rw [blU_snoc xs us x y c (by simpa using h)]
    simp
theorem blU_at : ∀ (xs : List BlV) (us : List (Option Addr × Nat)) (i : Nat) (x : BlV) (u : Option Addr × Nat), xs[i]? = some x → us[i]? = some u → (blU xs us)[i * 2]? = some (.int .u8 x.t) ∧ (blU xs us)[i * 2 + 1]? = some (.slice u.1 x.n u.2)
  | [], _, i, _, _, h, _ => by simp at h
  | _ :: _, [], i, _, _, _, h => by simp at h
  | a :: xs, b :: us, 0, x, y, h, h2 => by
    simp at h h2
    subst h
    subst h2
    exact ⟨rfl, rfl⟩
  | a :: xs, b :: us, i + 1, x, y, h, h2 => by
    have h3 := blU_at xs us i x y (by simpa using h) (by simpa using h2)
    rw [show (i + 1) * 2 = i * 2 + 2 by omega]
    exact ⟨by simpa [blU] using h3.1, by simpa [blU] using h3.2⟩
/-- A store that has grown. -/
structure GrS (w : World) (base : Nat) (v : Value) (xs : List BlV) (us : List (Option Addr × Nat)) : Prop where
  len : us.length = xs.length
  row : w.ownsRow base 43 2 v xs.length (blU xs us)
  data : ∀ (i : Nat) (x : BlV) (u : Option Addr × Nat), xs[i]? = some x → us[i]? = some u → RdU w u.1 x.n x.l
theorem GrS.nil (w : World) (base : Nat) : GrS w base (.slice none 0 0) [] [] :=
  ⟨rfl, ⟨rfl, Or.inl ⟨rfl, rfl⟩⟩, fun i x y h _ => by simp at h⟩
theorem GrS.below {w w1 : World} {base : Nat} {v : Value} {xs : List BlV} {us : List (Option Addr × Nat)} (h : GrS w base v xs us) (hb : Below w.heap.size w w1) : GrS w1 base v xs us :=
  ⟨h.len, owns_below h.row hb, fun i x u hx hu => (h.data i x u hx hu).keep (TK.of hb)⟩
theorem GrS.setBox {w : World} {base g : Nat} {v : Value} {xs : List BlV} {us : List (Option Addr × Nat)} {c : Array Value} (h : GrS w base v xs us) (hg : w.heap[g]? = some (.cells c 29)) (u : Value) : GrS (w.setCell ⟨g, 0, none⟩ u) base v xs us :=
  ⟨h.len, h.row.kept (grown_setCell w g 0 u) (Or.inr (row_ne h.row hg (by decide))), fun i x u hx hu => (h.data i x u hx hu).keep (TK.box hg (by decide))⟩
theorem GrS.app {w w1 : World} {base : Nat} {v v' : Value} {xs : List BlV} {us : List (Option Addr × Nat)} (h : GrS w base v xs us) (hg : w.grownBy w1 v.ownBlock) {x : BlV} {a : Option Addr} {c : Nat}
    (hr : w1.ownsRow base 43 2 v' (xs.length + 1) (blU xs us ++ [.int .u8 x.t, .slice a x.n c])) (hy : RdU w a x.n x.l) : GrS w1 base v' (xs ++ [x]) (us ++ [(a, c)]) := by
  have hk := TK.grown (T := 5) h.row hg (by decide)
  refine ⟨by simp [h.len], by rw [blU_snoc _ _ _ _ _ h.len, List.length_append]; exact hr, fun i z q hz hq => ?_⟩
  by_cases hi : i < xs.length
  · rw [List.getElem?_append_left hi] at hz
    rw [List.getElem?_append_left (by rw [h.len]; exact hi)] at hq
    exact (h.data i z q hz hq).keep hk
  · rw [List.getElem?_append_right (by omega)] at hz
    rw [List.getElem?_append_right (by rw [h.len]; omega)] at hq
    have e1 := (List.getElem?_eq_some_iff.1 hz).1
    simp at e1
    have e2 : i - xs.length = 0 := by omega
    rw [e2] at hz
    rw [h.len, e2] at hq
    cases hz
    cases hq
    exact hy.keep hk
theorem GrS.rd {w : World} {base : Nat} {v : Value} {xs : List BlV} {us : List (Option Addr × Nat)} (h : GrS w base v xs us) : ∃ a cap, v = .slice a xs.length cap ∧ BlRd w a xs := by
  rcases h.row.2 with ⟨rfl, h0⟩ | ⟨gb, cap, cur, rfl, hb, hg, hc, hm, hs, ht⟩
  · exact ⟨none, 0, by rw [h0], fun i x hx => by have := (List.getElem?_eq_some_iff.1 hx).1; omega⟩
  · refine ⟨_, cap, rfl, fun i x hx => ?_⟩
    have hlt := (List.getElem?_eq_some_iff.1 hx).1
    obtain ⟨u, hu⟩ : ∃ u, us[i]? = some u := ⟨us[i]'(by rw [h.len]; exact hlt), List.getElem?_eq_getElem _⟩
    obtain ⟨b0, b1⟩ := blU_at xs us i x u hx hu
    refine ⟨gb, u.1, u.2, rfl, ?_, ?_, (h.data i x u hx hu).1⟩
    · rw [cell_of_row w gb (i * 2) _ _ _ hg, ← Array.getElem?_toList, ← b0, ← ht, List.getElem?_take_of_lt (by omega)]
    · rw [cell_of_row w gb (i * 2 + 1) _ _ _ hg, ← Array.getElem?_toList, ← b1, ← ht, List.getElem?_take_of_lt (by omega)]
/-- A key of a slice of keys that is owned. -/
theorem keyAtS {w : World} {base cap n i : Nat} {a : Option Addr} {ks : List KeyS} (h : w.ownsRow base 46 32 (.slice a n cap) n ((flatK ks).map (Value.int .u8))) (hn : ks.length = n) {x : KeyS} (hx : ks[i]? = some x) :
    ∃ (kg : Nat) (c : Array Value), a = some ⟨kg, 0, none⟩ ∧ w.heap[kg]? = some (.cells c 46) ∧ ∀ U : World, U.heap[kg]? = some (.cells c 46) → U.rangeAt kg (i * 32) (x.1.map (Value.int .u8)) := by
  have hlt := (List.getElem?_eq_some_iff.1 hx).1
  rcases h.2 with ⟨_, h0⟩ | ⟨kg, cap', cur, hv, hb, hg, hc, hm, hs, ht⟩
  · omega
  · cases hv
    have hT : flatK ks = flatK (ks.take i) ++ (x.1 ++ flatK (ks.drop (i + 1))) := by
      have e : ks = ks.take i ++ (x :: ks.drop (i + 1)) := by
        rw [← (List.getElem?_eq_some_iff.1 hx).2, List.getElem_cons_drop, List.take_append_drop]
      conv => lhs; rw [e]
      simp [flatK]
    have hL : (flatK (ks.take i)).length = 32 * i := by
      rw [flatK_len, List.length_take]
      omega
    refine ⟨kg, cur, rfl, hg, fun U hU j v hv2 => ?_⟩
    have hj : j < 32 := by
      have := (List.getElem?_eq_some_iff.1 hv2).1
      rw [List.length_map, x.2.1] at this
      exact this
    rw [cell_of_row U kg (i * 32 + j) _ _ _ hU]
    have h3 : (cur.toList.take (n * 32))[i * 32 + j]? = some v := by
      rw [ht, hT, List.map_append, List.getElem?_append_right (by rw [List.length_map, hL]; omega), List.length_map, hL, show i * 32 + j - 32 * i = j by omega, List.map_append, List.getElem?_append_left (by rw [List.length_map, x.2.1]; exact hj)]
      exact hv2
    rw [List.getElem?_take_of_lt (by omega), Array.getElem?_toList] at h3
    exact h3
theorem keyOwn {w : World} {base n : Nat} {v : Value} {l : List Value} (h : w.ownsRow base 46 32 v n l) : ∃ a cap, v = .slice a n cap := by
  rcases h.2 with ⟨rfl, h0⟩ | ⟨b, cap, cur, rfl, _⟩
  · exact ⟨none, 0, by rw [h0]⟩
  · exact ⟨_, cap, rfl⟩
set_option maxRecDepth 100000 in
set_option maxHeartbeats 16000000 in
theorem store_impl (m : Nat) (xs zs : List BlV) (hx : xs.length ≤ 1048576) (hz : zs.map keyK = sortK (xs.map keyK)) (hmem : ∀ z ∈ zs, z ∈ xs) (hf : ∀ z ∈ xs, z.l.length = z.n ∧ z.n ≤ 1048576) (w : World) (hsh : ShelfAt w m xs) :
    Calls Try.prog 81 #[.map (some m)] w fun e w' => ∃ v ys, e = .returned (.agg #[v]) ∧ OwnS w' w.heap.size v zs ys ∧ Below w.heap.size w w' := by
  have hlen : zs.length = xs.length := by
    have := congrArg List.length hz
    rw [List.length_map, (sortK_perm _).length_eq, List.length_map] at this
    exact this
  obtain ⟨i0, z0, hi0, hz0, hs0, hb0, hc0⟩ := blParts
  have Hz := Lib.hid z32_ints
  have SH := Lib.hid hsh
  obtain ⟨ps, hK, hps1, hps2⟩ := hsh
  have KMm := Lib.hid hK
  have PS1 := Lib.hid hps1
  have PS2 := Lib.hid hps2
  have HM := Lib.hid hmem
  have HF := Lib.hid hf
  have HZ := Lib.hid hz
  have AP := Lib.hid (hK.apart kty)
  clear hK hps1 hps2 hmem hf hz
  obtain ⟨n, hnn⟩ : ∃ n, xs.length = n := ⟨_, rfl⟩
  rw [hnn] at hx hlen
  have hL := Lib.hid hlen
  have BS : Below w.heap.size w ((w.alloc (.cells #[.slice none 0 0] 29)).alloc (.cells #[.slice none 0 0] 29)) := by go_grown
  have X0 : ((w.alloc (.cells #[.slice none 0 0] 29)).alloc (.cells #[.slice none 0 0] 29)).heap[w.heap.size]? = some (.cells #[.slice none 0 0] 29) := heap_alloc2_old w _ _
  have X1 : ((w.alloc (.cells #[.slice none 0 0] 29)).alloc (.cells #[.slice none 0 0] 29)).heap[w.heap.size + 1]? = some (.cells #[.slice none 0 0] 29) := heap_alloc2_new w _ _
  have HKK := Lib.hid (keys_impl m xs (by omega) _ (SH.out.below BS))
  rw [hnn] at HKK
  have B0 := Lib.hid BS
  have HX0 := Lib.hid X0
  have HX1 := Lib.hid X1
  clear BS X0 X1 hlen
  have z1 : (0 : Int) ≤ (n : Int) := by omega
  have z2 : (n : Int) ≤ 1048576 := by omega
  go_enter Try.func81, Try.ntmps81
  go_wp2_with fail
  refine HKK.out.mono ?_
  rintro e w1 ⟨vk, rfl, hrow, hb⟩
  obtain ⟨ak, ck, rfl⟩ := keyOwn hrow
  have B1 := Lib.hid (below_call B0.out B0.out.size hb)
  have BX1 := Lib.hid (keep_block HX1.out hb)
  have BX0 := Lib.hid (keep_block HX0.out hb)
  have ROW := Lib.hid hrow
  have SZ1 := Lib.hid (show w.heap.size + 1 < w1.heap.size from (Array.getElem?_eq_some_iff.1 BX1.out).1)
  clear hb hrow HKK B0 HX0 HX1
  go_wp2_with fail
  obtain ⟨BX, hBX⟩ : ∃ BX, w.heap.size + 1 = BX := ⟨_, rfl⟩
  have HBX := Lib.hid (show w.heap.size ≤ BX by omega)
  have HNX := Lib.hid (show w.heap.size < BX by omega)
  rw [hBX] at BX1 SZ1 ⊢
  clear hBX
  go_loopw [9] (fun i wr => ∃ (k : Nat) (v : Value) (ys : List Nat), k ≤ n ∧ i = .int .i64 (k : Int) ∧ Below w.heap.size w wr ∧ wr.heap[w.heap.size]? = some (.cells #[.slice none 0 0] 29) ∧ wr.heap[BX]? = some (.cells #[v] 29) ∧ OwnS wr w.heap.size v (zs.take k) ys ∧ TK 46 w1 wr) (fun i _ => n - (intOf i).toNat)
  case atStart => exact ⟨0, _, [], by omega, rfl, B1.out, BX0.out, BX1.out, by simpa using OwnS.nil w1 w.heap.size, TK.refl _ _⟩
  case round =>
    obtain ⟨k, v, ys, hk, rfl, hb, hx0, hx1, hO, hT⟩ := hrel
    have X02 := Lib.hid hx0
    have B2 := Lib.hid hb
    have X2 := Lib.hid hx1
    have O2 := Lib.hid hO
    have T2 := Lib.hid hT
    clear hb hx0 hx1 hO hT
    by_cases hlt : k < n
    · have b0 : (0 : Int) ≤ (k : Int) := by omega
      have b1 : (k : Int) < (n : Int) := by omega
      obtain ⟨z, hzk⟩ : ∃ z, zs[k]? = some z := ⟨zs[k]'(by have := hL.out; omega), List.getElem?_eq_getElem _⟩
      have hzm := HM.out z (List.mem_of_getElem? hzk)
      obtain ⟨ix, hix⟩ := List.getElem?_of_mem hzm
      obtain ⟨fl1, fl2⟩ := HF.out z hzm
      have hixl := (List.getElem?_eq_some_iff.1 hix).1
      obtain ⟨p, hp⟩ : ∃ p, ps[ix]? = some p := ⟨ps[ix]'(by have := PS1.out; omega), List.getElem?_eq_getElem (by have := PS1.out; omega)⟩
      obtain ⟨hp1, y, hp2, hy⟩ := PS2.out ix p z hp hix
      obtain ⟨pk, pv⟩ := p
      dsimp only at hp1 hp2
      subst hp2
      have hgk : getK ps (keyX z) = some (blV z y) := getK_at AP.out (by rw [← hp1]; exact List.mem_of_getElem? hp)
      have hKS : (sortK (xs.map keyK))[k]? = some (keyK z) := by rw [← HZ.out, List.getElem?_map, hzk]; rfl
      have hKL : (sortK (xs.map keyK)).length = n := by rw [← HZ.out, List.length_map]; exact hL.out
      obtain ⟨kg, kc, rfl, hkg, hkr⟩ := keyAtS ROW.out hKL hKS
      have RG := Lib.hid (hkr wr (T2.out kg kc hkg))
      have hDY := Lib.hid hy
      have HZK := Lib.hid hzk
      obtain ⟨V, hV⟩ : ∃ V, keyX z = V := ⟨_, rfl⟩
      have HLK0 : ∀ U, Below w.heap.size w U → (Instr.lookup 80 (.map (some m)) (.agg (ints .u8 V)) false).run Try.prog U = .ok (blV z y) U := fun U hU => by
        have h := (KMm.out.later hU).look false kty shelfTy (zeroBl U) (isK_keyX z)
        rw [hgk, hV] at h
        exact h
      have VL := Lib.hid (show V.length = 32 by rw [← hV]; exact (isK_keyX z).1)
      have hRG : Hid (wr.rangeAt kg (k * 32) (V.map (Value.int .u8))) := Lib.hid (by have h := RG.out; change wr.rangeAt kg (k * 32) ((keyX z).map (Value.int .u8)) at h; rw [hV] at h; exact h)
      have HTL := Lib.hid (show (zs.take k).length = k by rw [List.length_take, hL.out]; omega)
      have HTK := Lib.hid (show zs.take k ++ [z] = zs.take (k + 1) by rw [List.take_add_one, HZK.out]; rfl)
      clear hzm hix hixl hp hp1 hgk hKS hKL hkg hkr hy hzk RG hV
      obtain ⟨xt, xa, xn, xc, xl⟩ := z
      dsimp only at fl1 fl2 hDY
      have hcp := Lib.hid (fun U h => copied_impl2 xt y xn xl fl1 fl2 U h)
      have HLK := Lib.hid (fun U hU => show (Instr.lookup 80 (.map (some m)) (.agg (ints .u8 V)) false).run Try.prog U = .ok (.agg #[.int .u8 xt, .slice (some ⟨y, 0, none⟩) xn xn]) U from HLK0 U hU)
      have DY := Lib.hid (fun U (hU : Below w.heap.size w U) => keep_block hDY.out hU)
      clear HLK0 fl1 fl2 hDY
      go_upto_region 5 with (first | (refine wpList_load_ints rfl 46 (.tmp 11) rfl kg (k * 32) rfl .u8 V _ hRG.out Try.underlying46 rfl (by rw [VL.out]; exact sizeKey) ?_) | (refine wpList_store_row rfl 46 (.tmp 5) _ rfl wr.heap.size (ints .u8 V) rfl rfl 46 (ints .u8 z32) (by rw [Hz.out]; exact heap_alloc_last _ _) (by rw [ints_size, VL.out]; exact sizeKey) (by rw [ints_size, ints_size, VL.out, (show z32.length = 32 from rfl)]) (ints_one _ _) ?_))
      have LB := layB wr (ints .u8 z32) (ints .u8 V) 46
      have NK := layN wr (ints .u8 z32) (ints .u8 V) 46
      rw [← Hz.out]
      generalize (wr.alloc (.cells (ints .u8 z32) 46)).setRow wr.heap.size (ints .u8 V) = w2 at LB NK ⊢
      have OW := Lib.hid (O2.out.below LB)
      have BW := Lib.hid ((below_call B2.out B2.out.size LB).drew)
      have HX := Lib.hid (keep_block X2.out LB)
      have H0 := Lib.hid (keep_block X02.out LB)
      have KW := Lib.hid (T2.out.trans (TK.of LB))
      have KN := Lib.hid NK
      have LB' := Lib.hid (below_call B2.out B2.out.size LB)
      have hSZ := Lib.hid (show w.heap.size ≤ w2.drew.heap.size from BW.out.size)
      clear LB LB' NK B2 X2 X02 O2 T2
      generalize wr.heap.size = gN at KN ⊢
      change Hid (w2.drew.heap[BX]? = _) at HX
      change Hid (w2.drew.heap[w.heap.size]? = _) at H0
      change Hid (w2.drew.heap[gN]? = _) at KN
      replace OW := Lib.hid (OW.out.below (Below.refl _ _).drew)
      replace KW := Lib.hid (KW.out.trans (TK.of (Below.refl _ _).drew))
      refine wp_region_held_drew (S := fun U => Below w.heap.size w U ∧ U.heap[gN]? = some (.cells (ints .u8 V) 46)) (by kernel_rfl) ⟨BW.out, KN.out⟩ (fun hS => ?_)
      generalize w2.drew = w3 at HX H0 OW BW KW KN hSZ hS ⊢
      refine takeS (i := 0) (v := .pointer (some ⟨BX, 0, none⟩)) rfl rfl (by kernel_rfl) (by kernel_rfl) (by kernel_rfl) (fun _ _ _ h => h) (Or.inl ⟨by rfl, fun U hU => by go_simp⟩) hS ?_
      try simp only [List.setIfInBounds_toArray, List.set_cons_zero, List.set_cons_succ]
      refine takeS (i := 2) (v := .map (some m)) rfl rfl (by kernel_rfl) (by kernel_rfl) (by kernel_rfl) (fun _ _ _ h => h) (Or.inl ⟨by rfl, fun U hU => by go_simp⟩) hS ?_
      try simp only [List.setIfInBounds_toArray, List.set_cons_zero, List.set_cons_succ]
      refine takeS (i := 3) (v := .agg (ints .u8 V)) rfl rfl (by kernel_rfl) (by kernel_rfl) (by kernel_rfl) (fun _ _ _ h => h) (yields_rowS (by rfl) 46 _ rfl gN rfl (ints .u8 V) 46 _ (fun U hU => hU.2) Try.underlying46 rfl (by rw [ints_size, VL.out]; exact sizeKey)) hS ?_
      try simp only [List.setIfInBounds_toArray, List.set_cons_zero, List.set_cons_succ]
      refine takeS (i := 4) (v := .agg #[.int .u8 xt, .slice (some ⟨y, 0, none⟩) xn xn]) rfl rfl (by kernel_rfl) (by kernel_rfl) (by kernel_rfl) (fun _ _ _ h => h) (Or.inl ⟨by rfl, fun U hU => by have ql := HLK.out U hU.1; go_simp⟩) hS ?_
      try simp only [List.setIfInBounds_toArray, List.set_cons_zero, List.set_cons_succ]
      refine wpAnyH_ready (rs := [1, 5]) (by kernel_rfl) (by simp) ?_
      refine AllReadyH.cons rfl (fun KQ hK => ?_) (AllReadyH.cons rfl (fun KQ hK => ?_) AllReadyH.nil)
      · rw [if_pos (by rfl)]
        have cg := cell_of_row _ BX 0 _ _ _ HX.out
        go_simp
        refine hK.out _ _ hS (fun hS => ?_)
        clear hK cg
        refine wpAnyH_ready (rs := [5]) (by kernel_rfl) (by simp) ?_
        refine AllReadyH.cons rfl (fun KQ hK => ?_) AllReadyH.nil
        rw [if_pos (by rfl)]
        go_simp
        refine (hcp.out w3 (DY.out w3 hS.1)).mono ?_
        rintro e w5 ⟨q, rfl, hq, hqd, hb⟩
        have HX := Lib.hid (keep_block HX.out hb)
        have H0 := Lib.hid (keep_block H0.out hb)
        have QN := Lib.hid (show ∀ (i y : Nat), ys[i]? = some y → y < q from fun i y hy => Nat.lt_of_lt_of_le (OW.out.lt hy) hq)
        have OW := Lib.hid (OW.out.below hb)
        have BW := Lib.hid (below_call BW.out BW.out.size hb)
        have KW := Lib.hid (KW.out.trans (TK.of hb))
        have DD := Lib.hid hqd
        have QL := Lib.hid (Nat.le_trans hSZ.out hq)
        refine hK.out _ _ ⟨below_call hS.1 hS.1.size hb, keep_block hS.2 hb⟩ (fun hS => ?_)
        clear hb hK hqd hq
        refine wpAnyH_ready (rs := [6]) (by kernel_rfl) (by simp) ?_
        refine AllReadyH.cons rfl (fun KQ hK => ?_) AllReadyH.nil
        rw [if_pos (by rfl)]
        refine wp_buildSlice_oneS 27 43 _ rfl Try.underlying27 hi0 hz0 #[.int .u8 xt, .slice (some ⟨q, 0, none⟩) xn xn] rfl (by rw [hs0]; rfl) (by rw [hs0]; decide) (by rw [hs0]; decide) ?_
        simp only [Act.put]
        have L1 := (Below.refl w5.heap.size w5).alloc (Nat.le_refl _) (.cells #[.int .u8 xt, .slice (some ⟨q, 0, none⟩) xn xn] 43)
        have GZ := Lib.hid (heap_alloc_last w5 (.cells #[.int .u8 xt, .slice (some ⟨q, 0, none⟩) xn xn] 43))
        have HX := Lib.hid (keep_block HX.out L1)
        have H0 := Lib.hid (keep_block H0.out L1)
        have OW := Lib.hid (OW.out.below L1)
        have BW := Lib.hid (BW.out.alloc BW.out.size (.cells #[.int .u8 xt, .slice (some ⟨q, 0, none⟩) xn xn] 43))
        have KW := Lib.hid (KW.out.trans (TK.of L1))
        have DD := Lib.hid (keep_block DD.out L1)
        clear L1
        refine hK.out _ _ (⟨hS.1.alloc hS.1.size _, keep_block hS.2 ((Below.refl _ _).alloc (Nat.le_refl _) _)⟩) (fun hS => ?_)
        clear hK
        obtain ⟨WB, hWB⟩ : ∃ WB, w5.alloc (.cells #[.int .u8 xt, .slice (some ⟨q, 0, none⟩) xn xn] 43) = WB := ⟨_, rfl⟩
        obtain ⟨GB, hGB⟩ : ∃ GB, w5.heap.size = GB := ⟨_, rfl⟩
        rw [hWB] at HX H0 OW BW KW DD GZ hS ⊢
        rw [hGB] at GZ ⊢
        clear hWB hGB
        refine wpAnyH_ready (rs := [7]) (by kernel_rfl) (by simp) ?_
        refine AllReadyH.cons rfl (fun KQ hK => ?_) AllReadyH.nil
        rw [if_pos (by rfl)]
        refine wp_append_own _ _ _ 27 rfl w.heap.size 43 i0 z0 2 32 Try.underlying27 hi0 hz0 hs0 hb0 hc0 (by decide) v k (blC (zs.take k) ys) rfl (by have h := OW.out.row; rw [HTL.out] at h; exact h) ⟨GB, 0, none⟩ 1 1 [.int .u8 xt, .slice (some ⟨q, 0, none⟩) xn xn] rfl (by rfl) ?k1_1 ?k1_2 ?k1_3 ?k1_4 ?k1_5 ?_
        case k1_1 =>
          intro p u hu
          rw [addr_add, Nat.zero_add, cell_of_row _ GB p _ _ _ GZ.out, ← hu]
          simp
        case k1_2 => intro u hu; simp at hu; rcases hu with rfl | rfl <;> rfl
        case k1_3 => unfold maxLen; omega
        case k1_4 => omega
        case k1_5 => exact BW.out.size
        intro v4 w4 hown4 hgrow4 hnil4
        obtain ⟨g4, c4, rfl⟩ := rowSucc hown4
        have O4 := Lib.hid (OW.out.app (x := ⟨xt, xa, xn, xc, xl⟩) hgrow4 (by rw [HTL.out]; exact hown4) DD.out QL.out (fun i y hy => Nat.ne_of_lt (QN.out i y hy)))
        have H04 := Lib.hid ((hgrow4.block w.heap.size (Array.getElem?_eq_some_iff.1 H0.out).1 (fun e => row_ne OW.out.row H0.out (by decide) e.symm)).trans H0.out)
        have HX4 := Lib.hid ((hgrow4.block BX (Array.getElem?_eq_some_iff.1 HX.out).1 (fun e => row_ne OW.out.row HX.out (by decide) e.symm)).trans HX.out)
        have KW4 := Lib.hid (KW.out.trans (TK.grown OW.out.row hgrow4 (by decide)))
        have B4 := Lib.hid (BW.out.grown hgrow4 BW.out.size (fun q hq => (OW.out.row.lt q hq).1))
        have KK4 := Lib.hid ((TK.grown OW.out.row hgrow4 (by decide)) gN _ hS.2)
        clear hown4 hgrow4 hnil4
        refine hK.out _ _ (⟨B4.out, KK4.out⟩) (fun hS => ?_)
        clear hK
        refine takeS (i := 8) (v := .pointer (some ⟨BX, 0, none⟩)) rfl rfl (by kernel_rfl) (by kernel_rfl) (by kernel_rfl) (fun _ _ _ h => h) (Or.inl ⟨by rfl, fun U hU => by go_simp⟩) hS ?_
        try simp only [List.setIfInBounds_toArray, List.set_cons_zero, List.set_cons_succ]
        refine wpAnyH_ready (rs := [9]) (by kernel_rfl) (by simp) ?_
        refine AllReadyH.cons rfl (fun KQ hK => ?_) AllReadyH.nil
        rw [if_pos (by rfl)]
        have cg := cell_of_row w4 BX 0 _ _ _ HX4.out
        have cf := frozen_of_row w4 BX 0 _ _ HX4.out
        go_simp
        refine hK.out _ _ (⟨B4.out.setCell (p := ⟨BX, 0, none⟩) HBX.out _, (TK.box HX4.out (by decide)) gN _ KK4.out⟩) (fun hS => ?_)
        clear hK cg cf
        refine wpAnyH_done (by kernel_rfl) ?_ _
        have B5 := Lib.hid hS.1
        have O5 := Lib.hid (O4.out.setBox HX4.out (.slice (some ⟨g4, 0, none⟩) (k + 1) c4))
        have KW5 := Lib.hid (KW4.out.trans (TK.box (o := 0) (v := .slice (some ⟨g4, 0, none⟩) (k + 1) c4) HX4.out (by decide)))
        have H05 := Lib.hid ((heap_setCell_other w4 ⟨BX, 0, none⟩ w.heap.size (.slice (some ⟨g4, 0, none⟩) (k + 1) c4) (by have := HNX.out; simp; omega)).trans H04.out)
        have X5 := Lib.hid (heap_setCell_same w4 BX 0 _ _ (.slice (some ⟨g4, 0, none⟩) (k + 1) c4) HX4.out)
        clear hS O4 KW4 KK4 B4
        go_wp2_with fail
        go_roundw
        case rel => exact ⟨k + 1, _, _, by omega, by go_num, B5.out, H05.out, X5.out, by rw [← HTK.out]; exact O5.out, KW5.out⟩
        case measure => simp [intOf]; omega
      · rw [if_pos (by rfl)]
        go_simp
        refine (hcp.out w3 (DY.out w3 hS.1)).mono ?_
        rintro e w5 ⟨q, rfl, hq, hqd, hb⟩
        have HX := Lib.hid (keep_block HX.out hb)
        have H0 := Lib.hid (keep_block H0.out hb)
        have QN := Lib.hid (show ∀ (i y : Nat), ys[i]? = some y → y < q from fun i y hy => Nat.lt_of_lt_of_le (OW.out.lt hy) hq)
        have OW := Lib.hid (OW.out.below hb)
        have BW := Lib.hid (below_call BW.out BW.out.size hb)
        have KW := Lib.hid (KW.out.trans (TK.of hb))
        have DD := Lib.hid hqd
        have QL := Lib.hid (Nat.le_trans hSZ.out hq)
        refine hK.out _ _ ⟨below_call hS.1 hS.1.size hb, keep_block hS.2 hb⟩ (fun hS => ?_)
        clear hb hK hqd hq
        refine wpAnyH_ready (rs := [1, 6]) (by kernel_rfl) (by simp) ?_
        refine AllReadyH.cons rfl (fun KQ hK => ?_) (AllReadyH.cons rfl (fun KQ hK => ?_) AllReadyH.nil)
        · rw [if_pos (by rfl)]
          have cg := cell_of_row _ BX 0 _ _ _ HX.out
          go_simp
          refine hK.out _ _ hS (fun hS => ?_)
          clear hK cg
          refine wpAnyH_ready (rs := [6]) (by kernel_rfl) (by simp) ?_
          refine AllReadyH.cons rfl (fun KQ hK => ?_) AllReadyH.nil
          rw [if_pos (by rfl)]
          refine wp_buildSlice_oneS 27 43 _ rfl Try.underlying27 hi0 hz0 #[.int .u8 xt, .slice (some ⟨q, 0, none⟩) xn xn] rfl (by rw [hs0]; rfl) (by rw [hs0]; decide) (by rw [hs0]; decide) ?_
          simp only [Act.put]
          have L1 := (Below.refl w5.heap.size w5).alloc (Nat.le_refl _) (.cells #[.int .u8 xt, .slice (some ⟨q, 0, none⟩) xn xn] 43)
          have GZ := Lib.hid (heap_alloc_last w5 (.cells #[.int .u8 xt, .slice (some ⟨q, 0, none⟩) xn xn] 43))
          have HX := Lib.hid (keep_block HX.out L1)
          have H0 := Lib.hid (keep_block H0.out L1)
          have OW := Lib.hid (OW.out.below L1)
          have BW := Lib.hid (BW.out.alloc BW.out.size (.cells #[.int .u8 xt, .slice (some ⟨q, 0, none⟩) xn xn] 43))
          have KW := Lib.hid (KW.out.trans (TK.of L1))
          have DD := Lib.hid (keep_block DD.out L1)
          clear L1
          refine hK.out _ _ (⟨hS.1.alloc hS.1.size _, keep_block hS.2 ((Below.refl _ _).alloc (Nat.le_refl _) _)⟩) (fun hS => ?_)
          clear hK
          obtain ⟨WB, hWB⟩ : ∃ WB, w5.alloc (.cells #[.int .u8 xt, .slice (some ⟨q, 0, none⟩) xn xn] 43) = WB := ⟨_, rfl⟩
          obtain ⟨GB, hGB⟩ : ∃ GB, w5.heap.size = GB := ⟨_, rfl⟩
          rw [hWB] at HX H0 OW BW KW DD GZ hS ⊢
          rw [hGB] at GZ ⊢
          clear hWB hGB
          refine wpAnyH_ready (rs := [7]) (by kernel_rfl) (by simp) ?_
          refine AllReadyH.cons rfl (fun KQ hK => ?_) AllReadyH.nil
          rw [if_pos (by rfl)]
          refine wp_append_own _ _ _ 27 rfl w.heap.size 43 i0 z0 2 32 Try.underlying27 hi0 hz0 hs0 hb0 hc0 (by decide) v k (blC (zs.take k) ys) rfl (by have h := OW.out.row; rw [HTL.out] at h; exact h) ⟨GB, 0, none⟩ 1 1 [.int .u8 xt, .slice (some ⟨q, 0, none⟩) xn xn] rfl (by rfl) ?k2_1 ?k2_2 ?k2_3 ?k2_4 ?k2_5 ?_
          case k2_1 =>
            intro p u hu
            rw [addr_add, Nat.zero_add, cell_of_row _ GB p _ _ _ GZ.out, ← hu]
            simp
          case k2_2 => intro u hu; simp at hu; rcases hu with rfl | rfl <;> rfl
          case k2_3 => unfold maxLen; omega
          case k2_4 => omega
          case k2_5 => exact BW.out.size
          intro v4 w4 hown4 hgrow4 hnil4
          obtain ⟨g4, c4, rfl⟩ := rowSucc hown4
          have O4 := Lib.hid (OW.out.app (x := ⟨xt, xa, xn, xc, xl⟩) hgrow4 (by rw [HTL.out]; exact hown4) DD.out QL.out (fun i y hy => Nat.ne_of_lt (QN.out i y hy)))
          have H04 := Lib.hid ((hgrow4.block w.heap.size (Array.getElem?_eq_some_iff.1 H0.out).1 (fun e => row_ne OW.out.row H0.out (by decide) e.symm)).trans H0.out)
          have HX4 := Lib.hid ((hgrow4.block BX (Array.getElem?_eq_some_iff.1 HX.out).1 (fun e => row_ne OW.out.row HX.out (by decide) e.symm)).trans HX.out)
          have KW4 := Lib.hid (KW.out.trans (TK.grown OW.out.row hgrow4 (by decide)))
          have B4 := Lib.hid (BW.out.grown hgrow4 BW.out.size (fun q hq => (OW.out.row.lt q hq).1))
          have KK4 := Lib.hid ((TK.grown OW.out.row hgrow4 (by decide)) gN _ hS.2)
          clear hown4 hgrow4 hnil4
          refine hK.out _ _ (⟨B4.out, KK4.out⟩) (fun hS => ?_)
          clear hK
          refine takeS (i := 8) (v := .pointer (some ⟨BX, 0, none⟩)) rfl rfl (by kernel_rfl) (by kernel_rfl) (by kernel_rfl) (fun _ _ _ h => h) (Or.inl ⟨by rfl, fun U hU => by go_simp⟩) hS ?_
          try simp only [List.setIfInBounds_toArray, List.set_cons_zero, List.set_cons_succ]
          refine wpAnyH_ready (rs := [9]) (by kernel_rfl) (by simp) ?_
          refine AllReadyH.cons rfl (fun KQ hK => ?_) AllReadyH.nil
          rw [if_pos (by rfl)]
          have cg := cell_of_row w4 BX 0 _ _ _ HX4.out
          have cf := frozen_of_row w4 BX 0 _ _ HX4.out
          go_simp
          refine hK.out _ _ (⟨B4.out.setCell (p := ⟨BX, 0, none⟩) HBX.out _, (TK.box HX4.out (by decide)) gN _ KK4.out⟩) (fun hS => ?_)
          clear hK cg cf
          refine wpAnyH_done (by kernel_rfl) ?_ _
          have B5 := Lib.hid hS.1
          have O5 := Lib.hid (O4.out.setBox HX4.out (.slice (some ⟨g4, 0, none⟩) (k + 1) c4))
          have KW5 := Lib.hid (KW4.out.trans (TK.box (o := 0) (v := .slice (some ⟨g4, 0, none⟩) (k + 1) c4) HX4.out (by decide)))
          have H05 := Lib.hid ((heap_setCell_other w4 ⟨BX, 0, none⟩ w.heap.size (.slice (some ⟨g4, 0, none⟩) (k + 1) c4) (by have := HNX.out; simp; omega)).trans H04.out)
          have X5 := Lib.hid (heap_setCell_same w4 BX 0 _ _ (.slice (some ⟨g4, 0, none⟩) (k + 1) c4) HX4.out)
          clear hS O4 KW4 KK4 B4
          go_wp2_with fail
          go_roundw
          case rel => exact ⟨k + 1, _, _, by omega, by go_num, B5.out, H05.out, X5.out, by rw [← HTK.out]; exact O5.out, KW5.out⟩
          case measure => simp [intOf]; omega
        · rw [if_pos (by rfl)]
          refine wp_buildSlice_oneS 27 43 _ rfl Try.underlying27 hi0 hz0 #[.int .u8 xt, .slice (some ⟨q, 0, none⟩) xn xn] rfl (by rw [hs0]; rfl) (by rw [hs0]; decide) (by rw [hs0]; decide) ?_
          simp only [Act.put]
          have L1 := (Below.refl w5.heap.size w5).alloc (Nat.le_refl _) (.cells #[.int .u8 xt, .slice (some ⟨q, 0, none⟩) xn xn] 43)
          have GZ := Lib.hid (heap_alloc_last w5 (.cells #[.int .u8 xt, .slice (some ⟨q, 0, none⟩) xn xn] 43))
          have HX := Lib.hid (keep_block HX.out L1)
          have H0 := Lib.hid (keep_block H0.out L1)
          have OW := Lib.hid (OW.out.below L1)
          have BW := Lib.hid (BW.out.alloc BW.out.size (.cells #[.int .u8 xt, .slice (some ⟨q, 0, none⟩) xn xn] 43))
          have KW := Lib.hid (KW.out.trans (TK.of L1))
          have DD := Lib.hid (keep_block DD.out L1)
          clear L1
          refine hK.out _ _ (⟨hS.1.alloc hS.1.size _, keep_block hS.2 ((Below.refl _ _).alloc (Nat.le_refl _) _)⟩) (fun hS => ?_)
          clear hK
          obtain ⟨WB, hWB⟩ : ∃ WB, w5.alloc (.cells #[.int .u8 xt, .slice (some ⟨q, 0, none⟩) xn xn] 43) = WB := ⟨_, rfl⟩
          obtain ⟨GB, hGB⟩ : ∃ GB, w5.heap.size = GB := ⟨_, rfl⟩
          rw [hWB] at HX H0 OW BW KW DD GZ hS ⊢
          rw [hGB] at GZ ⊢
          clear hWB hGB
          refine wpAnyH_ready (rs := [1]) (by kernel_rfl) (by simp) ?_
          refine AllReadyH.cons rfl (fun KQ hK => ?_) AllReadyH.nil
          rw [if_pos (by rfl)]
          have cg := cell_of_row _ BX 0 _ _ _ HX.out
          go_simp
          refine hK.out _ _ hS (fun hS => ?_)
          clear hK cg
          refine wpAnyH_ready (rs := [7]) (by kernel_rfl) (by simp) ?_
          refine AllReadyH.cons rfl (fun KQ hK => ?_) AllReadyH.nil
          rw [if_pos (by rfl)]
          refine wp_append_own _ _ _ 27 rfl w.heap.size 43 i0 z0 2 32 Try.underlying27 hi0 hz0 hs0 hb0 hc0 (by decide) v k (blC (zs.take k) ys) rfl (by have h := OW.out.row; rw [HTL.out] at h; exact h) ⟨GB, 0, none⟩ 1 1 [.int .u8 xt, .slice (some ⟨q, 0, none⟩) xn xn] rfl (by rfl) ?k3_1 ?k3_2 ?k3_3 ?k3_4 ?k3_5 ?_
          case k3_1 =>
            intro p u hu
            rw [addr_add, Nat.zero_add, cell_of_row _ GB p _ _ _ GZ.out, ← hu]
            simp
          case k3_2 => intro u hu; simp at hu; rcases hu with rfl | rfl <;> rfl
          case k3_3 => unfold maxLen; omega
          case k3_4 => omega
          case k3_5 => exact BW.out.size
          intro v4 w4 hown4 hgrow4 hnil4
          obtain ⟨g4, c4, rfl⟩ := rowSucc hown4
          have O4 := Lib.hid (OW.out.app (x := ⟨xt, xa, xn, xc, xl⟩) hgrow4 (by rw [HTL.out]; exact hown4) DD.out QL.out (fun i y hy => Nat.ne_of_lt (QN.out i y hy)))
          have H04 := Lib.hid ((hgrow4.block w.heap.size (Array.getElem?_eq_some_iff.1 H0.out).1 (fun e => row_ne OW.out.row H0.out (by decide) e.symm)).trans H0.out)
          have HX4 := Lib.hid ((hgrow4.block BX (Array.getElem?_eq_some_iff.1 HX.out).1 (fun e => row_ne OW.out.row HX.out (by decide) e.symm)).trans HX.out)
          have KW4 := Lib.hid (KW.out.trans (TK.grown OW.out.row hgrow4 (by decide)))
          have B4 := Lib.hid (BW.out.grown hgrow4 BW.out.size (fun q hq => (OW.out.row.lt q hq).1))
          have KK4 := Lib.hid ((TK.grown OW.out.row hgrow4 (by decide)) gN _ hS.2)
          clear hown4 hgrow4 hnil4
          refine hK.out _ _ (⟨B4.out, KK4.out⟩) (fun hS => ?_)
          clear hK
          refine takeS (i := 8) (v := .pointer (some ⟨BX, 0, none⟩)) rfl rfl (by kernel_rfl) (by kernel_rfl) (by kernel_rfl) (fun _ _ _ h => h) (Or.inl ⟨by rfl, fun U hU => by go_simp⟩) hS ?_
          try simp only [List.setIfInBounds_toArray, List.set_cons_zero, List.set_cons_succ]
          refine wpAnyH_ready (rs := [9]) (by kernel_rfl) (by simp) ?_
          refine AllReadyH.cons rfl (fun KQ hK => ?_) AllReadyH.nil
          rw [if_pos (by rfl)]
          have cg := cell_of_row w4 BX 0 _ _ _ HX4.out
          have cf := frozen_of_row w4 BX 0 _ _ HX4.out
          go_simp
          refine hK.out _ _ (⟨B4.out.setCell (p := ⟨BX, 0, none⟩) HBX.out _, (TK.box HX4.out (by decide)) gN _ KK4.out⟩) (fun hS => ?_)
          clear hK cg cf
          refine wpAnyH_done (by kernel_rfl) ?_ _
          have B5 := Lib.hid hS.1
          have O5 := Lib.hid (O4.out.setBox HX4.out (.slice (some ⟨g4, 0, none⟩) (k + 1) c4))
          have KW5 := Lib.hid (KW4.out.trans (TK.box (o := 0) (v := .slice (some ⟨g4, 0, none⟩) (k + 1) c4) HX4.out (by decide)))
          have H05 := Lib.hid ((heap_setCell_other w4 ⟨BX, 0, none⟩ w.heap.size (.slice (some ⟨g4, 0, none⟩) (k + 1) c4) (by have := HNX.out; simp; omega)).trans H04.out)
          have X5 := Lib.hid (heap_setCell_same w4 BX 0 _ _ (.slice (some ⟨g4, 0, none⟩) (k + 1) c4) HX4.out)
          clear hS O4 KW4 KK4 B4
          go_wp2_with fail
          go_roundw
          case rel => exact ⟨k + 1, _, _, by omega, by go_num, B5.out, H05.out, X5.out, by rw [← HTK.out]; exact O5.out, KW5.out⟩
          case measure => simp [intOf]; omega
    · obtain rfl : k = n := by omega
      have hzz : zs.take k = zs := List.take_of_length_le (by have := hL.out; omega)
      rw [hzz] at O2
      have c0 := cell_of_row _ BX 0 _ _ _ X2.out
      have d0 := cell_of_row _ w.heap.size 0 _ _ _ X02.out
      have f0 := frozen_of_row _ w.heap.size 0 _ _ X02.out
      have HE := Lib.hid (heap_setCell_same wr w.heap.size 0 _ _ v X02.out)
      have OE := Lib.hid (O2.out.setBox X02.out v)
      have BE := Lib.hid (B2.out.setCell (p := ⟨w.heap.size, 0, none⟩) (Nat.le_refl _) v)
      obtain ⟨av, cv, rfl, -⟩ := O2.out.shape
      clear O2 B2 T2
      go_wp2_with fail
      refine bodyPost_ret (results_cell_row rfl _ _ w.heap.size 29 #[_] (0, 0) _ rfl HE.out Try.underlying29 rfl (by show _ = some 1; kernel_rfl)) rfl ?_
      exact ⟨_, ys, rfl, OE.out, BE.out⟩
theorem OpenP.shape {w : World} {base X : Nat} {v1 v2 : Value} {xs : List BlV} {ys : List Nat} {kn : Nat} {fl : List Int} (h : OpenP w base X v1 v2 xs ys kn fl) : ∃ a cap, v1 = .slice a xs.length cap := by
  rcases h.row1.2 with ⟨rfl, h0⟩ | ⟨b, cap, cur, rfl, _⟩
  · exact ⟨none, 0, by rw [h0]⟩
  · exact ⟨_, cap, rfl⟩
set_option maxRecDepth 100000 in
set_option maxHeartbeats 16000000 in
theorem store_spec (X base : Nat) (v1 v2 : Value) (xs : List BlV) (yo : List Nat) (kn : Nat) (fl : List Int) (hx : xs.length ≤ 1048576) (hf : ∀ (i : Nat) (z : BlV), xs[i]? = some z → z.l.length = z.n ∧ z.n ≤ 1048576) (w : World) (hop : OpenP w base X v1 v2 xs yo kn fl) :
    Calls Try.prog 79 #[.pointer (some ⟨X, 0, none⟩)] w fun e w' => ∃ v us, e = .returned (.agg #[v]) ∧ GrS w' w.heap.size v xs us ∧ Below w.heap.size w w' := by
  obtain ⟨i0, z0, hi0, hz0, hs0, hb0, hc0⟩ := blParts
  have HOP := Lib.hid hop
  have HF := Lib.hid hf
  obtain ⟨av, cv, hv1⟩ := hop.shape
  subst hv1
  have HOX := Lib.hid hop.box
  clear hop hf
  obtain ⟨n, hnn⟩ : ∃ n, xs.length = n := ⟨_, rfl⟩
  rw [hnn] at hx HOX
  have BS : Below w.heap.size w ((w.alloc (.cells #[.slice none 0 0] 29)).alloc (.cells #[.slice none 0 0] 29)) := by go_grown
  have X0 : ((w.alloc (.cells #[.slice none 0 0] 29)).alloc (.cells #[.slice none 0 0] 29)).heap[w.heap.size]? = some (.cells #[.slice none 0 0] 29) := heap_alloc2_old w _ _
  have X1 : ((w.alloc (.cells #[.slice none 0 0] 29)).alloc (.cells #[.slice none 0 0] 29)).heap[w.heap.size + 1]? = some (.cells #[.slice none 0 0] 29) := heap_alloc2_new w _ _
  have B1 := Lib.hid BS
  have BX0 := Lib.hid X0
  have BX1 := Lib.hid X1
  clear BS X0 X1
  go_enter Try.func79, Try.ntmps79
  go_wp2_with fail
  generalize (w.alloc (.cells #[.slice none 0 0] 29)).alloc (.cells #[.slice none 0 0] 29) = w1 at B1 BX0 BX1 ⊢
  obtain ⟨BX, hBX⟩ : ∃ BX, w.heap.size + 1 = BX := ⟨_, rfl⟩
  have HBX := Lib.hid (show w.heap.size ≤ BX by omega)
  have HNX := Lib.hid (show w.heap.size < BX by omega)
  rw [hBX] at BX1 ⊢
  clear hBX
  go_loopw [4] (fun i wr => ∃ (k : Nat) (v : Value) (us : List (Option Addr × Nat)), k ≤ n ∧ i = .int .i64 (k : Int) ∧ Below w.heap.size w wr ∧ wr.heap[w.heap.size]? = some (.cells #[.slice none 0 0] 29) ∧ wr.heap[BX]? = some (.cells #[v] 29) ∧ GrS wr w.heap.size v (xs.take k) us) (fun i _ => n - (intOf i).toNat)
  case atStart => exact ⟨0, _, [], by omega, rfl, B1.out, BX0.out, BX1.out, by simpa using GrS.nil w1 w.heap.size⟩
  case round =>
    obtain ⟨k, v, us, hk, rfl, hb, hx0, hx1, hO⟩ := hrel
    have B2 := Lib.hid hb
    have X02 := Lib.hid hx0
    have X2 := Lib.hid hx1
    have O2 := Lib.hid hO
    clear hb hx0 hx1 hO
    have q1 := cell_of_row _ X 0 _ _ _ (keep_block HOX.out B2.out)
    by_cases hlt : k < n
    · have b0 : (0 : Int) ≤ (k : Int) := by omega
      have b1 : (k : Int) < (n : Int) := by omega
      obtain ⟨z, hzk⟩ : ∃ z, xs[k]? = some z := ⟨xs[k]'(by omega), List.getElem?_eq_getElem _⟩
      obtain ⟨fl1, fl2⟩ := HF.out k z hzk
      obtain ⟨gb, cb, y, hvv, e0, e1, hy⟩ := HOP.out.blob hzk
      rw [hnn] at hvv
      cases hvv
      have DC := Lib.hid (fun U (hU : Below w.heap.size w U) => And.intro ((hU.cell (p := ⟨gb, k * 2, none⟩) (World.block_lt_of_cell? w _ e0)).trans e0) ((hU.cell (p := ⟨gb, k * 2 + 1, none⟩) (World.block_lt_of_cell? w _ e1)).trans e1))
      have DY := Lib.hid (fun U (hU : Below w.heap.size w U) => keep_block hy hU)
      have HZK := Lib.hid hzk
      have HTL := Lib.hid (show (xs.take k).length = k by rw [List.length_take]; omega)
      have HTK := Lib.hid (show xs.take k ++ [z] = xs.take (k + 1) by rw [List.take_add_one, HZK.out]; rfl)
      clear e0 e1 hy hzk
      obtain ⟨xt, xa, xn, xc, xl⟩ := z
      dsimp only at fl1 fl2 DC DY
      have hcp := Lib.hid (fun U h => l05Copy_spec2 xt y xn xl fl1 fl2 U h)
      clear fl1 fl2
      go_upto_region 5 with fail
      clear q1
      have OW := Lib.hid (O2.out.below (Below.refl _ _).drew)
      have BW := Lib.hid (B2.out.drew)
      have HX := X2
      have H0 := X02
      change Hid (wr.drew.heap[BX]? = _) at HX
      change Hid (wr.drew.heap[w.heap.size]? = _) at H0
      clear X2 X02 O2 B2
      refine wp_region_held_drew (S := fun U => Below w.heap.size w U) (by kernel_rfl) BW.out (fun hS => ?_)
      generalize wr.drew = w3 at HX H0 OW BW hS ⊢
      refine takeS (i := 0) (v := .pointer (some ⟨BX, 0, none⟩)) rfl rfl (by kernel_rfl) (by kernel_rfl) (by kernel_rfl) (fun _ _ _ h => h) (Or.inl ⟨by rfl, fun U hU => by go_simp⟩) hS ?_
      try simp only [List.setIfInBounds_toArray, List.set_cons_zero, List.set_cons_succ]
      refine takeS (i := 2) (v := .pointer (some ⟨X, 0, none⟩)) rfl rfl (by kernel_rfl) (by kernel_rfl) (by kernel_rfl) (fun _ _ _ h => h) (Or.inl ⟨by rfl, fun U hU => by go_simp⟩) hS ?_
      try simp only [List.setIfInBounds_toArray, List.set_cons_zero, List.set_cons_succ]
      refine takeS (i := 3) (v := .pointer (some ⟨X, 0, none⟩)) rfl rfl (by kernel_rfl) (by kernel_rfl) (by kernel_rfl) (fun _ _ _ h => h) (Or.inl ⟨by rfl, fun U hU => by go_simp⟩) hS ?_
      try simp only [List.setIfInBounds_toArray, List.set_cons_zero, List.set_cons_succ]
      refine takeS (i := 4) (v := .pointer (some ⟨X, 0, none⟩)) rfl rfl (by kernel_rfl) (by kernel_rfl) (by kernel_rfl) (fun _ _ _ h => h) (Or.inl ⟨by rfl, fun U hU => by go_simp⟩) hS ?_
      try simp only [List.setIfInBounds_toArray, List.set_cons_zero, List.set_cons_succ]
      refine takeS (i := 5) (v := .slice (some ⟨gb, 0, none⟩) n cv) rfl rfl (by kernel_rfl) (by kernel_rfl) (by kernel_rfl) (fun _ _ _ h => h) (Or.inl ⟨by rfl, fun U hU => by have cu := cell_of_row _ X 0 _ _ _ (keep_block HOX.out hU); go_simp⟩) hS ?_
      try simp only [List.setIfInBounds_toArray, List.set_cons_zero, List.set_cons_succ]
      refine takeS (i := 6) (v := .int .i64 (k : Int)) rfl rfl (by kernel_rfl) (by kernel_rfl) (by kernel_rfl) (fun _ _ _ h => h) (Or.inl ⟨by rfl, fun U hU => by go_simp⟩) hS ?_
      try simp only [List.setIfInBounds_toArray, List.set_cons_zero, List.set_cons_succ]
      refine takeS (i := 7) (v := .pointer (some ⟨gb, k * 2, none⟩)) rfl rfl (by kernel_rfl) (by kernel_rfl) (by kernel_rfl) (fun _ _ _ h => h) (Or.inl ⟨by rfl, fun U hU => by go_simp⟩) hS ?_
      try simp only [List.setIfInBounds_toArray, List.set_cons_zero, List.set_cons_succ]
      refine takeS (i := 8) (v := .agg #[.int .u8 xt, .slice (some ⟨y, 0, none⟩) xn xn]) rfl rfl (by kernel_rfl) (by kernel_rfl) (by kernel_rfl) (fun _ _ _ h => h) (Or.inl ⟨by rfl, fun U hU => by obtain ⟨cu0, cu1⟩ := DC.out U hU; go_simp⟩) hS ?_
      try simp only [List.setIfInBounds_toArray, List.set_cons_zero, List.set_cons_succ]
      refine wpAnyH_ready (rs := [1, 9]) (by kernel_rfl) (by simp) ?_
      refine AllReadyH.cons rfl (fun KQ hK => ?_) (AllReadyH.cons rfl (fun KQ hK => ?_) AllReadyH.nil)
      · rw [if_pos (by rfl)]
        have cg := cell_of_row _ BX 0 _ _ _ HX.out
        go_simp
        refine hK.out _ _ hS (fun hS => ?_)
        clear hK cg
        refine wpAnyH_ready (rs := [9]) (by kernel_rfl) (by simp) ?_
        refine AllReadyH.cons rfl (fun KQ hK => ?_) AllReadyH.nil
        rw [if_pos (by rfl)]
        go_simp
        refine (hcp.out w3 (DY.out w3 hS)).mono ?_
        rintro e w5 ⟨qa, qc, rfl, hqd, hb⟩
        have HX := Lib.hid (keep_block HX.out hb)
        have H0 := Lib.hid (keep_block H0.out hb)
        have OW := Lib.hid (OW.out.below hb)
        have BW := Lib.hid (below_call BW.out BW.out.size hb)
        have DD := Lib.hid hqd
        refine hK.out _ _ (below_call hS hS.size hb) (fun hS => ?_)
        clear hb hK hqd
        refine wpAnyH_ready (rs := [10]) (by kernel_rfl) (by simp) ?_
        refine AllReadyH.cons rfl (fun KQ hK => ?_) AllReadyH.nil
        rw [if_pos (by rfl)]
        refine wp_buildSlice_oneS 27 43 _ rfl Try.underlying27 hi0 hz0 #[.int .u8 xt, .slice qa xn qc] rfl (by rw [hs0]; rfl) (by rw [hs0]; decide) (by rw [hs0]; decide) ?_
        simp only [Act.put]
        have L1 := (Below.refl w5.heap.size w5).alloc (Nat.le_refl _) (.cells #[.int .u8 xt, .slice qa xn qc] 43)
        have GZ := Lib.hid (heap_alloc_last w5 (.cells #[.int .u8 xt, .slice qa xn qc] 43))
        have HX := Lib.hid (keep_block HX.out L1)
        have H0 := Lib.hid (keep_block H0.out L1)
        have OW := Lib.hid (OW.out.below L1)
        have BW := Lib.hid (BW.out.alloc BW.out.size (.cells #[.int .u8 xt, .slice qa xn qc] 43))
        have DD := Lib.hid (DD.out.keep (TK.of L1))
        clear L1
        refine hK.out _ _ (hS.alloc hS.size _) (fun hS => ?_)
        clear hK
        obtain ⟨WB, hWB⟩ : ∃ WB, w5.alloc (.cells #[.int .u8 xt, .slice qa xn qc] 43) = WB := ⟨_, rfl⟩
        obtain ⟨GB, hGB⟩ : ∃ GB, w5.heap.size = GB := ⟨_, rfl⟩
        rw [hWB] at HX H0 OW BW DD GZ hS ⊢
        rw [hGB] at GZ ⊢
        clear hWB hGB
        refine wpAnyH_ready (rs := [11]) (by kernel_rfl) (by simp) ?_
        refine AllReadyH.cons rfl (fun KQ hK => ?_) AllReadyH.nil
        rw [if_pos (by rfl)]
        refine wp_append_own _ _ _ 27 rfl w.heap.size 43 i0 z0 2 32 Try.underlying27 hi0 hz0 hs0 hb0 hc0 (by decide) v k (blU (xs.take k) us) rfl (by have h := OW.out.row; rw [HTL.out] at h; exact h) ⟨GB, 0, none⟩ 1 1 [.int .u8 xt, .slice qa xn qc] rfl (by rfl) ?k4_1 ?k4_2 ?k4_3 ?k4_4 ?k4_5 ?_
        case k4_1 =>
          intro p u hu
          rw [addr_add, Nat.zero_add, cell_of_row _ GB p _ _ _ GZ.out, ← hu]
          simp
        case k4_2 => intro u hu; simp at hu; rcases hu with rfl | rfl <;> rfl
        case k4_3 => unfold maxLen; omega
        case k4_4 => omega
        case k4_5 => exact BW.out.size
        intro v4 w4 hown4 hgrow4 hnil4
        obtain ⟨g4, c4, rfl⟩ := rowSucc hown4
        have O4 := Lib.hid (OW.out.app (x := ⟨xt, xa, xn, xc, xl⟩) hgrow4 (by rw [HTL.out]; exact hown4) DD.out)
        have H04 := Lib.hid ((hgrow4.block w.heap.size (Array.getElem?_eq_some_iff.1 H0.out).1 (fun e => row_ne OW.out.row H0.out (by decide) e.symm)).trans H0.out)
        have HX4 := Lib.hid ((hgrow4.block BX (Array.getElem?_eq_some_iff.1 HX.out).1 (fun e => row_ne OW.out.row HX.out (by decide) e.symm)).trans HX.out)
        have B4 := Lib.hid (BW.out.grown hgrow4 BW.out.size (fun q hq => (OW.out.row.lt q hq).1))
        clear hown4 hgrow4 hnil4
        refine hK.out _ _ (B4.out) (fun hS => ?_)
        clear hK
        refine takeS (i := 12) (v := .pointer (some ⟨BX, 0, none⟩)) rfl rfl (by kernel_rfl) (by kernel_rfl) (by kernel_rfl) (fun _ _ _ h => h) (Or.inl ⟨by rfl, fun U hU => by go_simp⟩) hS ?_
        try simp only [List.setIfInBounds_toArray, List.set_cons_zero, List.set_cons_succ]
        refine wpAnyH_ready (rs := [13]) (by kernel_rfl) (by simp) ?_
        refine AllReadyH.cons rfl (fun KQ hK => ?_) AllReadyH.nil
        rw [if_pos (by rfl)]
        have cg := cell_of_row w4 BX 0 _ _ _ HX4.out
        have cf := frozen_of_row w4 BX 0 _ _ HX4.out
        go_simp
        refine hK.out _ _ (B4.out.setCell (p := ⟨BX, 0, none⟩) HBX.out _) (fun hS => ?_)
        clear hK cg cf
        refine wpAnyH_done (by kernel_rfl) ?_ _
        have B5 := Lib.hid hS
        have O5 := Lib.hid (O4.out.setBox HX4.out (.slice (some ⟨g4, 0, none⟩) (k + 1) c4))
        have H05 := Lib.hid ((heap_setCell_other w4 ⟨BX, 0, none⟩ w.heap.size (.slice (some ⟨g4, 0, none⟩) (k + 1) c4) (by have := HNX.out; simp; omega)).trans H04.out)
        have X5 := Lib.hid (heap_setCell_same w4 BX 0 _ _ (.slice (some ⟨g4, 0, none⟩) (k + 1) c4) HX4.out)
        clear hS O4 B4
        go_wp2_with fail
        go_roundw
        case rel => exact ⟨k + 1, _, _, by omega, by go_num, B5.out, H05.out, X5.out, by rw [← HTK.out]; exact O5.out⟩
        case measure => simp [intOf]; omega
      · rw [if_pos (by rfl)]
        go_simp
        refine (hcp.out w3 (DY.out w3 hS)).mono ?_
        rintro e w5 ⟨qa, qc, rfl, hqd, hb⟩
        have HX := Lib.hid (keep_block HX.out hb)
        have H0 := Lib.hid (keep_block H0.out hb)
        have OW := Lib.hid (OW.out.below hb)
        have BW := Lib.hid (below_call BW.out BW.out.size hb)
        have DD := Lib.hid hqd
        refine hK.out _ _ (below_call hS hS.size hb) (fun hS => ?_)
        clear hb hK hqd
        refine wpAnyH_ready (rs := [1, 10]) (by kernel_rfl) (by simp) ?_
        refine AllReadyH.cons rfl (fun KQ hK => ?_) (AllReadyH.cons rfl (fun KQ hK => ?_) AllReadyH.nil)
        · rw [if_pos (by rfl)]
          have cg := cell_of_row _ BX 0 _ _ _ HX.out
          go_simp
          refine hK.out _ _ hS (fun hS => ?_)
          clear hK cg
          refine wpAnyH_ready (rs := [10]) (by kernel_rfl) (by simp) ?_
          refine AllReadyH.cons rfl (fun KQ hK => ?_) AllReadyH.nil
          rw [if_pos (by rfl)]
          refine wp_buildSlice_oneS 27 43 _ rfl Try.underlying27 hi0 hz0 #[.int .u8 xt, .slice qa xn qc] rfl (by rw [hs0]; rfl) (by rw [hs0]; decide) (by rw [hs0]; decide) ?_
          simp only [Act.put]
          have L1 := (Below.refl w5.heap.size w5).alloc (Nat.le_refl _) (.cells #[.int .u8 xt, .slice qa xn qc] 43)
          have GZ := Lib.hid (heap_alloc_last w5 (.cells #[.int .u8 xt, .slice qa xn qc] 43))
          have HX := Lib.hid (keep_block HX.out L1)
          have H0 := Lib.hid (keep_block H0.out L1)
          have OW := Lib.hid (OW.out.below L1)
          have BW := Lib.hid (BW.out.alloc BW.out.size (.cells #[.int .u8 xt, .slice qa xn qc] 43))
          have DD := Lib.hid (DD.out.keep (TK.of L1))
          clear L1
          refine hK.out _ _ (hS.alloc hS.size _) (fun hS => ?_)
          clear hK
          obtain ⟨WB, hWB⟩ : ∃ WB, w5.alloc (.cells #[.int .u8 xt, .slice qa xn qc] 43) = WB := ⟨_, rfl⟩
          obtain ⟨GB, hGB⟩ : ∃ GB, w5.heap.size = GB := ⟨_, rfl⟩
          rw [hWB] at HX H0 OW BW DD GZ hS ⊢
          rw [hGB] at GZ ⊢
          clear hWB hGB
          refine wpAnyH_ready (rs := [11]) (by kernel_rfl) (by simp) ?_
          refine AllReadyH.cons rfl (fun KQ hK => ?_) AllReadyH.nil
          rw [if_pos (by rfl)]
          refine wp_append_own _ _ _ 27 rfl w.heap.size 43 i0 z0 2 32 Try.underlying27 hi0 hz0 hs0 hb0 hc0 (by decide) v k (blU (xs.take k) us) rfl (by have h := OW.out.row; rw [HTL.out] at h; exact h) ⟨GB, 0, none⟩ 1 1 [.int .u8 xt, .slice qa xn qc] rfl (by rfl) ?k5_1 ?k5_2 ?k5_3 ?k5_4 ?k5_5 ?_
          case k5_1 =>
            intro p u hu
            rw [addr_add, Nat.zero_add, cell_of_row _ GB p _ _ _ GZ.out, ← hu]
            simp
          case k5_2 => intro u hu; simp at hu; rcases hu with rfl | rfl <;> rfl
          case k5_3 => unfold maxLen; omega
          case k5_4 => omega
          case k5_5 => exact BW.out.size
          intro v4 w4 hown4 hgrow4 hnil4
          obtain ⟨g4, c4, rfl⟩ := rowSucc hown4
          have O4 := Lib.hid (OW.out.app (x := ⟨xt, xa, xn, xc, xl⟩) hgrow4 (by rw [HTL.out]; exact hown4) DD.out)
          have H04 := Lib.hid ((hgrow4.block w.heap.size (Array.getElem?_eq_some_iff.1 H0.out).1 (fun e => row_ne OW.out.row H0.out (by decide) e.symm)).trans H0.out)
          have HX4 := Lib.hid ((hgrow4.block BX (Array.getElem?_eq_some_iff.1 HX.out).1 (fun e => row_ne OW.out.row HX.out (by decide) e.symm)).trans HX.out)
          have B4 := Lib.hid (BW.out.grown hgrow4 BW.out.size (fun q hq => (OW.out.row.lt q hq).1))
          clear hown4 hgrow4 hnil4
          refine hK.out _ _ (B4.out) (fun hS => ?_)
          clear hK
          refine takeS (i := 12) (v := .pointer (some ⟨BX, 0, none⟩)) rfl rfl (by kernel_rfl) (by kernel_rfl) (by kernel_rfl) (fun _ _ _ h => h) (Or.inl ⟨by rfl, fun U hU => by go_simp⟩) hS ?_
          try simp only [List.setIfInBounds_toArray, List.set_cons_zero, List.set_cons_succ]
          refine wpAnyH_ready (rs := [13]) (by kernel_rfl) (by simp) ?_
          refine AllReadyH.cons rfl (fun KQ hK => ?_) AllReadyH.nil
          rw [if_pos (by rfl)]
          have cg := cell_of_row w4 BX 0 _ _ _ HX4.out
          have cf := frozen_of_row w4 BX 0 _ _ HX4.out
          go_simp
          refine hK.out _ _ (B4.out.setCell (p := ⟨BX, 0, none⟩) HBX.out _) (fun hS => ?_)
          clear hK cg cf
          refine wpAnyH_done (by kernel_rfl) ?_ _
          have B5 := Lib.hid hS
          have O5 := Lib.hid (O4.out.setBox HX4.out (.slice (some ⟨g4, 0, none⟩) (k + 1) c4))
          have H05 := Lib.hid ((heap_setCell_other w4 ⟨BX, 0, none⟩ w.heap.size (.slice (some ⟨g4, 0, none⟩) (k + 1) c4) (by have := HNX.out; simp; omega)).trans H04.out)
          have X5 := Lib.hid (heap_setCell_same w4 BX 0 _ _ (.slice (some ⟨g4, 0, none⟩) (k + 1) c4) HX4.out)
          clear hS O4 B4
          go_wp2_with fail
          go_roundw
          case rel => exact ⟨k + 1, _, _, by omega, by go_num, B5.out, H05.out, X5.out, by rw [← HTK.out]; exact O5.out⟩
          case measure => simp [intOf]; omega
        · rw [if_pos (by rfl)]
          refine wp_buildSlice_oneS 27 43 _ rfl Try.underlying27 hi0 hz0 #[.int .u8 xt, .slice qa xn qc] rfl (by rw [hs0]; rfl) (by rw [hs0]; decide) (by rw [hs0]; decide) ?_
          simp only [Act.put]
          have L1 := (Below.refl w5.heap.size w5).alloc (Nat.le_refl _) (.cells #[.int .u8 xt, .slice qa xn qc] 43)
          have GZ := Lib.hid (heap_alloc_last w5 (.cells #[.int .u8 xt, .slice qa xn qc] 43))
          have HX := Lib.hid (keep_block HX.out L1)
          have H0 := Lib.hid (keep_block H0.out L1)
          have OW := Lib.hid (OW.out.below L1)
          have BW := Lib.hid (BW.out.alloc BW.out.size (.cells #[.int .u8 xt, .slice qa xn qc] 43))
          have DD := Lib.hid (DD.out.keep (TK.of L1))
          clear L1
          refine hK.out _ _ (hS.alloc hS.size _) (fun hS => ?_)
          clear hK
          obtain ⟨WB, hWB⟩ : ∃ WB, w5.alloc (.cells #[.int .u8 xt, .slice qa xn qc] 43) = WB := ⟨_, rfl⟩
          obtain ⟨GB, hGB⟩ : ∃ GB, w5.heap.size = GB := ⟨_, rfl⟩
          rw [hWB] at HX H0 OW BW DD GZ hS ⊢
          rw [hGB] at GZ ⊢
          clear hWB hGB
          refine wpAnyH_ready (rs := [1]) (by kernel_rfl) (by simp) ?_
          refine AllReadyH.cons rfl (fun KQ hK => ?_) AllReadyH.nil
          rw [if_pos (by rfl)]
          have cg := cell_of_row _ BX 0 _ _ _ HX.out
          go_simp
          refine hK.out _ _ hS (fun hS => ?_)
          clear hK cg
          refine wpAnyH_ready (rs := [11]) (by kernel_rfl) (by simp) ?_
          refine AllReadyH.cons rfl (fun KQ hK => ?_) AllReadyH.nil
          rw [if_pos (by rfl)]
          refine wp_append_own _ _ _ 27 rfl w.heap.size 43 i0 z0 2 32 Try.underlying27 hi0 hz0 hs0 hb0 hc0 (by decide) v k (blU (xs.take k) us) rfl (by have h := OW.out.row; rw [HTL.out] at h; exact h) ⟨GB, 0, none⟩ 1 1 [.int .u8 xt, .slice qa xn qc] rfl (by rfl) ?k6_1 ?k6_2 ?k6_3 ?k6_4 ?k6_5 ?_
          case k6_1 =>
            intro p u hu
            rw [addr_add, Nat.zero_add, cell_of_row _ GB p _ _ _ GZ.out, ← hu]
            simp
          case k6_2 => intro u hu; simp at hu; rcases hu with rfl | rfl <;> rfl
          case k6_3 => unfold maxLen; omega
          case k6_4 => omega
          case k6_5 => exact BW.out.size
          intro v4 w4 hown4 hgrow4 hnil4
          obtain ⟨g4, c4, rfl⟩ := rowSucc hown4
          have O4 := Lib.hid (OW.out.app (x := ⟨xt, xa, xn, xc, xl⟩) hgrow4 (by rw [HTL.out]; exact hown4) DD.out)
          have H04 := Lib.hid ((hgrow4.block w.heap.size (Array.getElem?_eq_some_iff.1 H0.out).1 (fun e => row_ne OW.out.row H0.out (by decide) e.symm)).trans H0.out)
          have HX4 := Lib.hid ((hgrow4.block BX (Array.getElem?_eq_some_iff.1 HX.out).1 (fun e => row_ne OW.out.row HX.out (by decide) e.symm)).trans HX.out)
          have B4 := Lib.hid (BW.out.grown hgrow4 BW.out.size (fun q hq => (OW.out.row.lt q hq).1))
          clear hown4 hgrow4 hnil4
          refine hK.out _ _ (B4.out) (fun hS => ?_)
          clear hK
          refine takeS (i := 12) (v := .pointer (some ⟨BX, 0, none⟩)) rfl rfl (by kernel_rfl) (by kernel_rfl) (by kernel_rfl) (fun _ _ _ h => h) (Or.inl ⟨by rfl, fun U hU => by go_simp⟩) hS ?_
          try simp only [List.setIfInBounds_toArray, List.set_cons_zero, List.set_cons_succ]
          refine wpAnyH_ready (rs := [13]) (by kernel_rfl) (by simp) ?_
          refine AllReadyH.cons rfl (fun KQ hK => ?_) AllReadyH.nil
          rw [if_pos (by rfl)]
          have cg := cell_of_row w4 BX 0 _ _ _ HX4.out
          have cf := frozen_of_row w4 BX 0 _ _ HX4.out
          go_simp
          refine hK.out _ _ (B4.out.setCell (p := ⟨BX, 0, none⟩) HBX.out _) (fun hS => ?_)
          clear hK cg cf
          refine wpAnyH_done (by kernel_rfl) ?_ _
          have B5 := Lib.hid hS
          have O5 := Lib.hid (O4.out.setBox HX4.out (.slice (some ⟨g4, 0, none⟩) (k + 1) c4))
          have H05 := Lib.hid ((heap_setCell_other w4 ⟨BX, 0, none⟩ w.heap.size (.slice (some ⟨g4, 0, none⟩) (k + 1) c4) (by have := HNX.out; simp; omega)).trans H04.out)
          have X5 := Lib.hid (heap_setCell_same w4 BX 0 _ _ (.slice (some ⟨g4, 0, none⟩) (k + 1) c4) HX4.out)
          clear hS O4 B4
          go_wp2_with fail
          go_roundw
          case rel => exact ⟨k + 1, _, _, by omega, by go_num, B5.out, H05.out, X5.out, by rw [← HTK.out]; exact O5.out⟩
          case measure => simp [intOf]; omega
    · obtain rfl : k = n := by omega
      have hzz : xs.take k = xs := List.take_of_length_le (by omega)
      rw [hzz] at O2
      have c0 := cell_of_row _ BX 0 _ _ _ X2.out
      have d0 := cell_of_row _ w.heap.size 0 _ _ _ X02.out
      have f0 := frozen_of_row _ w.heap.size 0 _ _ X02.out
      have HE := Lib.hid (heap_setCell_same wr w.heap.size 0 _ _ v X02.out)
      have OE := Lib.hid (O2.out.setBox X02.out v)
      have BE := Lib.hid (B2.out.setCell (p := ⟨w.heap.size, 0, none⟩) (Nat.le_refl _) v)
      obtain ⟨a5, c5, rfl, -⟩ := O2.out.rd
      rw [hnn] at HE OE BE
      clear O2 B2
      go_wp2_with fail
      refine bodyPost_ret (results_cell_row rfl _ _ w.heap.size 29 #[_] (0, 0) _ rfl HE.out Try.underlying29 rfl (by show _ = some 1; kernel_rfl)) rfl ?_
      exact ⟨_, us, rfl, OE.out, BE.out⟩
end Go.Proofs.Ytdoelmjaongjfaa
