/- Lists of entries: brought over, measured, compared. Written by wip/gen/ent.py. -/
import Derived.Test.YtmkddiconpacnaaStrs
import Derived.Test.YtmkddiconpacnaaTk
namespace Go.Proofs.Ytmkddiconpacnaa
open Go.ChangeShapes Go.WideShapes Go.ChangeAt Go.RowKit
set_option linter.unusedVariables false
set_option linter.unusedSimpArgs false
set_option maxHeartbeats 1000000 in
theorem toEnt (s t : ByteArray) (w : World) :
    Calls Try.prog 19 #[.agg #[.string s, .string t]] w fun e w' => e = .returned (.agg #[.string s, .string t]) ∧ Below w.heap.size w w' := by
  go_enter Try.func19, Try.ntmps19
  go_wp2
  exact bodyPost_ret (v := .agg #[.string s, .string t]) (by simp [results, Try.results19, go_sem]) rfl ⟨rfl, (((Below.refl _ _).alloc (Nat.le_refl _) _).alloc (by simp) _).alloc (by simp; omega) _⟩
/-- How many bytes the texts have. -/
def sumS (l : List ByteArray) : Nat := (l.map ByteArray.size).sum
theorem sumS_take {l : List ByteArray} {k : Nat} (h : k < l.length) : sumS (l.take (k + 1)) = sumS (l.take k) + (tx l k).size := by
  unfold sumS tx
  rw [List.take_succ_eq_append_getElem h, List.map_append, List.sum_append, List.getElem?_eq_getElem h]
  simp
theorem sumS_le (l : List ByteArray) (k : Nat) : sumS (l.take k) ≤ sumS l := by
  unfold sumS
  conv => rhs; rw [← List.take_append_drop k l, List.map_append, List.sum_append]
  omega
theorem sumS_two {l : List ByteArray} {n k : Nat} (hl : l.length = 2 * n) (h : k < n) : sumS (l.take (2 * (k + 1))) = sumS (l.take (2 * k)) + (tx l (2 * k)).size + (tx l (2 * k + 1)).size := by
  rw [show 2 * (k + 1) = 2 * k + 1 + 1 by omega, sumS_take (by omega), sumS_take (by omega)]
set_option maxHeartbeats 1000000 in
theorem szE_in (s t : ByteArray) (left : Int) (h0 : 0 ≤ left) (h1 : left ≤ 1099511627776) (hs : s.size ≤ maxLen) (ht : t.size ≤ maxLen) (h : ((s.size + t.size : Nat) : Int) ≤ left) (w : World) :
    Calls Try.prog 16 #[.agg #[.string s, .string t], .int .i64 left] w fun e w' => e = .returned (.int .i64 (left - s.size - t.size)) ∧ Below w.heap.size w w' := by
  unfold maxLen at hs ht
  have k1 : ¬ left - (s.size : Int) < 0 := by omega
  have k2 : ¬ left - (s.size : Int) - (t.size : Int) < 0 := by omega
  go_enter Try.func16, Try.ntmps16
  go_wp2
  go_ret
  exact ⟨rfl, (Below.refl _ _).alloc (Nat.le_refl _) _⟩
set_option maxHeartbeats 1000000 in
theorem szE_out (s t : ByteArray) (left : Int) (h0 : 0 ≤ left) (h1 : left ≤ 1099511627776) (hs : s.size ≤ maxLen) (ht : t.size ≤ maxLen) (h : left < ((s.size + t.size : Nat) : Int)) (w : World) :
    Calls Try.prog 16 #[.agg #[.string s, .string t], .int .i64 left] w fun e w' => e = .returned (.int .i64 (-1)) ∧ Below w.heap.size w w' := by
  unfold maxLen at hs ht
  by_cases k1 : left - (s.size : Int) < 0
  · go_enter Try.func16, Try.ntmps16
    go_wp2
    go_ret
    exact ⟨rfl, (Below.refl _ _).alloc (Nat.le_refl _) _⟩
  · have k2 : left - (s.size : Int) - (t.size : Int) < 0 := by omega
    go_enter Try.func16, Try.ntmps16
    go_wp2
    go_ret
    exact ⟨rfl, (Below.refl _ _).alloc (Nat.le_refl _) _⟩
set_option maxHeartbeats 2000000 in
theorem szES_in (a : Option Addr) (n cap : Nat) (es : List ByteArray) (left : Int) (h0 : 0 ≤ left) (h1 : left ≤ 1099511627776) (hm : ∀ s ∈ es, s.size ≤ maxLen) (h : ((n + sumS es : Nat) : Int) ≤ left) (w : World) (hr : RdE w a n es) :
    Calls Try.prog 15 #[.slice a n cap, .int .i64 left] w fun e w' => e = .returned (.int .i64 (left - n - sumS es)) ∧ Below w.heap.size w w' := by
  have n0 : 0 ≤ left - (n : Int) := by omega
  have k0 : ¬ left - (n : Int) < 0 := by omega
  have n1 : (0 : Int) ≤ (n : Int) := by omega
  have n2 : (n : Int) ≤ 1099511627776 := by omega
  have HR := Lib.hid hr
  have HM := Lib.hid hm
  have HH := Lib.hid h
  clear hr hm h
  go_enter Try.func15, Try.ntmps15
  go_wp2_with fail
  go_loopw [1, 5] (fun l i wr => ∃ k : Nat, k ≤ n ∧ i = .int .i64 k ∧ l = .int .i64 (left - n - sumS (es.take (2 * k))) ∧ Below w.heap.size w wr) (fun _ i _ => n - (intOf i).toNat)
  case atStart => exact ⟨0, by omega, rfl, by simp [sumS], Below.refl _ _⟩
  case round =>
    obtain ⟨k, hk, rfl, rfl, hb⟩ := hrel
    have HB := Lib.hid hb
    clear hb
    by_cases hlt : k < n
    · have b0 : (0 : Int) ≤ (k : Int) := by omega
      have b1 : (k : Int) < (n : Int) := by omega
      obtain ⟨hl, hx⟩ := HR.out
      rcases hx with hx | ⟨b, off, rfl, hbl, hc⟩
      · omega
      · obtain ⟨c0, c1⟩ := cells_at (w := wr) (b := b) (off := off) (n := n) (es := es) (fun j hj => by rw [HB.out.cell (p := ⟨b, off + j, none⟩) hbl]; exact hc j hj) hlt
        have e2 := sumS_two hl hlt
        have e3 := sumS_le es (2 * (k + 1))
        have hh := HH.out
        have m0 := HM.out (tx es (2 * k)) (tx_mem (by omega))
        have m1 := HM.out (tx es (2 * k + 1)) (tx_mem (by omega))
        have Hs := Lib.hid (fun U => szE_in (tx es (2 * k)) (tx es (2 * k + 1)) (left - n - sumS (es.take (2 * k))) (by omega) (by omega) m0 m1 (by omega) U)
        have E2 := Lib.hid e2
        have q0 : 0 ≤ left - (n : Int) - (sumS (es.take (2 * k)) : Int) - ((tx es (2 * k)).size : Int) - ((tx es (2 * k + 1)).size : Int) := by omega
        have q1 : ¬ left - (n : Int) - (sumS (es.take (2 * k)) : Int) - ((tx es (2 * k)).size : Int) - ((tx es (2 * k + 1)).size : Int) < 0 := by omega
        clear hc e2 e3 hh m0 m1
        generalize tx es (2 * k) = nm at c0 Hs E2 q0 q1
        generalize tx es (2 * k + 1) = vl at c1 Hs E2 q0 q1
        go_wp2_with fail
        refine (Hs.out _).mono ?_
        rintro e w1 ⟨rfl, hb1⟩
        have HB1 := Lib.hid (below_call HB.out HB.out.size hb1)
        clear hb1 c0 c1
        go_wp2_with fail
        go_roundw
        case rel => exact ⟨k + 1, by omega, by go_num, by rw [E2.out]; congr 1; omega, HB1.out⟩
        case measure => simp [intOf]; omega
    · obtain rfl : k = n := by omega
      have e : es.take (2 * k) = es := List.take_of_length_le (by rw [HR.out.1]; omega)
      rw [e]
      clear e
      go_wp2_with fail
      go_ret
      exact ⟨rfl, HB.out⟩
set_option maxHeartbeats 2000000 in
theorem szES_out (a : Option Addr) (n cap : Nat) (es : List ByteArray) (left : Int) (h0 : 0 ≤ left) (h1 : left ≤ 1099511627776) (hn : n ≤ maxLen) (hm : ∀ s ∈ es, s.size ≤ maxLen) (h : left < ((n + sumS es : Nat) : Int)) (w : World) (hr : RdE w a n es) :
    Calls Try.prog 15 #[.slice a n cap, .int .i64 left] w fun e w' => e = .returned (.int .i64 (-1)) ∧ Below w.heap.size w w' := by
  unfold maxLen at hn
  by_cases k0 : left - (n : Int) < 0
  · go_enter Try.func15, Try.ntmps15
    go_wp2
    go_ret
    exact ⟨rfl, Below.refl _ _⟩
  have n0 : 0 ≤ left - (n : Int) := by omega
  have n1 : (0 : Int) ≤ (n : Int) := by omega
  have n2 : (n : Int) ≤ 1099511627776 := by omega
  have HR := Lib.hid hr
  have HM := Lib.hid hm
  have HH := Lib.hid h
  clear hr hm h
  go_enter Try.func15, Try.ntmps15
  go_wp2_with fail
  go_loopw [1, 5] (fun l i wr => ∃ k : Nat, k ≤ n ∧ i = .int .i64 k ∧ l = .int .i64 (left - n - sumS (es.take (2 * k))) ∧ (sumS (es.take (2 * k)) : Int) ≤ left - n ∧ Below w.heap.size w wr) (fun _ i _ => n - (intOf i).toNat)
  case atStart => exact ⟨0, by omega, rfl, by simp [sumS], by simp [sumS]; omega, Below.refl _ _⟩
  case round =>
    obtain ⟨k, hk, rfl, rfl, hle, hb⟩ := hrel
    have HB := Lib.hid hb
    clear hb
    by_cases hlt : k < n
    · have b0 : (0 : Int) ≤ (k : Int) := by omega
      have b1 : (k : Int) < (n : Int) := by omega
      obtain ⟨hl, hx⟩ := HR.out
      rcases hx with hx | ⟨b, off, rfl, hbl, hc⟩
      · omega
      · obtain ⟨c0, c1⟩ := cells_at (w := wr) (b := b) (off := off) (n := n) (es := es) (fun j hj => by rw [HB.out.cell (p := ⟨b, off + j, none⟩) hbl]; exact hc j hj) hlt
        have e2 := sumS_two hl hlt
        have m0 := HM.out (tx es (2 * k)) (tx_mem (by omega))
        have m1 := HM.out (tx es (2 * k + 1)) (tx_mem (by omega))
        have E2 := Lib.hid e2
        have HLE := Lib.hid hle
        by_cases hq : left - (n : Int) - (sumS (es.take (2 * k)) : Int) - ((tx es (2 * k)).size : Int) - ((tx es (2 * k + 1)).size : Int) < 0
        · have Hs := Lib.hid (fun U => szE_out (tx es (2 * k)) (tx es (2 * k + 1)) (left - n - sumS (es.take (2 * k))) (by omega) (by omega) m0 m1 (by omega) U)
          clear hc e2 m0 m1 hq hle
          generalize tx es (2 * k) = nm at c0 Hs E2
          generalize tx es (2 * k + 1) = vl at c1 Hs E2
          go_wp2_with fail
          refine (Hs.out _).mono ?_
          rintro e w1 ⟨rfl, hb1⟩
          have HB1 := Lib.hid (below_call HB.out HB.out.size hb1)
          clear hb1 c0 c1
          go_wp2_with fail
          go_ret
          exact ⟨rfl, HB1.out⟩
        · have Hs := Lib.hid (fun U => szE_in (tx es (2 * k)) (tx es (2 * k + 1)) (left - n - sumS (es.take (2 * k))) (by omega) (by omega) m0 m1 (by omega) U)
          have q0 : 0 ≤ left - (n : Int) - (sumS (es.take (2 * k)) : Int) - ((tx es (2 * k)).size : Int) - ((tx es (2 * k + 1)).size : Int) := by omega
          have HQ := Lib.hid q0
          clear hc e2 m0 m1 hle
          generalize tx es (2 * k) = nm at c0 Hs E2 q0 hq HQ
          generalize tx es (2 * k + 1) = vl at c1 Hs E2 q0 hq HQ
          go_wp2_with fail
          refine (Hs.out _).mono ?_
          rintro e w1 ⟨rfl, hb1⟩
          have HB1 := Lib.hid (below_call HB.out HB.out.size hb1)
          clear hb1 c0 c1
          go_wp2_with fail
          go_roundw
          case rel => exact ⟨k + 1, by omega, by go_num, by rw [E2.out]; congr 1; omega, by rw [E2.out]; have := HQ.out; omega, HB1.out⟩
          case measure => simp [intOf]; omega
    · exfalso
      obtain rfl : k = n := by omega
      have e : es.take (2 * k) = es := List.take_of_length_le (by rw [HR.out.1]; omega)
      rw [e] at hle
      have := HH.out
      omega
theorem entInfo : (Try.prog.info? 31).map (fun i => (i.zero.map (·.cells), i.size, i.bytes)) = some (some (strs [ByteArray.empty, ByteArray.empty]), 2, 32) := by kernel_rfl
def noS (n : Nat) : List ByteArray := List.replicate (2 * n) ByteArray.empty
theorem noS_len (n : Nat) : (noS n).length = 2 * n := by simp [noS]
theorem made_ents (n : Nat) : madeCells (strs [ByteArray.empty, ByteArray.empty]) (n * 2) = strs (noS n) := by
  apply Array.ext
  · simp [size_madeCells, strs_size, noS_len]; omega
  · intro i h1 h2
    have hs : (strs [ByteArray.empty, ByteArray.empty]).size = 2 := by rw [strs_size]; rfl
    have hm : i % 2 < 2 := Nat.mod_lt _ (by omega)
    simp only [madeCells, Array.getElem_map, Array.getElem_range, hs]
    rw [getElem!_pos _ _ (by rw [hs]; exact hm)]
    simp only [strs, List.getElem_toArray, List.getElem_map, noS, List.getElem_replicate]
    match i % 2, hm with
    | 0, _ => rfl
    | 1, _ => rfl
theorem run_make_ents (n : Nat) (hn : n ≤ 1048576) (w : World) :
    (Instr.makeSlice 27 (.int .i64 (n : Int)) (.int .i64 (n : Int))).run Try.prog w = .ok (.slice (some ⟨w.heap.size, 0, none⟩) n n) (w.alloc (.cells (strs (noS n)) 31)) := by
  obtain ⟨i, hi, hzz⟩ := Option.map_eq_some_iff.1 entInfo
  simp only [Prod.mk.injEq] at hzz
  obtain ⟨hz, hs, hb⟩ := hzz
  obtain ⟨z, hz0, hzc⟩ := Option.map_eq_some_iff.1 hz
  have := run_make w 27 31 i z Try.underlying27 hi hz0 .i64 .i64 (n : Int) (n : Int) (by omega) (by omega) (by rw [hb]; omega) (by omega)
  rw [this, hzc, hs]
  simp only [Int.toNat_natCast]
  rw [made_ents]
theorem heap_setCell_strs {w : World} {g k : Nat} {l : List ByteArray} {t : TypeId} {s : ByteArray} (h : w.heap[g]? = some (.cells (strs l) t)) : (w.setCell ⟨g, k, none⟩ (.string s)).heap[g]? = some (.cells (strs (l.set k s)) t) := by
  rw [heap_setCell_same _ _ _ _ _ _ h, strs_set]
set_option maxHeartbeats 2000000 in
theorem toES (a : Option Addr) (n cap : Nat) (es : List ByteArray) (hn : n ≤ 1048576) (w : World) (hr : RdE w a n es) :
    Calls Try.prog 18 #[.slice a n cap] w fun e w' => e = .returned (.slice (some ⟨w.heap.size, 0, none⟩) n n) ∧ w'.heap[w.heap.size]? = some (.cells (strs es) 31) ∧ Below w.heap.size w w' := by
  have hmk := fun W => run_make_ents n hn W
  have HR := Lib.hid hr
  have Ho := Lib.hid (show (noS n).length = es.length by rw [hr.1, noS_len])
  clear hr
  generalize noS n = old at hmk Ho
  go_enter Try.func18, Try.ntmps18
  go_wp2_with fail
  go_loopw [4] (fun i wr => ∃ k : Nat, k ≤ n ∧ i = .int .i64 k ∧ Below w.heap.size w wr ∧ wr.heap[w.heap.size]? = some (.cells (strs (upS old es (2 * k))) 31)) (fun i _ => n - (intOf i).toNat)
  case atStart => exact ⟨0, by omega, rfl, (Below.refl _ _).alloc (by simp) _, by rw [Nat.mul_zero, upS_zero]; exact heap_alloc_last _ _⟩
  case round =>
    obtain ⟨k, hk, rfl, hb, hg⟩ := hrel
    have HB := Lib.hid hb
    have HG := Lib.hid hg
    clear hb hg hmk
    by_cases hlt : k < n
    · have b0 : (0 : Int) ≤ (k : Int) := by omega
      have b1 : (k : Int) < (n : Int) := by omega
      obtain ⟨hl, hx⟩ := HR.out
      rcases hx with hx | ⟨b, off, rfl, hbl, hc⟩
      · omega
      · obtain ⟨c0, c1⟩ := cells_at (w := wr) (b := b) (off := off) (n := n) (es := es) (fun j hj => by rw [HB.out.cell (p := ⟨b, off + j, none⟩) hbl]; exact hc j hj) hlt
        have s0 := upS_step (old := old) (new := es) (k := 2 * k) Ho.out (by omega)
        have s1 := upS_step (old := old) (new := es) (k := 2 * k + 1) Ho.out (by omega)
        have S0 := Lib.hid s0
        have S1 := Lib.hid s1
        have HL := Lib.hid (show 2 * k + 1 < (upS old es (2 * k)).length by rw [upS_len Ho.out]; omega)
        clear hc s0 s1 hl hbl
        have Ht := Lib.hid (fun U => toEnt (tx es (2 * k)) (tx es (2 * k + 1)) U)
        generalize tx es (2 * k) = nm at c0 Ht S0 S1
        generalize tx es (2 * k + 1) = vl at c1 Ht S1
        go_wp2_with fail
        refine (Ht.out _).mono ?_
        rintro e w1 ⟨rfl, hb1⟩
        have HB1 := Lib.hid (below_call HB.out HB.out.size hb1)
        have HG1 := Lib.hid (keep_block HG.out hb1)
        have d0 := cell_of_row w1 w.heap.size (k * 2) _ _ _ HG1.out
        have d1 := cell_of_row w1 w.heap.size (k * 2 + 1) _ _ _ HG1.out
        rw [strs_get _ _ (by have := HL.out; omega)] at d0 d1
        have f0 := frozen_of_row w1 w.heap.size (k * 2) _ _ HG1.out
        have f1 := frozen_of_row w1 w.heap.size (k * 2 + 1) _ _ HG1.out
        clear hb1 c0 c1
        go_wp2_with fail
        go_roundw
        case rel =>
          refine ⟨k + 1, by omega, by go_num, ?_, ?_⟩
          · exact (HB1.out.setCell (Nat.le_refl _) _).setCell (Nat.le_refl _) _
          · rw [heap_setCell_strs (heap_setCell_strs HG1.out), show k * 2 = 2 * k by omega, S0.out, S1.out, show 2 * k + 1 + 1 = 2 * (k + 1) by omega]
        case measure => simp [intOf]; omega
    · obtain rfl : k = n := by omega
      have e : upS old es (2 * k) = es := upS_all (by rw [Ho.out, HR.out.1]) HR.out.1
      rw [e] at HG
      clear e
      go_wp2_with fail
      go_ret
      exact ⟨rfl, HG.out, HB.out⟩
set_option maxHeartbeats 1000000 in
theorem eqEnt (s t : ByteArray) (w : World) :
    Calls Try.prog 75 #[.agg #[.string s, .string t], .agg #[.string s, .string t]] w fun e w' => e = .returned (.bool true) ∧ Below w.heap.size w w' := by
  go_enter Try.func75, Try.ntmps75
  go_wp2
  go_ret
  exact ⟨rfl, ((Below.refl _ _).alloc (Nat.le_refl _) _).alloc (by simp) _⟩
set_option maxHeartbeats 2000000 in
theorem eqES (a b : Option Addr) (n ca cb : Nat) (es : List ByteArray) (hn : n ≤ 1048576) (w : World) (hr : RdE w a n es) (hs : RdE w b n es) :
    Calls Try.prog 21 #[.slice a n ca, .slice b n cb] w fun e w' => e = .returned (.bool true) ∧ Below w.heap.size w w' := by
  have HR := Lib.hid hr
  have HS := Lib.hid hs
  clear hr hs
  go_enter Try.func21, Try.ntmps21
  go_wp2_with fail
  go_loopw [5] (fun i wr => ∃ k : Nat, k ≤ n ∧ i = .int .i64 k ∧ Below w.heap.size w wr) (fun i _ => n - (intOf i).toNat)
  case atStart => exact ⟨0, by omega, rfl, Below.refl _ _⟩
  case round =>
    obtain ⟨k, hk, rfl, hb⟩ := hrel
    have HB := Lib.hid hb
    clear hb
    by_cases hlt : k < n
    · have b0 : (0 : Int) ≤ (k : Int) := by omega
      have b1 : (k : Int) < (n : Int) := by omega
      have HR1 := Lib.hid (HR.out.below HB.out)
      have HS1 := Lib.hid (HS.out.below HB.out)
      obtain ⟨b', off, rfl⟩ := HR.out.form (by omega)
      obtain ⟨b2, off2, rfl⟩ := HS.out.form (by omega)
      have C1 := Lib.hid (fun U (hU : Below wr.heap.size wr U) => (HR1.out.below hU).at hlt)
      have C2 := Lib.hid (fun U (hU : Below wr.heap.size wr U) => (HS1.out.below hU).at hlt)
      have HQ := Lib.hid (fun U => eqEnt (tx es (2 * k)) (tx es (2 * k + 1)) U)
      clear HR1 HS1
      generalize tx es (2 * k) = nm at C1 C2 HQ
      generalize tx es (2 * k + 1) = vl at C1 C2 HQ
      go_wp2_with fail
      refine wp_region_held_drew (S := Below (wr).heap.size (wr)) (by kernel_rfl) ((Below.refl _ _).drew) (fun hS => ?_)
      refine takeS (i := 0) (v := .slice (some ⟨b', off, none⟩) n ca) rfl rfl (by kernel_rfl) (by kernel_rfl) (by kernel_rfl) (fun _ _ _ h => h) (Or.inl ⟨by rfl, fun U hU => by go_simp⟩) hS ?_
      try simp only [List.setIfInBounds_toArray, List.set_cons_zero, List.set_cons_succ]
      refine takeS (i := 1) (v := .int .i64 (k : Int)) rfl rfl (by kernel_rfl) (by kernel_rfl) (by kernel_rfl) (fun _ _ _ h => h) (Or.inl ⟨by rfl, fun U hU => by go_simp⟩) hS ?_
      try simp only [List.setIfInBounds_toArray, List.set_cons_zero, List.set_cons_succ]
      refine takeS (i := 2) (v := .pointer (some ⟨b', off + k * 2, none⟩)) rfl rfl (by kernel_rfl) (by kernel_rfl) (by kernel_rfl) (fun _ _ _ h => h) (Or.inl ⟨by rfl, fun U hU => by go_simp⟩) hS ?_
      try simp only [List.setIfInBounds_toArray, List.set_cons_zero, List.set_cons_succ]
      refine takeS (i := 3) (v := .agg #[.string nm, .string vl]) rfl rfl (by kernel_rfl) (by kernel_rfl) (by kernel_rfl) (fun _ _ _ h => h) (Or.inl ⟨by rfl, fun U hU => by obtain ⟨c0, c1⟩ := C1.out U hU; go_simp⟩) hS ?_
      try simp only [List.setIfInBounds_toArray, List.set_cons_zero, List.set_cons_succ]
      refine takeS (i := 4) (v := .slice (some ⟨b2, off2, none⟩) n cb) rfl rfl (by kernel_rfl) (by kernel_rfl) (by kernel_rfl) (fun _ _ _ h => h) (Or.inl ⟨by rfl, fun U hU => by go_simp⟩) hS ?_
      try simp only [List.setIfInBounds_toArray, List.set_cons_zero, List.set_cons_succ]
      refine takeS (i := 5) (v := .int .i64 (k : Int)) rfl rfl (by kernel_rfl) (by kernel_rfl) (by kernel_rfl) (fun _ _ _ h => h) (Or.inl ⟨by rfl, fun U hU => by go_simp⟩) hS ?_
      try simp only [List.setIfInBounds_toArray, List.set_cons_zero, List.set_cons_succ]
      refine takeS (i := 6) (v := .pointer (some ⟨b2, off2 + k * 2, none⟩)) rfl rfl (by kernel_rfl) (by kernel_rfl) (by kernel_rfl) (fun _ _ _ h => h) (Or.inl ⟨by rfl, fun U hU => by go_simp⟩) hS ?_
      try simp only [List.setIfInBounds_toArray, List.set_cons_zero, List.set_cons_succ]
      refine takeS (i := 7) (v := .agg #[.string nm, .string vl]) rfl rfl (by kernel_rfl) (by kernel_rfl) (by kernel_rfl) (fun _ _ _ h => h) (Or.inl ⟨by rfl, fun U hU => by obtain ⟨c0, c1⟩ := C2.out U hU; go_simp⟩) hS ?_
      try simp only [List.setIfInBounds_toArray, List.set_cons_zero, List.set_cons_succ]
      refine wpAnyH_ready (rs := [8]) (by kernel_rfl) (by simp) ?_
      refine AllReadyH.cons rfl (fun KQ hK => ?_) AllReadyH.nil
      rw [if_pos (by rfl)]
      go_simp
      refine (HQ.out _).mono ?_
      rintro e w1 ⟨rfl, hb⟩
      refine hK.out _ _ (below_call hS hS.size hb) (fun hS => ?_)
      clear hb hK
      refine takeS (i := 9) (v := .bool false) rfl rfl (by kernel_rfl) (by kernel_rfl) (by kernel_rfl) (fun _ _ _ h => h) (Or.inl ⟨by rfl, fun U hU => by go_simp⟩) hS ?_
      try simp only [List.setIfInBounds_toArray, List.set_cons_zero, List.set_cons_succ]
      refine wpAnyH_done (by kernel_rfl) ?_ _
      have HS := Lib.hid (HB.out.trans (hS.mono HB.out.size))
      clear hS
      go_wp2_with fail
      go_roundw
      case rel => exact ⟨k + 1, by omega, by go_num, HS.out⟩
      case measure => simp [intOf]; omega
    · obtain rfl : k = n := by omega
      go_wp2_with fail
      go_ret
      exact ⟨rfl, HB.out⟩
end Go.Proofs.Ytmkddiconpacnaa
