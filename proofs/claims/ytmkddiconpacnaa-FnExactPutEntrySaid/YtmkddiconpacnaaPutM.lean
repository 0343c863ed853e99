/- PutEntry: what comes out. Written by wip/gen/src.py. -/
import Derived.Test.YtmkddiconpacnaaPuS
import Derived.Test.YtmkddiconpacnaaIns
import Derived.Test.YtmkddiconpacnaaNodV
namespace Go.Proofs.Ytmkddiconpacnaa
open Go.ChangeShapes Go.WideShapes Go.ChangeAt Go.RowKit
set_option linter.unusedVariables false
set_option linter.unusedSimpArgs false
/-- The list with another value at a place, and with an entry put in at a place. -/
def rpE (es : List ByteArray) (p : Nat) (nm vl : ByteArray) (j : Nat) : ByteArray := if j = 2 * p then nm else if j = 2 * p + 1 then vl else tx es j
def inE (es : List ByteArray) (p : Nat) (nm vl : ByteArray) (j : Nat) : ByteArray := if j < 2 * p then tx es j else if j = 2 * p then nm else if j = 2 * p + 1 then vl else tx es (j - 2)
theorem pu_before (p : Nat) (nm vl : ByteArray) (es : List ByteArray) (h : ∀ k, k < p → tx es (2 * k) ≠ nm) : ∀ k, k ≤ p → puF p nm vl es k = (List.range (2 * k)).map (tx es)
  | 0, _ => rfl
  | k + 1, hk => by
    rw [puF_next, if_neg (by omega), if_neg (h k (by omega)), pu_before p nm vl es h k (by omega), range2, List.map_append]
    rfl
theorem pu_found (p n : Nat) (nm vl : ByteArray) (es : List ByteArray) (he : tx es (2 * p) = nm) (h : ∀ k, k < n → k ≠ p → tx es (2 * k) ≠ nm) : ∀ d, p + 1 + d ≤ n → puF p nm vl es (p + 1 + d) = (List.range (2 * (p + 1 + d))).map (rpE es p nm vl)
  | 0, hd => by
    rw [Nat.add_zero, puF_next, if_pos rfl, if_pos he, List.append_nil, pu_before p nm vl es (fun k hk => h k (by omega) (by omega)) p (Nat.le_refl _), range2, List.map_append]
    congr 1
    · refine List.map_congr_left fun j hj => ?_
      have := List.mem_range.1 hj
      unfold rpE
      rw [if_neg (by omega), if_neg (by omega)]
    · simp [rpE]
  | d + 1, hd => by
    rw [← Nat.add_assoc, puF_next, if_neg (by omega), if_neg (h _ (by omega) (by omega)), pu_found p n nm vl es he h d (by omega), range2, List.map_append]
    congr 1
    simp only [List.map_cons, List.map_nil, rpE]
    rw [if_neg (by omega), if_neg (by omega), if_neg (by omega), if_neg (by omega)]
theorem pu_new (p n : Nat) (nm vl : ByteArray) (es : List ByteArray) (h : ∀ k, k < n → tx es (2 * k) ≠ nm) : ∀ d, p + 1 + d ≤ n → puF p nm vl es (p + 1 + d) = (List.range (2 * (p + 1 + d + 1))).map (inE es p nm vl)
  | 0, hd => by
    rw [Nat.add_zero, puF_next, if_pos rfl, if_neg (h p (by omega)), pu_before p nm vl es (fun k hk => h k (by omega)) p (Nat.le_refl _), range2, range2, List.map_append, List.map_append]
    congr 1
    · congr 1
      · refine List.map_congr_left fun j hj => ?_
        have := List.mem_range.1 hj
        unfold inE
        rw [if_pos (by omega)]
      · simp only [List.map_cons, List.map_nil, inE]
        rw [if_neg (by omega), if_pos trivial, if_neg (by omega), if_neg (by omega), if_pos trivial]
    · simp only [List.map_cons, List.map_nil, inE]
      rw [if_neg (by omega), if_neg (by omega), if_neg (by omega), if_neg (by omega), if_neg (by omega), if_neg (by omega), show 2 * (p + 1) - 2 = 2 * p by omega, show 2 * (p + 1) + 1 - 2 = 2 * p + 1 by omega]
  | d + 1, hd => by
    rw [← Nat.add_assoc, puF_next, if_neg (by omega), if_neg (h _ (by omega)), pu_new p n nm vl es h d (by omega), range2 (p + 1 + d + 1), List.map_append]
    congr 1
    simp only [List.map_cons, List.map_nil, inE]
    rw [if_neg (by omega), if_neg (by omega), if_neg (by omega), if_neg (by omega), if_neg (by omega), if_neg (by omega), show 2 * (p + 1 + d + 1) - 2 = 2 * (p + 1 + d) by omega, show 2 * (p + 1 + d + 1) + 1 - 2 = 2 * (p + 1 + d) + 1 by omega]
theorem puA_len (es : List ByteArray) (n : Nat) (nm vl : ByteArray) : (puA es n nm vl).length = 2 * puB es n nm := by
  unfold puA puB
  split
  · rw [List.length_append, puF_len]; simp; omega
  · exact puF_len _ _ _ _ _
theorem puA_found {es : List ByteArray} {n : Nat} {nm : ByteArray} (vl : ByteArray) (hu : upE es n) (hf : fdE es n nm = true) : puA es n nm vl = (List.range (2 * n)).map (rpE es (plc es n nm) nm vl) ∧ puB es n nm = n := by
  have hq : plc es n nm < n ∧ tx es (2 * plc es n nm) = nm := by unfold fdE at hf; exact of_decide_eq_true hf
  have h1 : puA es n nm vl = (List.range (2 * n)).map (rpE es (plc es n nm) nm vl) := by
    have := pu_found (plc es n nm) n nm vl es hq.2 (fun k hk hne e => hne (fd_only hu hk e)) (n - (plc es n nm + 1)) (by omega)
    rw [show plc es n nm + 1 + (n - (plc es n nm + 1)) = n by omega] at this
    unfold puA
    rw [if_neg (by omega), this]
  refine ⟨h1, ?_⟩
  have h2 := puA_len es n nm vl
  rw [h1] at h2
  simp at h2
  omega
theorem puA_new {es : List ByteArray} {n : Nat} {nm : ByteArray} (vl : ByteArray) (hu : upE es n) (hf : fdE es n nm = false) : puA es n nm vl = (List.range (2 * (n + 1))).map (inE es (plc es n nm) nm vl) ∧ puB es n nm = n + 1 := by
  have hl := plc_le es n nm
  have h1 : puA es n nm vl = (List.range (2 * (n + 1))).map (inE es (plc es n nm) nm vl) := by
    unfold puA
    by_cases e : plc es n nm = n
    · rw [if_pos e, e, pu_before n nm vl es (fun k hk => fd_no hu hf hk) n (Nat.le_refl _), range2, List.map_append]
      congr 1
      · refine List.map_congr_left fun j hj => ?_
        have := List.mem_range.1 hj
        unfold inE
        rw [if_pos (by omega)]
      · simp only [List.map_cons, List.map_nil, inE]
        rw [if_neg (by omega), if_pos trivial, if_neg (by omega), if_neg (by omega), if_pos trivial]
    · rw [if_neg e]
      have := pu_new (plc es n nm) n nm vl es (fun k hk => fd_no hu hf hk) (n - (plc es n nm + 1)) (by omega)
      rw [show plc es n nm + 1 + (n - (plc es n nm + 1)) = n by omega] at this
      exact this
  refine ⟨h1, ?_⟩
  have h2 := puA_len es n nm vl
  rw [h1] at h2
  simp at h2
  omega
def ptE (es : List ByteArray) (n : Nat) (nm vl : ByteArray) : Int := if okE es n ∧ entB nm vl = true then (if 64 < puB es n nm then 3 else 0) else 1
def ptV (es : List ByteArray) (n : Nat) (nm vl : ByteArray) : List ByteArray := if okE es n ∧ entB nm vl = true then (if 64 < puB es n nm then [] else puA es n nm vl) else []
def ptN (es : List ByteArray) (n : Nat) (nm vl : ByteArray) : Nat := if okE es n ∧ entB nm vl = true then (if 64 < puB es n nm then 0 else puB es n nm) else 0
theorem ptV_len (es : List ByteArray) (n : Nat) (nm vl : ByteArray) : (ptV es n nm vl).length = 2 * ptN es n nm vl := by
  unfold ptV ptN
  split
  · split
    · rfl
    · exact puA_len _ _ _ _
  · rfl
theorem ptN_le (es : List ByteArray) (n : Nat) (nm vl : ByteArray) : ptN es n nm vl ≤ 64 := by
  unfold ptN
  split
  · split
    · omega
    · omega
  · omega
set_option maxRecDepth 100000 in
set_option maxHeartbeats 4000000 in
theorem pt_spec (a : Option Addr) (n cap : Nat) (es : List ByteArray) (nm vl : ByteArray) (hn : n ≤ 65536) (hm : ∀ s ∈ es, s.size ≤ maxLen) (hz : nm.size ≤ maxLen) (hy : vl.size ≤ maxLen) (w : World) (hr : RdE w a n es) :
    Calls Try.prog 17 #[.slice a n cap, .agg #[.string nm, .string vl]] w fun e w' => ∃ v, e = .returned (.tuple #[v, .int .i64 (ptE es n nm vl)]) ∧ w'.ownsRow w.heap.size 31 2 v (ptN es n nm vl) ((ptV es n nm vl).map Value.string) ∧ Below w.heap.size w w' := by
  have A0 := heap_alloc_last w (.cells #[.string nm, .string vl] 31)
  have B0' := (Below.refl w.heap.size w).alloc (Nat.le_refl _) (.cells #[.string nm, .string vl] 31)
  obtain ⟨W0, hW0⟩ : ∃ W0, w.alloc (.cells #[.string nm, .string vl] 31) = W0 := ⟨_, rfl⟩
  rw [hW0] at A0 B0'
  have B0 := Lib.hid B0'
  have X0 := Lib.hid A0
  have HR := Lib.hid hr
  have HOK := Lib.hid (fun (U : World) (hU : Below w.heap.size w U) => ok_spec a n cap es (by omega) hm U (hr.below hU))
  have HEN := Lib.hid (fun (U : World) (h : U.heap[w.heap.size]? = some (.cells #[.string nm, .string vl] 31)) => entry_spec w.heap.size 0 nm vl hz hy U (cell_of_row U w.heap.size 0 _ _ _ h) (cell_of_row U w.heap.size 1 _ _ _ h))
  unfold ptE ptN ptV
  clear hr hm hz hy A0 B0'
  by_cases hok : okE es n
  · rw [decide_eq_true hok] at HOK
    cases hv : entB nm vl with
    | true =>
      rw [hv] at HEN
      have hc : okE es n ∧ true = true := ⟨hok, rfl⟩
      rw [if_pos hc, if_pos hc, if_pos hc]
      clear hc
      have HPU := Lib.hid (fun U (hU : Below w.heap.size w U) => put_spec a n cap es nm vl hn hok.up U (HR.out.below hU))
      have hble : puB es n nm ≤ n + 1 := by
        cases hf : fdE es n nm with
        | true => rw [(puA_found vl hok.up hf).2]; omega
        | false => rw [(puA_new vl hok.up hf).2]; omega
      clear hok hv
      generalize puB es n nm = b at HPU hble ⊢
      generalize puA es n nm vl = l at HPU ⊢
      by_cases hb64 : 64 < b
      · rw [if_pos hb64, if_pos hb64, if_pos hb64]
        have p2 : (64 : Int) < (b : Int) := by omega
        go_enter Try.func17, Try.ntmps17
        go_wp2_with fail
        clear hW0
        refine (HOK.out _ B0.out).mono ?_
        rintro e w1 ⟨rfl, hb⟩
        have B1 := Lib.hid (below_call B0.out B0.out.size hb)
        have X1 := Lib.hid (keep_block X0.out hb)
        clear hb
        go_wp2_with fail
        refine (HEN.out _ X1.out).mono ?_
        rintro e w2 ⟨rfl, rfl⟩
        have q0 := cell_of_row _ w.heap.size 0 _ _ _ X1.out
        have q1 := cell_of_row _ w.heap.size 1 _ _ _ X1.out
        go_wp2_with fail
        clear q0 q1
        refine (HPU.out _ B1.out).mono ?_
        rintro e w3 ⟨v, rfl, ho, hb⟩
        have B3 := Lib.hid (below_call B1.out B1.out.size hb)
        obtain ⟨a3, c3, rfl, _⟩ : ∃ a3 c3, v = .slice a3 b c3 ∧ True := by
          rcases ho.2 with ⟨_, e0⟩ | ⟨g, c, cur, e0, _⟩
          · have := ho.1; rw [e0] at this; simp at this; omega
          · exact ⟨_, _, e0, trivial⟩
        clear ho hb
        go_wp2_with fail
        go_ret2
        exact ⟨_, rfl, ownsE_base B3.out.size (ownsE_empty w3 31 2), B3.out.alloc B3.out.size _⟩
      · rw [if_neg hb64, if_neg hb64, if_neg hb64]
        have p2 : ¬ (64 : Int) < (b : Int) := by omega
        go_enter Try.func17, Try.ntmps17
        go_wp2_with fail
        clear hW0
        refine (HOK.out _ B0.out).mono ?_
        rintro e w1 ⟨rfl, hb⟩
        have B1 := Lib.hid (below_call B0.out B0.out.size hb)
        have X1 := Lib.hid (keep_block X0.out hb)
        clear hb
        go_wp2_with fail
        refine (HEN.out _ X1.out).mono ?_
        rintro e w2 ⟨rfl, rfl⟩
        have q0 := cell_of_row _ w.heap.size 0 _ _ _ X1.out
        have q1 := cell_of_row _ w.heap.size 1 _ _ _ X1.out
        go_wp2_with fail
        clear q0 q1
        refine (HPU.out _ B1.out).mono ?_
        rintro e w3 ⟨v, rfl, ho, hb⟩
        have B3 := Lib.hid (below_call B1.out B1.out.size hb)
        have O3 := Lib.hid (ownsE_base B1.out.size ho)
        obtain ⟨a3, c3, rfl, _⟩ : ∃ a3 c3, v = .slice a3 b c3 ∧ True := by
          rcases ho.2 with ⟨e0, e1⟩ | ⟨g, c, cur, e0, _⟩
          · exact ⟨none, 0, by rw [e0, e1], trivial⟩
          · exact ⟨_, _, e0, trivial⟩
        clear ho hb
        go_wp2_with fail
        go_ret2
        exact ⟨_, rfl, O3.out, B3.out⟩
    | false =>
      rw [hv] at HEN
      rw [if_neg (fun h => by simp at h), if_neg (fun h => by simp at h), if_neg (fun h => by simp at h)]
      clear hok hv
      go_enter Try.func17, Try.ntmps17
      go_wp2_with fail
      clear hW0
      refine (HOK.out _ B0.out).mono ?_
      rintro e w1 ⟨rfl, hb⟩
      have B1 := Lib.hid (below_call B0.out B0.out.size hb)
      have X1 := Lib.hid (keep_block X0.out hb)
      clear hb
      go_wp2_with fail
      refine (HEN.out _ X1.out).mono ?_
      rintro e w2 ⟨rfl, rfl⟩
      go_wp2_with fail
      go_ret2
      exact ⟨_, rfl, ownsE_base B1.out.size (ownsE_empty w1 31 2), B1.out.alloc B1.out.size _⟩
  · rw [decide_eq_false hok] at HOK
    rw [if_neg (fun h => hok h.1), if_neg (fun h => hok h.1), if_neg (fun h => hok h.1)]
    clear hok
    go_enter Try.func17, Try.ntmps17
    go_wp2_with fail
    clear hW0
    refine (HOK.out _ B0.out).mono ?_
    rintro e w1 ⟨rfl, hb⟩
    have B1 := Lib.hid (below_call B0.out B0.out.size hb)
    clear hb
    go_wp2_with fail
    go_ret2
    exact ⟨_, rfl, ownsE_base B1.out.size (ownsE_empty w1 31 2), B1.out.alloc B1.out.size _⟩
end Go.Proofs.Ytmkddiconpacnaa
