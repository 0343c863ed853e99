/- ValidCommit, by program and specification. Written by wip/gen/cmo.py. -/
import Derived.Test.YtnnplebebhjfaaaCmt
import Derived.Test.YtnnplebebhjfaaaCmp
import Derived.Test.YtnnplebebhjfaaaTk
namespace Go.Proofs.Ytnnplebebhjfaaa
open Go.ChangeShapes Go.WideShapes Go.ChangeAt Go.RowKit
set_option linter.unusedVariables false
set_option linter.unusedSimpArgs false
section
variable {P : Program}
theorem yields_rangeC {ops : Array Oper} {S : World → Prop} {op : Oper} {a : Act} (hw : Region.wanted op (yielded ops a.tmps) = true) (ty : TypeId) (x : Operand) (ho : op.op = .load ty x)
    (b o : Nat) (hx : a.eval x = .pointer (some ⟨b, o, none⟩)) (κ : IntKind) (l : List Int) (d : TypeDesc) (hg : ∀ w, S w → w.rangeAt b o (l.map (Value.int κ)))
    (hu : P.underlying ty = some d) (hd : d.isRow = true) (hi : (P.info? ty).map (·.size) = some l.length) :
    YieldsIf P ops S op (.agg (ints κ l)) a :=
  .inl ⟨hw, fun w hS => by
    unfold execOp
    simp only [ho, hx, Instr.loadAt, Instr.sureAddr, Sem.run_bind, Sem.run_pure, Result.andThen_ok, run_loadVar_mid w b o ty (l.map (Value.int κ)) d (hg w hS) hu hd (by rw [List.length_map]; exact hi)]
    rfl⟩
theorem yields_rowC {ops : Array Oper} {S : World → Prop} {op : Oper} {a : Act} (hw : Region.wanted op (yielded ops a.tmps) = true) (ty : TypeId) (x : Operand) (ho : op.op = .load ty x)
    (b : Nat) (hx : a.eval x = .pointer (some ⟨b, 0, none⟩)) (cs : Array Value) (t : TypeId) (d : TypeDesc) (hg : ∀ w, S w → w.heap[b]? = some (.cells cs t (0, 0)))
    (hu : P.underlying ty = some d) (hd : (match d with | .struct _ | .array _ _ => true | _ => false) = true) (hi : (P.info? ty).map (·.size) = some cs.size) :
    YieldsIf P ops S op (.agg cs) a :=
  .inl ⟨hw, fun w hS => by
    unfold execOp
    simp only [ho, hx, Instr.loadAt, Instr.sureAddr, Sem.run_bind, Sem.run_pure, Result.andThen_ok, run_loadVar_row w b t ty cs (0, 0) d (hg w hS) hu hd hi]⟩
end
theorem rdk_blk {w : World} {g n : Nat} {fl : List Int} {T : TypeId} (hl : fl.length = 32 * n) (h : w.heap[g]? = some (.cells (ints .u8 fl) T)) : RdK w (some ⟨g, 0, none⟩) n fl :=
  ⟨hl, .inr ⟨g, 0, rfl, (Array.getElem?_eq_some_iff.1 h).1, fun j hj => by rw [Nat.zero_add, cell_of_row w g j _ _ _ h, ints_get _ _ _ (by omega)]⟩⟩
theorem RdK.keyC {w : World} {b off n : Nat} {fl : List Int} (h : RdK w (some ⟨b, off, none⟩) n fl) (i : Nat) (hi : i < n) : w.rangeAt b (off + i * 32) ((keyAt fl i).map (Value.int .u8)) := by
  obtain ⟨h1, h2⟩ := h
  rcases h2 with h2 | ⟨b', off', e, hlt, hc⟩
  · omega
  · cases e
    exact keyAt_rangeAt h1 hc i hi
theorem RdK.formC {w : World} {a : Option Addr} {n : Nat} {fl : List Int} (h : RdK w a n fl) (h0 : 0 < n) : ∃ b off, a = some ⟨b, off, none⟩ := by
  rcases h.2 with h2 | ⟨b, off, e, _, _⟩
  · omega
  · exact ⟨b, off, e⟩
theorem inC_any (n a b : Int) (w : World) : Calls Try.prog 45 #[.int .i64 n, .int .i64 a, .int .i64 b] w fun e w' => e = .returned (.bool (decide (a ≤ n) && decide (n ≤ b))) ∧ w = w' := by
  by_cases h1 : a ≤ n <;> by_cases h2 : n ≤ b
  all_goals
    go_enter Try.func45, Try.ntmps45
    go_wp2
    go_ret
    exact ⟨by simp [h1, h2], rfl⟩
/-- The first k keys ascend. -/
def AscF (fl : List Int) (k : Nat) : Prop := ∀ i, i + 1 < k → cmpI (keyAt fl i) (keyAt fl (i + 1)) < 0
theorem AscF.start (fl : List Int) : AscF fl 1 := fun i hi => by omega
theorem AscF.step {fl : List Int} {k : Nat} (h : AscF fl k) (hk : 1 ≤ k) (hc : cmpI (keyAt fl (k - 1)) (keyAt fl k) < 0) : AscF fl (k + 1) := fun i hi => by
  by_cases e : i + 1 = k
  · subst e
    simpa using hc
  · exact h i (by omega)
theorem AscF.not {fl : List Int} {k n : Nat} (hk : 1 ≤ k) (hn : k < n) (hc : ¬ cmpI (keyAt fl (k - 1)) (keyAt fl k) < 0) : ¬ AscF fl n := fun h => hc (by
  have := h (k - 1) (by omega)
  rwa [show k - 1 + 1 = k by omega] at this)
open Classical in
noncomputable def ascB (fl : List Int) (n : Nat) : Bool := decide (AscF fl n)
open Classical in
theorem ascB_yes {fl : List Int} {n : Nat} (h : AscF fl n) : ascB fl n = true := by unfold ascB; exact decide_eq_true h
open Classical in
theorem ascB_no {fl : List Int} {n : Nat} (h : ¬ AscF fl n) : ascB fl n = false := by unfold ascB; exact decide_eq_false h
def OkCm (n : Nat) (z : Int) (nt : ByteArray) (fl : List Int) : Prop := n ≤ 3 ∧ AscF fl n ∧ (0 ≤ z ∧ z ≤ 40) ∧ nt.size ≤ 64
open Classical in
noncomputable def okCb (n : Nat) (z : Int) (nt : ByteArray) (fl : List Int) : Bool := decide (OkCm n z nt fl)
open Classical in
theorem okCb_yes {n : Nat} {z : Int} {nt : ByteArray} {fl : List Int} (h : OkCm n z nt fl) : okCb n z nt fl = true := by unfold okCb; exact decide_eq_true h
open Classical in
theorem okCb_no {n : Nat} {z : Int} {nt : ByteArray} {fl : List Int} (h : ¬ OkCm n z nt fl) : okCb n z nt fl = false := by unfold okCb; exact decide_eq_false h
set_option maxRecDepth 100000 in
set_option maxHeartbeats 4000000 in
theorem asc_impl (a : Option Addr) (n cap : Nat) (fl : List Int) (hn : n ≤ 1048576) (hf : ∀ y ∈ fl, 0 ≤ y ∧ y ≤ 255) (w : World) (hk : RdK w a n fl) :
    Calls Try.prog 38 #[.slice a n cap] w fun e w' => e = .returned (.bool (ascB fl n)) ∧ Below w.heap.size w w' := by
  have KW := Lib.hid hk
  have KF := Lib.hid hf
  have KL := Lib.hid (fun i (hi : i < n) => keyAt_len hk.1 hi)
  clear hk hf
  have z1 : (0 : Int) ≤ (n : Int) := by omega
  have z2 : (n : Int) ≤ 1048576 := by omega
  go_enter Try.func38, Try.ntmps38
  go_wp2_with fail
  go_loopw [3] (fun i wr => ∃ k : Nat, 1 ≤ k ∧ k ≤ n + 1 ∧ i = .int .i64 (k : Int) ∧ Below w.heap.size w wr ∧ Hid (AscF fl k)) (fun i _ => n + 1 - (intOf i).toNat)
  case atStart => exact ⟨1, by omega, by omega, rfl, Below.refl _ _, Lib.hid (AscF.start fl)⟩
  case round =>
    obtain ⟨k, h1, h2, rfl, hb, ha⟩ := hrel
    have B1 := Lib.hid hb
    have KR0 := Lib.hid (KW.out.below hb)
    clear hb
    by_cases hlt : k < n
    · have b0 : (0 : Int) ≤ (k : Int) := by omega
      have b1 : (k : Int) < (n : Int) := by omega
      have S1 := Lib.hid (show IntKind.i64.wrap ((k : Int) - 1) = (k : Int) - 1 from IntWalk.i64_in _ ⟨by omega, by omega⟩)
      have I1 := Lib.hid (show (0 : Int) ≤ (k : Int) - 1 ∧ ((k : Int) - 1).toNat = k - 1 ∧ (k : Int) - 1 < (n : Int) from ⟨by omega, by omega, by omega⟩)
      obtain ⟨b, off, rfl⟩ := KR0.out.formC (by omega)
      have KR := Lib.hid (fun i (hi : i < n) U (hU : Below wr.heap.size wr U) => (KR0.out.below hU).keyC i hi)
      have HCM := Lib.hid (fun U => cmp_impl (keyAt fl (k - 1)) (keyAt fl k) (KL.out _ (by omega)) (KL.out _ hlt) (keyAt_range KF.out _) (keyAt_range KF.out _) U)
      generalize hcv : cmpI (keyAt fl (k - 1)) (keyAt fl k) = cv at HCM
      have HCV := Lib.hid hcv
      clear hcv
      by_cases hc : cv < 0
      · have hc1 : ¬ 0 ≤ cv := by omega
        have HA := Lib.hid (ha.out.step h1 (by rw [HCV.out]; exact hc))
        go_upto_region 4 with fail
        refine wp_region_held_drew (S := Below wr.heap.size wr) (by kernel_rfl) ((Below.refl _ _).drew) (fun hS => ?_)
        refine takeS (i := 0) (v := .slice (some ⟨b, off, none⟩) n cap) rfl rfl (by kernel_rfl) (by kernel_rfl) (by kernel_rfl) (fun _ _ _ h => h) (Or.inl ⟨by rfl, fun U hU => by go_simp⟩) hS ?_
        try simp only [List.setIfInBounds_toArray, List.set_cons_zero, List.set_cons_succ]
        refine takeS (i := 1) (v := .int .i64 (k : Int)) rfl rfl (by kernel_rfl) (by kernel_rfl) (by kernel_rfl) (fun _ _ _ h => h) (Or.inl ⟨by rfl, fun U hU => by go_simp⟩) hS ?_
        try simp only [List.setIfInBounds_toArray, List.set_cons_zero, List.set_cons_succ]
        refine takeS (i := 2) (v := .int .i64 ((k : Int) - 1)) rfl rfl (by kernel_rfl) (by kernel_rfl) (by kernel_rfl) (fun _ _ _ h => h) (Or.inl ⟨by rfl, fun U hU => by have q5 := S1.out; go_simp⟩) hS ?_
        try simp only [List.setIfInBounds_toArray, List.set_cons_zero, List.set_cons_succ]
        refine takeS (i := 3) (v := .pointer (some ⟨b, off + (k - 1) * 32, none⟩)) rfl rfl (by kernel_rfl) (by kernel_rfl) (by kernel_rfl) (fun _ _ _ h => h) (Or.inl ⟨by rfl, fun U hU => by have q5 := I1.out; have q6 : ¬ (k : Int) < 1 := (by omega); go_simp⟩) hS ?_
        try simp only [List.setIfInBounds_toArray, List.set_cons_zero, List.set_cons_succ]
        refine takeS (i := 4) (v := .agg (ints .u8 (keyAt fl (k - 1)))) rfl rfl (by kernel_rfl) (by kernel_rfl) (by kernel_rfl) (fun _ _ _ h => h) (yields_rangeC (by rfl) 28 _ rfl b (off + (k - 1) * 32) rfl .u8 (keyAt fl (k - 1)) _ (fun U hU => KR.out (k - 1) (by omega) U hU) Try.underlying28 rfl (by rw [KL.out (k - 1) (by omega)]; exact sizeKey)) hS ?_
        try simp only [List.setIfInBounds_toArray, List.set_cons_zero, List.set_cons_succ]
        refine takeS (i := 5) (v := .slice (some ⟨b, off, none⟩) n cap) rfl rfl (by kernel_rfl) (by kernel_rfl) (by kernel_rfl) (fun _ _ _ h => h) (Or.inl ⟨by rfl, fun U hU => by go_simp⟩) hS ?_
        try simp only [List.setIfInBounds_toArray, List.set_cons_zero, List.set_cons_succ]
        refine takeS (i := 6) (v := .int .i64 (k : Int)) rfl rfl (by kernel_rfl) (by kernel_rfl) (by kernel_rfl) (fun _ _ _ h => h) (Or.inl ⟨by rfl, fun U hU => by go_simp⟩) hS ?_
        try simp only [List.setIfInBounds_toArray, List.set_cons_zero, List.set_cons_succ]
        refine takeS (i := 7) (v := .pointer (some ⟨b, off + k * 32, none⟩)) rfl rfl (by kernel_rfl) (by kernel_rfl) (by kernel_rfl) (fun _ _ _ h => h) (Or.inl ⟨by rfl, fun U hU => by go_simp⟩) hS ?_
        try simp only [List.setIfInBounds_toArray, List.set_cons_zero, List.set_cons_succ]
        refine takeS (i := 8) (v := .agg (ints .u8 (keyAt fl k))) rfl rfl (by kernel_rfl) (by kernel_rfl) (by kernel_rfl) (fun _ _ _ h => h) (yields_rangeC (by rfl) 28 _ rfl b (off + k * 32) rfl .u8 (keyAt fl k) _ (fun U hU => KR.out k (by omega) U hU) Try.underlying28 rfl (by rw [KL.out k (by omega)]; exact sizeKey)) hS ?_
        try simp only [List.setIfInBounds_toArray, List.set_cons_zero, List.set_cons_succ]
        refine wpAnyH_ready (rs := [9]) (by kernel_rfl) (by simp) ?_
        refine AllReadyH.cons rfl (fun KQ hK => ?_) AllReadyH.nil
        rw [if_pos (by rfl)]
        go_simp
        refine (HCM.out _).mono ?_
        rintro e w5 ⟨rfl, hb⟩
        refine hK.out _ _ (below_call hS hS.size hb) (fun hS => ?_)
        clear hb hK
        refine takeS (i := 10) (v := .bool false) rfl rfl (by kernel_rfl) (by kernel_rfl) (by kernel_rfl) (fun _ _ _ h => h) (Or.inl ⟨by rfl, fun U hU => by go_simp⟩) hS ?_
        try simp only [List.setIfInBounds_toArray, List.set_cons_zero, List.set_cons_succ]
        refine wpAnyH_done (by kernel_rfl) ?_ _
        have HS := Lib.hid (B1.out.trans (hS.mono B1.out.size))
        clear hS
        go_wp2_with fail
        go_roundw
        case rel => exact ⟨k + 1, by omega, by omega, by go_num, HS.out, HA⟩
        case measure => simp [intOf]; omega
      · have hc1 : 0 ≤ cv := by omega
        have HA := Lib.hid (ascB_no (AscF.not (fl := fl) h1 hlt (by rw [HCV.out]; exact hc)))
        go_upto_region 4 with fail
        refine wp_region_held_drew (S := Below wr.heap.size wr) (by kernel_rfl) ((Below.refl _ _).drew) (fun hS => ?_)
        refine takeS (i := 0) (v := .slice (some ⟨b, off, none⟩) n cap) rfl rfl (by kernel_rfl) (by kernel_rfl) (by kernel_rfl) (fun _ _ _ h => h) (Or.inl ⟨by rfl, fun U hU => by go_simp⟩) hS ?_
        try simp only [List.setIfInBounds_toArray, List.set_cons_zero, List.set_cons_succ]
        refine takeS (i := 1) (v := .int .i64 (k : Int)) rfl rfl (by kernel_rfl) (by kernel_rfl) (by kernel_rfl) (fun _ _ _ h => h) (Or.inl ⟨by rfl, fun U hU => by go_simp⟩) hS ?_
        try simp only [List.setIfInBounds_toArray, List.set_cons_zero, List.set_cons_succ]
        refine takeS (i := 2) (v := .int .i64 ((k : Int) - 1)) rfl rfl (by kernel_rfl) (by kernel_rfl) (by kernel_rfl) (fun _ _ _ h => h) (Or.inl ⟨by rfl, fun U hU => by have q5 := S1.out; go_simp⟩) hS ?_
        try simp only [List.setIfInBounds_toArray, List.set_cons_zero, List.set_cons_succ]
        refine takeS (i := 3) (v := .pointer (some ⟨b, off + (k - 1) * 32, none⟩)) rfl rfl (by kernel_rfl) (by kernel_rfl) (by kernel_rfl) (fun _ _ _ h => h) (Or.inl ⟨by rfl, fun U hU => by have q5 := I1.out; have q6 : ¬ (k : Int) < 1 := (by omega); go_simp⟩) hS ?_
        try simp only [List.setIfInBounds_toArray, List.set_cons_zero, List.set_cons_succ]
        refine takeS (i := 4) (v := .agg (ints .u8 (keyAt fl (k - 1)))) rfl rfl (by kernel_rfl) (by kernel_rfl) (by kernel_rfl) (fun _ _ _ h => h) (yields_rangeC (by rfl) 28 _ rfl b (off + (k - 1) * 32) rfl .u8 (keyAt fl (k - 1)) _ (fun U hU => KR.out (k - 1) (by omega) U hU) Try.underlying28 rfl (by rw [KL.out (k - 1) (by omega)]; exact sizeKey)) hS ?_
        try simp only [List.setIfInBounds_toArray, List.set_cons_zero, List.set_cons_succ]
        refine takeS (i := 5) (v := .slice (some ⟨b, off, none⟩) n cap) rfl rfl (by kernel_rfl) (by kernel_rfl) (by kernel_rfl) (fun _ _ _ h => h) (Or.inl ⟨by rfl, fun U hU => by go_simp⟩) hS ?_
        try simp only [List.setIfInBounds_toArray, List.set_cons_zero, List.set_cons_succ]
        refine takeS (i := 6) (v := .int .i64 (k : Int)) rfl rfl (by kernel_rfl) (by kernel_rfl) (by kernel_rfl) (fun _ _ _ h => h) (Or.inl ⟨by rfl, fun U hU => by go_simp⟩) hS ?_
        try simp only [List.setIfInBounds_toArray, List.set_cons_zero, List.set_cons_succ]
        refine takeS (i := 7) (v := .pointer (some ⟨b, off + k * 32, none⟩)) rfl rfl (by kernel_rfl) (by kernel_rfl) (by kernel_rfl) (fun _ _ _ h => h) (Or.inl ⟨by rfl, fun U hU => by go_simp⟩) hS ?_
        try simp only [List.setIfInBounds_toArray, List.set_cons_zero, List.set_cons_succ]
        refine takeS (i := 8) (v := .agg (ints .u8 (keyAt fl k))) rfl rfl (by kernel_rfl) (by kernel_rfl) (by kernel_rfl) (fun _ _ _ h => h) (yields_rangeC (by rfl) 28 _ rfl b (off + k * 32) rfl .u8 (keyAt fl k) _ (fun U hU => KR.out k (by omega) U hU) Try.underlying28 rfl (by rw [KL.out k (by omega)]; exact sizeKey)) hS ?_
        try simp only [List.setIfInBounds_toArray, List.set_cons_zero, List.set_cons_succ]
        refine wpAnyH_ready (rs := [9]) (by kernel_rfl) (by simp) ?_
        refine AllReadyH.cons rfl (fun KQ hK => ?_) AllReadyH.nil
        rw [if_pos (by rfl)]
        go_simp
        refine (HCM.out _).mono ?_
        rintro e w5 ⟨rfl, hb⟩
        refine hK.out _ _ (below_call hS hS.size hb) (fun hS => ?_)
        clear hb hK
        refine takeS (i := 10) (v := .bool true) rfl rfl (by kernel_rfl) (by kernel_rfl) (by kernel_rfl) (fun _ _ _ h => h) (Or.inl ⟨by rfl, fun U hU => by go_simp⟩) hS ?_
        try simp only [List.setIfInBounds_toArray, List.set_cons_zero, List.set_cons_succ]
        refine wpAnyH_done (by kernel_rfl) ?_ _
        have HS := Lib.hid (B1.out.trans (hS.mono B1.out.size))
        clear hS
        go_wp2_with fail
        go_ret
        exact ⟨by rw [HA.out]; rfl, HS.out⟩
    · have b1 : ¬ (k : Int) < (n : Int) := by omega
      have HA := Lib.hid (ascB_yes (show AscF fl n from fun i hi => ha.out i (by omega)))
      go_wp2_with fail
      go_ret
      exact ⟨by rw [HA.out]; rfl, B1.out⟩
set_option maxRecDepth 100000 in
set_option maxHeartbeats 4000000 in
theorem vc_impl (r : List Int) (a : Option Addr) (n cap : Nat) (fl : List Int) (z : Int) (nt : ByteArray) (hr : r.length = 32) (hn : n ≤ 1048576) (hs : nt.size ≤ maxLen) (hf : ∀ y ∈ fl, 0 ≤ y ∧ y ≤ 255) (w : World) (hk : RdK w a n fl) :
    Calls Try.prog 12 #[.agg (comC r (.slice a n cap) z nt)] w fun e w' => e = .returned (.bool (okCb n z nt fl)) ∧ Below w.heap.size w w' := by
  have A0 := heap_alloc_last w (.cells (comC r (.slice a n cap) z nt) 31)
  have B0' := (Below.refl w.heap.size w).alloc (Nat.le_refl _) (.cells (comC r (.slice a n cap) z nt) 31)
  obtain ⟨w0, hw0⟩ : ∃ w0, w.alloc (.cells (comC r (.slice a n cap) z nt) 31) = w0 := ⟨_, rfl⟩
  rw [hw0] at A0 B0'
  have X0 := Lib.hid A0
  have B0 := Lib.hid B0'
  have HR := Lib.hid hr
  have HAS := Lib.hid (asc_impl a n cap fl hn hf w0 (hk.below B0'))
  clear A0 B0' hr hk hf
  obtain ⟨c32, c33, c34⟩ := com_cells HR.out X0.out
  by_cases h1 : (n : Int) ≤ 3
  · by_cases h2 : AscF fl n
    · rw [ascB_yes h2] at HAS
      have H2 := Lib.hid h2
      clear h2
      go_enter Try.func12, Try.ntmps12
      go_wp2_with fail
      refine HAS.out.mono ?_
      rintro e w1 ⟨rfl, hb⟩
      have B1 := Lib.hid (below_call B0.out B0.out.size hb)
      clear c32 c33 c34
      obtain ⟨c32, c33, c34⟩ := com_cells HR.out (keep_block X0.out hb)
      clear hb
      by_cases h3 : 0 ≤ z
      · by_cases h4 : z ≤ 40
        · by_cases h5 : (nt.size : Int) ≤ 64
          · have HO := Lib.hid (okCb_yes (show OkCm n z nt fl from ⟨by omega, H2.out, ⟨h3, h4⟩, by omega⟩))
            go_wp2_with fail
            go_ret
            exact ⟨by rw [HO.out]; rfl, B1.out⟩
          · have HO := Lib.hid (okCb_no (show ¬ OkCm n z nt fl from fun h => h5 (by have := h.2.2.2; omega)))
            go_wp2_with fail
            go_ret
            refine ⟨?_, B1.out⟩
            rw [HO.out]
            show Ending.returned (Value.bool (decide ((nt.size : Int) ≤ 64))) = _
            rw [decide_eq_false (by omega)]
        · have HO := Lib.hid (okCb_no (show ¬ OkCm n z nt fl from fun h => h4 h.2.2.1.2))
          go_wp2_with fail
          go_ret
          exact ⟨by rw [HO.out]; rfl, B1.out⟩
      · have HO := Lib.hid (okCb_no (show ¬ OkCm n z nt fl from fun h => h3 h.2.2.1.1))
        go_wp2_with fail
        go_ret
        exact ⟨by rw [HO.out]; rfl, B1.out⟩
    · rw [ascB_no h2] at HAS
      have HO := Lib.hid (okCb_no (show ¬ OkCm n z nt fl from fun h => h2 h.2.1))
      clear h2
      go_enter Try.func12, Try.ntmps12
      go_wp2_with fail
      refine HAS.out.mono ?_
      rintro e w1 ⟨rfl, hb⟩
      have B1 := Lib.hid (below_call B0.out B0.out.size hb)
      clear hb
      go_wp2_with fail
      go_ret
      exact ⟨by rw [HO.out]; rfl, B1.out⟩
  · have HO := Lib.hid (okCb_no (show ¬ OkCm n z nt fl from fun h => h1 (by have := h.1; omega)))
    go_enter Try.func12, Try.ntmps12
    go_wp2_with fail
    go_ret
    exact ⟨by rw [HO.out]; rfl, B0.out⟩
set_option maxRecDepth 100000 in
set_option maxHeartbeats 4000000 in
theorem ok7_spec (X : Nat) (r : List Int) (a : Option Addr) (n cap : Nat) (fl : List Int) (z : Int) (nt : ByteArray) (hr : r.length = 32) (hn : n ≤ 1048576) (hs : nt.size ≤ maxLen) (w : World) (hX : w.heap[X]? = some (.cells (comC r (.slice a n cap) z nt) 31)) (hk : RdK w a n fl) :
    Calls Try.prog 35 #[.pointer (some ⟨X, 0, none⟩)] w fun e w' => e = .returned (.bool (okCb n z nt fl)) ∧ Below w.heap.size w w' := by
  have KW := Lib.hid hk
  have HX := Lib.hid hX
  have HR := Lib.hid hr
  have KL := Lib.hid (fun i (hi : i < n) => keyAt_len hk.1 hi)
  clear hk hr hX
  obtain ⟨c32, c33, c34⟩ := com_cells HR.out HX.out
  have HIN := Lib.hid (fun U => inC_any z 0 40 U)
  by_cases h1 : (n : Int) ≤ 3
  · have h1' : ¬ 3 < (n : Int) := by omega
    by_cases h3 : 0 ≤ z ∧ z ≤ 40
    · rw [show (decide (0 ≤ z) && decide (z ≤ 40)) = true by simp [h3.1, h3.2]] at HIN
      by_cases h5 : (nt.size : Int) ≤ 64
      · have h5' : ¬ 64 < (nt.size : Int) := by omega
        have H3 := Lib.hid h3
        clear h3
        go_enter Try.func35, Try.ntmps35
        go_wp2_with fail
        refine (HIN.out _).mono ?_
        rintro e w1 ⟨rfl, rfl⟩
        go_wp2_with fail
        clear c32 c33 c34
        have z1 : (0 : Int) ≤ (n : Int) := by omega
        go_loopw [3] (fun i wr => ∃ k : Nat, 1 ≤ k ∧ k ≤ n + 1 ∧ i = .int .i64 (k : Int) ∧ Below w.heap.size w wr ∧ Hid (AscF fl k)) (fun i _ => n + 1 - (intOf i).toNat)
        case atStart => exact ⟨1, by omega, by omega, rfl, Below.refl _ _, Lib.hid (AscF.start fl)⟩
        case round =>
          obtain ⟨k, h1k, h2k, rfl, hb, ha⟩ := hrel
          have B1 := Lib.hid hb
          have KR0 := Lib.hid (KW.out.below hb)
          have HX1 := Lib.hid (keep_block HX.out hb)
          clear hb
          obtain ⟨c32, -, -⟩ := com_cells HR.out HX1.out
          by_cases hlt : k < n
          · have b0 : (0 : Int) ≤ (k : Int) := by omega
            have b1 : (k : Int) < (n : Int) := by omega
            have S1 := Lib.hid (show IntKind.i64.wrap ((k : Int) - 1) = (k : Int) - 1 from IntWalk.i64_in _ ⟨by omega, by omega⟩)
            have I1 := Lib.hid (show (0 : Int) ≤ (k : Int) - 1 ∧ ((k : Int) - 1).toNat = k - 1 ∧ (k : Int) - 1 < (n : Int) from ⟨by omega, by omega, by omega⟩)
            obtain ⟨b, off, rfl⟩ := KR0.out.formC (by omega)
            have KR := Lib.hid (fun i (hi : i < n) U (hU : Below wr.heap.size wr U) => (KR0.out.below hU).keyC i hi)
            have HCM := Lib.hid (fun U => cmp_spec0 (keyAt fl (k - 1)) (keyAt fl k) (KL.out _ (by omega)) (KL.out _ hlt) U)
            generalize hcv : cmpI (keyAt fl (k - 1)) (keyAt fl k) = cv at HCM
            have HCV := Lib.hid hcv
            clear hcv
            by_cases hc : cv < 0
            · have hc1 : ¬ 0 ≤ cv := by omega
              have HA := Lib.hid (ha.out.step h1k (by rw [HCV.out]; exact hc))
              go_upto_region 6 with fail
              clear c32
              refine wp_region_held_drew (S := Below wr.heap.size wr) (by kernel_rfl) ((Below.refl _ _).drew) (fun hS => ?_)
              refine takeS (i := 0) (v := .pointer (some ⟨X, 0, none⟩)) rfl rfl (by kernel_rfl) (by kernel_rfl) (by kernel_rfl) (fun _ _ _ h => h) (Or.inl ⟨by rfl, fun U hU => by go_simp⟩) hS ?_
              try simp only [List.setIfInBounds_toArray, List.set_cons_zero, List.set_cons_succ]
              refine takeS (i := 1) (v := .pointer (some ⟨X, 0, none⟩)) rfl rfl (by kernel_rfl) (by kernel_rfl) (by kernel_rfl) (fun _ _ _ h => h) (Or.inl ⟨by rfl, fun U hU => by go_simp⟩) hS ?_
              try simp only [List.setIfInBounds_toArray, List.set_cons_zero, List.set_cons_succ]
              refine takeS (i := 2) (v := .pointer (some ⟨X, 32, none⟩)) rfl rfl (by kernel_rfl) (by kernel_rfl) (by kernel_rfl) (fun _ _ _ h => h) (Or.inl ⟨by rfl, fun U hU => by go_simp⟩) hS ?_
              try simp only [List.setIfInBounds_toArray, List.set_cons_zero, List.set_cons_succ]
              refine takeS (i := 3) (v := .slice (some ⟨b, off, none⟩) n cap) rfl rfl (by kernel_rfl) (by kernel_rfl) (by kernel_rfl) (fun _ _ _ h => h) (Or.inl ⟨by rfl, fun U hU => by have cu := (com_cells HR.out (keep_block HX1.out hU)).1; go_simp⟩) hS ?_
              try simp only [List.setIfInBounds_toArray, List.set_cons_zero, List.set_cons_succ]
              refine takeS (i := 4) (v := .int .i64 (k : Int)) rfl rfl (by kernel_rfl) (by kernel_rfl) (by kernel_rfl) (fun _ _ _ h => h) (Or.inl ⟨by rfl, fun U hU => by go_simp⟩) hS ?_
              try simp only [List.setIfInBounds_toArray, List.set_cons_zero, List.set_cons_succ]
              refine takeS (i := 5) (v := .int .i64 ((k : Int) - 1)) rfl rfl (by kernel_rfl) (by kernel_rfl) (by kernel_rfl) (fun _ _ _ h => h) (Or.inl ⟨by rfl, fun U hU => by have q5 := S1.out; go_simp⟩) hS ?_
              try simp only [List.setIfInBounds_toArray, List.set_cons_zero, List.set_cons_succ]
              refine takeS (i := 6) (v := .pointer (some ⟨b, off + (k - 1) * 32, none⟩)) rfl rfl (by kernel_rfl) (by kernel_rfl) (by kernel_rfl) (fun _ _ _ h => h) (Or.inl ⟨by rfl, fun U hU => by have q5 := I1.out; have q6 : ¬ (k : Int) < 1 := (by omega); go_simp⟩) hS ?_
              try simp only [List.setIfInBounds_toArray, List.set_cons_zero, List.set_cons_succ]
              refine takeS (i := 7) (v := .agg (ints .u8 (keyAt fl (k - 1)))) rfl rfl (by kernel_rfl) (by kernel_rfl) (by kernel_rfl) (fun _ _ _ h => h) (yields_rangeC (by rfl) 28 _ rfl b (off + (k - 1) * 32) rfl .u8 (keyAt fl (k - 1)) _ (fun U hU => KR.out (k - 1) (by omega) U hU) Try.underlying28 rfl (by rw [KL.out (k - 1) (by omega)]; exact sizeKey)) hS ?_
              try simp only [List.setIfInBounds_toArray, List.set_cons_zero, List.set_cons_succ]
              refine takeS (i := 8) (v := .pointer (some ⟨X, 0, none⟩)) rfl rfl (by kernel_rfl) (by kernel_rfl) (by kernel_rfl) (fun _ _ _ h => h) (Or.inl ⟨by rfl, fun U hU => by go_simp⟩) hS ?_
              try simp only [List.setIfInBounds_toArray, List.set_cons_zero, List.set_cons_succ]
              refine takeS (i := 9) (v := .pointer (some ⟨X, 0, none⟩)) rfl rfl (by kernel_rfl) (by kernel_rfl) (by kernel_rfl) (fun _ _ _ h => h) (Or.inl ⟨by rfl, fun U hU => by go_simp⟩) hS ?_
              try simp only [List.setIfInBounds_toArray, List.set_cons_zero, List.set_cons_succ]
              refine takeS (i := 10) (v := .pointer (some ⟨X, 32, none⟩)) rfl rfl (by kernel_rfl) (by kernel_rfl) (by kernel_rfl) (fun _ _ _ h => h) (Or.inl ⟨by rfl, fun U hU => by go_simp⟩) hS ?_
              try simp only [List.setIfInBounds_toArray, List.set_cons_zero, List.set_cons_succ]
              refine takeS (i := 11) (v := .slice (some ⟨b, off, none⟩) n cap) rfl rfl (by kernel_rfl) (by kernel_rfl) (by kernel_rfl) (fun _ _ _ h => h) (Or.inl ⟨by rfl, fun U hU => by have cu := (com_cells HR.out (keep_block HX1.out hU)).1; go_simp⟩) hS ?_
              try simp only [List.setIfInBounds_toArray, List.set_cons_zero, List.set_cons_succ]
              refine takeS (i := 12) (v := .int .i64 (k : Int)) rfl rfl (by kernel_rfl) (by kernel_rfl) (by kernel_rfl) (fun _ _ _ h => h) (Or.inl ⟨by rfl, fun U hU => by go_simp⟩) hS ?_
              try simp only [List.setIfInBounds_toArray, List.set_cons_zero, List.set_cons_succ]
              refine takeS (i := 13) (v := .pointer (some ⟨b, off + k * 32, none⟩)) rfl rfl (by kernel_rfl) (by kernel_rfl) (by kernel_rfl) (fun _ _ _ h => h) (Or.inl ⟨by rfl, fun U hU => by go_simp⟩) hS ?_
              try simp only [List.setIfInBounds_toArray, List.set_cons_zero, List.set_cons_succ]
              refine takeS (i := 14) (v := .agg (ints .u8 (keyAt fl k))) rfl rfl (by kernel_rfl) (by kernel_rfl) (by kernel_rfl) (fun _ _ _ h => h) (yields_rangeC (by rfl) 28 _ rfl b (off + k * 32) rfl .u8 (keyAt fl k) _ (fun U hU => KR.out k (by omega) U hU) Try.underlying28 rfl (by rw [KL.out k (by omega)]; exact sizeKey)) hS ?_
              try simp only [List.setIfInBounds_toArray, List.set_cons_zero, List.set_cons_succ]
              refine wpAnyH_ready (rs := [15]) (by kernel_rfl) (by simp) ?_
              refine AllReadyH.cons rfl (fun KQ hK => ?_) AllReadyH.nil
              rw [if_pos (by rfl)]
              go_simp
              refine (HCM.out _).mono ?_
              rintro e w5 ⟨rfl, hb⟩
              refine hK.out _ _ (below_call hS hS.size hb) (fun hS => ?_)
              clear hb hK
              refine takeS (i := 16) (v := .bool false) rfl rfl (by kernel_rfl) (by kernel_rfl) (by kernel_rfl) (fun _ _ _ h => h) (Or.inl ⟨by rfl, fun U hU => by go_simp⟩) hS ?_
              try simp only [List.setIfInBounds_toArray, List.set_cons_zero, List.set_cons_succ]
              refine wpAnyH_done (by kernel_rfl) ?_ _
              have HS := Lib.hid (B1.out.trans (hS.mono B1.out.size))
              clear hS
              go_wp2_with fail
              go_roundw
              case rel => exact ⟨k + 1, by omega, by omega, by go_num, HS.out, HA⟩
              case measure => simp [intOf]; omega
            · have hc1 : 0 ≤ cv := by omega
              have HO := Lib.hid (okCb_no (show ¬ OkCm n z nt fl from fun h => (AscF.not (fl := fl) h1k hlt (by rw [HCV.out]; exact hc)) h.2.1))
              go_upto_region 6 with fail
              clear c32
              refine wp_region_held_drew (S := Below wr.heap.size wr) (by kernel_rfl) ((Below.refl _ _).drew) (fun hS => ?_)
              refine takeS (i := 0) (v := .pointer (some ⟨X, 0, none⟩)) rfl rfl (by kernel_rfl) (by kernel_rfl) (by kernel_rfl) (fun _ _ _ h => h) (Or.inl ⟨by rfl, fun U hU => by go_simp⟩) hS ?_
              try simp only [List.setIfInBounds_toArray, List.set_cons_zero, List.set_cons_succ]
              refine takeS (i := 1) (v := .pointer (some ⟨X, 0, none⟩)) rfl rfl (by kernel_rfl) (by kernel_rfl) (by kernel_rfl) (fun _ _ _ h => h) (Or.inl ⟨by rfl, fun U hU => by go_simp⟩) hS ?_
              try simp only [List.setIfInBounds_toArray, List.set_cons_zero, List.set_cons_succ]
              refine takeS (i := 2) (v := .pointer (some ⟨X, 32, none⟩)) rfl rfl (by kernel_rfl) (by kernel_rfl) (by kernel_rfl) (fun _ _ _ h => h) (Or.inl ⟨by rfl, fun U hU => by go_simp⟩) hS ?_
              try simp only [List.setIfInBounds_toArray, List.set_cons_zero, List.set_cons_succ]
              refine takeS (i := 3) (v := .slice (some ⟨b, off, none⟩) n cap) rfl rfl (by kernel_rfl) (by kernel_rfl) (by kernel_rfl) (fun _ _ _ h => h) (Or.inl ⟨by rfl, fun U hU => by have cu := (com_cells HR.out (keep_block HX1.out hU)).1; go_simp⟩) hS ?_
              try simp only [List.setIfInBounds_toArray, List.set_cons_zero, List.set_cons_succ]
              refine takeS (i := 4) (v := .int .i64 (k : Int)) rfl rfl (by kernel_rfl) (by kernel_rfl) (by kernel_rfl) (fun _ _ _ h => h) (Or.inl ⟨by rfl, fun U hU => by go_simp⟩) hS ?_
              try simp only [List.setIfInBounds_toArray, List.set_cons_zero, List.set_cons_succ]
              refine takeS (i := 5) (v := .int .i64 ((k : Int) - 1)) rfl rfl (by kernel_rfl) (by kernel_rfl) (by kernel_rfl) (fun _ _ _ h => h) (Or.inl ⟨by rfl, fun U hU => by have q5 := S1.out; go_simp⟩) hS ?_
              try simp only [List.setIfInBounds_toArray, List.set_cons_zero, List.set_cons_succ]
              refine takeS (i := 6) (v := .pointer (some ⟨b, off + (k - 1) * 32, none⟩)) rfl rfl (by kernel_rfl) (by kernel_rfl) (by kernel_rfl) (fun _ _ _ h => h) (Or.inl ⟨by rfl, fun U hU => by have q5 := I1.out; have q6 : ¬ (k : Int) < 1 := (by omega); go_simp⟩) hS ?_
              try simp only [List.setIfInBounds_toArray, List.set_cons_zero, List.set_cons_succ]
              refine takeS (i := 7) (v := .agg (ints .u8 (keyAt fl (k - 1)))) rfl rfl (by kernel_rfl) (by kernel_rfl) (by kernel_rfl) (fun _ _ _ h => h) (yields_rangeC (by rfl) 28 _ rfl b (off + (k - 1) * 32) rfl .u8 (keyAt fl (k - 1)) _ (fun U hU => KR.out (k - 1) (by omega) U hU) Try.underlying28 rfl (by rw [KL.out (k - 1) (by omega)]; exact sizeKey)) hS ?_
              try simp only [List.setIfInBounds_toArray, List.set_cons_zero, List.set_cons_succ]
              refine takeS (i := 8) (v := .pointer (some ⟨X, 0, none⟩)) rfl rfl (by kernel_rfl) (by kernel_rfl) (by kernel_rfl) (fun _ _ _ h => h) (Or.inl ⟨by rfl, fun U hU => by go_simp⟩) hS ?_
              try simp only [List.setIfInBounds_toArray, List.set_cons_zero, List.set_cons_succ]
              refine takeS (i := 9) (v := .pointer (some ⟨X, 0, none⟩)) rfl rfl (by kernel_rfl) (by kernel_rfl) (by kernel_rfl) (fun _ _ _ h => h) (Or.inl ⟨by rfl, fun U hU => by go_simp⟩) hS ?_
              try simp only [List.setIfInBounds_toArray, List.set_cons_zero, List.set_cons_succ]
              refine takeS (i := 10) (v := .pointer (some ⟨X, 32, none⟩)) rfl rfl (by kernel_rfl) (by kernel_rfl) (by kernel_rfl) (fun _ _ _ h => h) (Or.inl ⟨by rfl, fun U hU => by go_simp⟩) hS ?_
              try simp only [List.setIfInBounds_toArray, List.set_cons_zero, List.set_cons_succ]
              refine takeS (i := 11) (v := .slice (some ⟨b, off, none⟩) n cap) rfl rfl (by kernel_rfl) (by kernel_rfl) (by kernel_rfl) (fun _ _ _ h => h) (Or.inl ⟨by rfl, fun U hU => by have cu := (com_cells HR.out (keep_block HX1.out hU)).1; go_simp⟩) hS ?_
              try simp only [List.setIfInBounds_toArray, List.set_cons_zero, List.set_cons_succ]
              refine takeS (i := 12) (v := .int .i64 (k : Int)) rfl rfl (by kernel_rfl) (by kernel_rfl) (by kernel_rfl) (fun _ _ _ h => h) (Or.inl ⟨by rfl, fun U hU => by go_simp⟩) hS ?_
              try simp only [List.setIfInBounds_toArray, List.set_cons_zero, List.set_cons_succ]
              refine takeS (i := 13) (v := .pointer (some ⟨b, off + k * 32, none⟩)) rfl rfl (by kernel_rfl) (by kernel_rfl) (by kernel_rfl) (fun _ _ _ h => h) (Or.inl ⟨by rfl, fun U hU => by go_simp⟩) hS ?_
              try simp only [List.setIfInBounds_toArray, List.set_cons_zero, List.set_cons_succ]
              refine takeS (i := 14) (v := .agg (ints .u8 (keyAt fl k))) rfl rfl (by kernel_rfl) (by kernel_rfl) (by kernel_rfl) (fun _ _ _ h => h) (yields_rangeC (by rfl) 28 _ rfl b (off + k * 32) rfl .u8 (keyAt fl k) _ (fun U hU => KR.out k (by omega) U hU) Try.underlying28 rfl (by rw [KL.out k (by omega)]; exact sizeKey)) hS ?_
              try simp only [List.setIfInBounds_toArray, List.set_cons_zero, List.set_cons_succ]
              refine wpAnyH_ready (rs := [15]) (by kernel_rfl) (by simp) ?_
              refine AllReadyH.cons rfl (fun KQ hK => ?_) AllReadyH.nil
              rw [if_pos (by rfl)]
              go_simp
              refine (HCM.out _).mono ?_
              rintro e w5 ⟨rfl, hb⟩
              refine hK.out _ _ (below_call hS hS.size hb) (fun hS => ?_)
              clear hb hK
              refine takeS (i := 16) (v := .bool true) rfl rfl (by kernel_rfl) (by kernel_rfl) (by kernel_rfl) (fun _ _ _ h => h) (Or.inl ⟨by rfl, fun U hU => by go_simp⟩) hS ?_
              try simp only [List.setIfInBounds_toArray, List.set_cons_zero, List.set_cons_succ]
              refine wpAnyH_done (by kernel_rfl) ?_ _
              have HS := Lib.hid (B1.out.trans (hS.mono B1.out.size))
              clear hS
              go_wp2_with fail
              go_ret
              exact ⟨by rw [HO.out]; rfl, HS.out⟩
          · have b1 : ¬ (k : Int) < (n : Int) := by omega
            have HO := Lib.hid (okCb_yes (show OkCm n z nt fl from ⟨by omega, fun i hi => ha.out i (by omega), H3.out, by omega⟩))
            go_wp2_with fail
            go_ret
            exact ⟨by rw [HO.out]; rfl, B1.out⟩
      · have h5' : 64 < (nt.size : Int) := by omega
        have HO := Lib.hid (okCb_no (show ¬ OkCm n z nt fl from fun h => h5 (by have := h.2.2.2; omega)))
        clear h3
        go_enter Try.func35, Try.ntmps35
        go_wp2_with fail
        refine (HIN.out _).mono ?_
        rintro e w1 ⟨rfl, rfl⟩
        go_wp2_with fail
        go_ret
        exact ⟨by rw [HO.out]; rfl, Below.refl _ _⟩
    · rw [show (decide (0 ≤ z) && decide (z ≤ 40)) = false by rw [Bool.and_eq_false_iff, decide_eq_false_iff_not, decide_eq_false_iff_not]; omega] at HIN
      have HO := Lib.hid (okCb_no (show ¬ OkCm n z nt fl from fun h => h3 h.2.2.1))
      clear h3
      go_enter Try.func35, Try.ntmps35
      go_wp2_with fail
      refine (HIN.out _).mono ?_
      rintro e w1 ⟨rfl, rfl⟩
      go_wp2_with fail
      go_ret
      exact ⟨by rw [HO.out]; rfl, Below.refl _ _⟩
  · have h1' : 3 < (n : Int) := by omega
    have HO := Lib.hid (okCb_no (show ¬ OkCm n z nt fl from fun h => h1 (by have := h.1; omega)))
    go_enter Try.func35, Try.ntmps35
    go_wp2_with fail
    go_ret
    exact ⟨by rw [HO.out]; rfl, Below.refl _ _⟩
set_option maxRecDepth 100000 in
set_option maxHeartbeats 4000000 in
theorem vc_spec (r : List Int) (a : Option Addr) (n cap : Nat) (fl : List Int) (z : Int) (nt : ByteArray) (hr : r.length = 32) (hn : n ≤ 1048576) (hs : nt.size ≤ maxLen) (w : World) (hk : RdK w a n fl) :
    Calls Try.prog 10 #[.agg (comC r (.slice a n cap) z nt)] w fun e w' => e = .returned (.bool (okCb n z nt fl)) ∧ Below w.heap.size w w' := by
  have A0 := heap_alloc_last w (.cells (comC r (.slice a n cap) z nt) 31)
  have B0' := (Below.refl w.heap.size w).alloc (Nat.le_refl _) (.cells (comC r (.slice a n cap) z nt) 31)
  have HO := Lib.hid (ok7_spec w.heap.size r a n cap fl z nt hr hn hs _ A0 (hk.below B0'))
  have B0 := Lib.hid B0'
  clear A0 B0' hk
  go_enter Try.func10, Try.ntmps10
  go_wp2_with fail
  refine HO.out.mono ?_
  rintro e w1 ⟨rfl, hb⟩
  have B1 := Lib.hid (below_call B0.out B0.out.size hb)
  go_wp2_with fail
  go_ret
  exact ⟨rfl, B1.out⟩
end Go.Proofs.Ytnnplebebhjfaaa
