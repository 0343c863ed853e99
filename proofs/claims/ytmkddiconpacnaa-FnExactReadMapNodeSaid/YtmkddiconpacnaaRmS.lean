/- ReadMapNode, by the specification. Written by wip/gen/rmn.py. -/
import Derived.Test.YtmkddiconpacnaaRmI
namespace Go.Proofs.Ytmkddiconpacnaa
open Go.ChangeShapes Go.WideShapes Go.ChangeAt Go.RowKit
set_option linter.unusedVariables false
set_option linter.unusedSimpArgs false
theorem sizeEnt : (Try.prog.info? 31).map (·.size) = some 2 := by kernel_rfl
theorem yields_rowN {P : Program} {ops : Array Oper} {S : World → Prop} {op : Oper} {a : Act} (hw : Region.wanted op (yielded ops a.tmps) = true) (ty : TypeId) (x : Operand) (ho : op.op = .load ty x)
    (b : Nat) (hx : a.eval x = .pointer (some ⟨b, 0, none⟩)) (cs : Array Value) (t : TypeId) (d : TypeDesc) (hg : ∀ w, S w → w.heap[b]? = some (.cells cs t (0, 0)))
    (hu : P.underlying ty = some d) (hd : (match d with | .struct _ | .array _ _ => true | _ => false) = true) (hi : (P.info? ty).map (·.size) = some cs.size) :
    YieldsIf P ops S op (.agg cs) a :=
  .inl ⟨hw, fun w hS => by
    unfold execOp
    simp only [ho, hx, Instr.loadAt, Instr.sureAddr, Sem.run_bind, Sem.run_pure, Result.andThen_ok, run_loadVar_row w b t ty cs (0, 0) d (hg w hS) hu hd hi]⟩
theorem nod_putL {l r : List Int} {nm vl : ByteArray} {k : Nat} {v : Int} (hl : l.length = 32) (hk : k < 32) : (nodC l r nm vl).setIfInBounds k (.int .u8 v) = nodC (l.set k v) r nm vl := by
  unfold nodC nodL
  rw [List.setIfInBounds_toArray, List.set_append_left _ _ (by simp [hl, hk]), List.map_set]
theorem nod_putR {l r : List Int} {nm vl : ByteArray} {k : Nat} {v : Int} (hl : l.length = 32) (hr : r.length = 32) (hk : k < 32) : (nodC l r nm vl).setIfInBounds (32 + k) (.int .u8 v) = nodC l (r.set k v) nm vl := by
  unfold nodC nodL
  rw [List.setIfInBounds_toArray, List.set_append_right _ _ (by simp [hl]), List.length_map, hl, Nat.add_sub_cancel_left, List.set_append_left _ _ (by simp [hr, hk]), List.map_set]
theorem entB_no {nm vl : ByteArray} (h : ¬ (1 ≤ nm.size ∧ nm.size ≤ 24 ∧ vl.size ≤ 64)) : entB nm vl = false := by
  cases hb : entB nm vl with
  | false => rfl
  | true => exact absurd (entB_sizes hb) h
/-- What the specification reads: the node, and whether it is one. -/
def rdC (l : List Int) : Array Value := if 66 ≤ l.length ∧ l.length ≤ 153 ∧ 65 + rnQ l ≤ l.length then nodC (l.take 32) ((l.drop 32).take 32) (rnN l) (rnW l) else nodC z32 z32 ⟨#[]⟩ ⟨#[]⟩
theorem rdC_size {l : List Int} : (rdC l).size = 66 := by
  unfold rdC
  split
  · rename_i h
    exact nodC_size _ _ (by rw [List.length_take]; omega) (by rw [List.length_take, List.length_drop]; omega)
  · exact nodC_size _ _ z32_len z32_len
theorem rdC_one (l : List Int) : (rdC l).all (·.oneCell') = true := by
  unfold rdC
  split <;> exact nodC_one _ _ _ _
set_option maxRecDepth 100000 in
set_option maxHeartbeats 8000000 in
theorem rd_no (a : Option Addr) (n cap : Nat) (w : World) (hn : n ≤ 1048576) (h : n < 66 ∨ 153 < n) :
    Calls Try.prog 81 #[.slice a n cap] w fun e w' => e = .returned (.tuple #[.agg (nodC z32 z32 ⟨#[]⟩ ⟨#[]⟩), .bool false]) ∧ Below w.heap.size w w' := by
  have A0 := heap_alloc2_old w (.cells (nodC z32 z32 ⟨#[]⟩ ⟨#[]⟩) 45) (.cells (nodC z32 z32 ⟨#[]⟩ ⟨#[]⟩) 45)
  have A1 := heap_alloc2_new w (.cells (nodC z32 z32 ⟨#[]⟩ ⟨#[]⟩) 45) (.cells (nodC z32 z32 ⟨#[]⟩ ⟨#[]⟩) 45)
  have B0' := ((Below.refl w.heap.size w).alloc (Nat.le_refl _) (.cells (nodC z32 z32 ⟨#[]⟩ ⟨#[]⟩) 45)).alloc (by simp) (.cells (nodC z32 z32 ⟨#[]⟩ ⟨#[]⟩) 45)
  obtain ⟨W0, hW0⟩ : ∃ W0, (w.alloc (.cells (nodC z32 z32 ⟨#[]⟩ ⟨#[]⟩) 45)).alloc (.cells (nodC z32 z32 ⟨#[]⟩ ⟨#[]⟩) 45) = W0 := ⟨_, rfl⟩
  rw [hW0] at A0 A1 B0'
  have hS := setRow_same W0 (w.heap.size + 1) (nodC z32 z32 ⟨#[]⟩ ⟨#[]⟩) 45 (0, 0) A1
  rw [nodZ] at hW0
  have X0 := Lib.hid A0
  have X1 := Lib.hid A1
  have B0 := Lib.hid B0'
  rcases h with h | h
  · have m1 : (n : Int) < 66 := by omega
    clear A0 A1 B0'
    go_enter Try.func81, Try.ntmps81
    go_wp2_with (first | (refine wpList_store_row rfl 45 (.tmp 4) _ rfl (w.heap.size + 1) (nodC z32 z32 ⟨#[]⟩ ⟨#[]⟩) rfl rfl 45 (nodC z32 z32 ⟨#[]⟩ ⟨#[]⟩) X1.out (by rw [nodC_size _ _ z32_len z32_len]; exact sizeNode) rfl (nodC_one _ _ _ _) ?_) | (refine wpList_load_row rfl 45 (.tmp 4) rfl (w.heap.size + 1) rfl 45 (nodC z32 z32 ⟨#[]⟩ ⟨#[]⟩) (0, 0) _ X1.out Try.underlying45 rfl (by rw [nodC_size _ _ z32_len z32_len]; exact sizeNode) ?_) | (refine wpList_store_row rfl 45 (.tmp 2) _ rfl w.heap.size (nodC z32 z32 ⟨#[]⟩ ⟨#[]⟩) rfl rfl 45 (nodC z32 z32 ⟨#[]⟩ ⟨#[]⟩) X0.out (by rw [nodC_size _ _ z32_len z32_len]; exact sizeNode) rfl (nodC_one _ _ _ _) ?_))
    refine bodyPost_ret (results_cell2_row rfl _ _ w.heap.size 45 (nodC z32 z32 ⟨#[]⟩ ⟨#[]⟩) (0, 0) _ rfl (setRow_heap _ _ (nodC z32 z32 ⟨#[]⟩ ⟨#[]⟩) _ _ _ X0.out) Try.underlying45 rfl (by rw [nodC_size _ _ z32_len z32_len]; exact sizeNode)) rfl ⟨rfl, ?_⟩
    exact Below.setRow B0.out (Nat.le_refl _) _
  · have m1 : ¬ (n : Int) < 66 := by omega
    have m2 : (153 : Int) < (n : Int) := by omega
    clear A0 A1 B0'
    go_enter Try.func81, Try.ntmps81
    go_wp2_with (first | (refine wpList_store_row rfl 45 (.tmp 4) _ rfl (w.heap.size + 1) (nodC z32 z32 ⟨#[]⟩ ⟨#[]⟩) rfl rfl 45 (nodC z32 z32 ⟨#[]⟩ ⟨#[]⟩) X1.out (by rw [nodC_size _ _ z32_len z32_len]; exact sizeNode) rfl (nodC_one _ _ _ _) ?_) | (refine wpList_load_row rfl 45 (.tmp 4) rfl (w.heap.size + 1) rfl 45 (nodC z32 z32 ⟨#[]⟩ ⟨#[]⟩) (0, 0) _ X1.out Try.underlying45 rfl (by rw [nodC_size _ _ z32_len z32_len]; exact sizeNode) ?_) | (refine wpList_store_row rfl 45 (.tmp 2) _ rfl w.heap.size (nodC z32 z32 ⟨#[]⟩ ⟨#[]⟩) rfl rfl 45 (nodC z32 z32 ⟨#[]⟩ ⟨#[]⟩) X0.out (by rw [nodC_size _ _ z32_len z32_len]; exact sizeNode) rfl (nodC_one _ _ _ _) ?_))
    refine bodyPost_ret (results_cell2_row rfl _ _ w.heap.size 45 (nodC z32 z32 ⟨#[]⟩ ⟨#[]⟩) (0, 0) _ rfl (setRow_heap _ _ (nodC z32 z32 ⟨#[]⟩ ⟨#[]⟩) _ _ _ X0.out) Try.underlying45 rfl (by rw [nodC_size _ _ z32_len z32_len]; exact sizeNode)) rfl ⟨rfl, ?_⟩
    exact Below.setRow B0.out (Nat.le_refl _) _
set_option maxRecDepth 100000 in
set_option maxHeartbeats 8000000 in
theorem rd_no2 (b off n cap q : Nat) (w : World) (h66 : 66 ≤ n) (hn : n ≤ 153) (hq : n < 65 + q) (q255 : q ≤ 255) (hb : b < w.heap.size) (hcell : w.cell? ⟨b, off + 64, none⟩ = some (.int .u8 (q : Int))) :
    Calls Try.prog 81 #[.slice (some ⟨b, off, none⟩) n cap] w fun e w' => e = .returned (.tuple #[.agg (nodC z32 z32 ⟨#[]⟩ ⟨#[]⟩), .bool false]) ∧ Below w.heap.size w w' := by
  have A0 := heap_alloc2_old w (.cells (nodC z32 z32 ⟨#[]⟩ ⟨#[]⟩) 45) (.cells (nodC z32 z32 ⟨#[]⟩ ⟨#[]⟩) 45)
  have A1 := heap_alloc2_new w (.cells (nodC z32 z32 ⟨#[]⟩ ⟨#[]⟩) 45) (.cells (nodC z32 z32 ⟨#[]⟩ ⟨#[]⟩) 45)
  have B0' := ((Below.refl w.heap.size w).alloc (Nat.le_refl _) (.cells (nodC z32 z32 ⟨#[]⟩ ⟨#[]⟩) 45)).alloc (by simp) (.cells (nodC z32 z32 ⟨#[]⟩ ⟨#[]⟩) 45)
  obtain ⟨W0, hW0⟩ : ∃ W0, (w.alloc (.cells (nodC z32 z32 ⟨#[]⟩ ⟨#[]⟩) 45)).alloc (.cells (nodC z32 z32 ⟨#[]⟩ ⟨#[]⟩) 45) = W0 := ⟨_, rfl⟩
  rw [hW0] at A0 A1 B0'
  have hS := setRow_same W0 (w.heap.size + 1) (nodC z32 z32 ⟨#[]⟩ ⟨#[]⟩) 45 (0, 0) A1
  have c64 : W0.cell? ⟨b, off + 64, none⟩ = some (.int .u8 (q : Int)) := by rw [B0'.cell (p := ⟨b, off + 64, none⟩) hb]; exact hcell
  rw [nodZ] at hW0
  have X0 := Lib.hid A0
  have X1 := Lib.hid A1
  have B0 := Lib.hid B0'
  have m1 : ¬ (n : Int) < 66 := by omega
  have m2 : ¬ (153 : Int) < (n : Int) := by omega
  have m3 : (64 : Int) < (n : Int) := by omega
  have m4 : (n : Int) < 65 + (q : Int) := by omega
  clear A0 A1 B0' hcell
  go_enter Try.func81, Try.ntmps81
  go_wp2_with (first | (refine wpList_store_row rfl 45 (.tmp 4) _ rfl (w.heap.size + 1) (nodC z32 z32 ⟨#[]⟩ ⟨#[]⟩) rfl rfl 45 (nodC z32 z32 ⟨#[]⟩ ⟨#[]⟩) X1.out (by rw [nodC_size _ _ z32_len z32_len]; exact sizeNode) rfl (nodC_one _ _ _ _) ?_) | (refine wpList_load_row rfl 45 (.tmp 4) rfl (w.heap.size + 1) rfl 45 (nodC z32 z32 ⟨#[]⟩ ⟨#[]⟩) (0, 0) _ X1.out Try.underlying45 rfl (by rw [nodC_size _ _ z32_len z32_len]; exact sizeNode) ?_) | (refine wpList_store_row rfl 45 (.tmp 2) _ rfl w.heap.size (nodC z32 z32 ⟨#[]⟩ ⟨#[]⟩) rfl rfl 45 (nodC z32 z32 ⟨#[]⟩ ⟨#[]⟩) X0.out (by rw [nodC_size _ _ z32_len z32_len]; exact sizeNode) rfl (nodC_one _ _ _ _) ?_))
  refine bodyPost_ret (results_cell2_row rfl _ _ w.heap.size 45 (nodC z32 z32 ⟨#[]⟩ ⟨#[]⟩) (0, 0) _ rfl (setRow_heap _ _ (nodC z32 z32 ⟨#[]⟩ ⟨#[]⟩) _ _ _ X0.out) Try.underlying45 rfl (by rw [nodC_size _ _ z32_len z32_len]; exact sizeNode)) rfl ⟨rfl, ?_⟩
  exact Below.setRow B0.out (Nat.le_refl _) _
set_option maxRecDepth 100000 in
set_option maxHeartbeats 16000000 in
theorem rd_in (b off n cap : Nat) (l : List Int) (hn : n ≤ 153) (hc : n ≤ cap) (hm : cap ≤ maxLen) (fl : ∀ z ∈ l, 0 ≤ z ∧ z ≤ 255) (w : World) (hl : l.length = n) (h66 : 66 ≤ n) (hq : 65 + rnQ l ≤ n) (hb : b < w.heap.size) (hcell : ∀ j, j < n → w.cell? ⟨b, off + j, none⟩ = some (.int .u8 (l[j]?.getD 0))) :
    Calls Try.prog 81 #[.slice (some ⟨b, off, none⟩) n cap] w fun e w' => e = .returned (.tuple #[.agg (nodC (l.take 32) ((l.drop 32).take 32) (rnN l) (rnW l)), .bool (entB (rnN l) (rnW l))]) ∧ Below w.heap.size w w' := by
  have TL := Lib.hid (take32_len (l := l) (by omega))
  have A0 := heap_alloc2_old w (.cells (nodC z32 z32 ⟨#[]⟩ ⟨#[]⟩) 45) (.cells (nodC z32 z32 ⟨#[]⟩ ⟨#[]⟩) 45)
  have A1 := heap_alloc2_new w (.cells (nodC z32 z32 ⟨#[]⟩ ⟨#[]⟩) 45) (.cells (nodC z32 z32 ⟨#[]⟩ ⟨#[]⟩) 45)
  have B0' := ((Below.refl w.heap.size w).alloc (Nat.le_refl _) (.cells (nodC z32 z32 ⟨#[]⟩ ⟨#[]⟩) 45)).alloc (by simp) (.cells (nodC z32 z32 ⟨#[]⟩ ⟨#[]⟩) 45)
  obtain ⟨W0, hW0⟩ : ∃ W0, (w.alloc (.cells (nodC z32 z32 ⟨#[]⟩ ⟨#[]⟩) 45)).alloc (.cells (nodC z32 z32 ⟨#[]⟩ ⟨#[]⟩) 45) = W0 := ⟨_, rfl⟩
  rw [hW0] at A0 A1 B0'
  have hS := setRow_same W0 (w.heap.size + 1) (nodC z32 z32 ⟨#[]⟩ ⟨#[]⟩) 45 (0, 0) A1
  rw [nodZ] at hW0
  have X0 := Lib.hid A0
  have X1 := Lib.hid A1
  have B0 := Lib.hid B0'
  have HCU := Lib.hid (show ∀ U, Below w.heap.size w U → ∀ j, j < n → U.cell? ⟨b, off + j, none⟩ = some (.int .u8 (l[j]?.getD 0)) from fun U hU j hj => by
    rw [hU.cell (p := ⟨b, off + j, none⟩) hb]
    exact hcell j hj)
  obtain ⟨hz, q255⟩ := rn_cell fl hl (by omega)
  have c64 := HCU.out W0 B0' 64 (by omega)
  rw [hz] at c64
  obtain ⟨A1', hA1⟩ : ∃ A : Addr, (if cap = 65 then some (⟨b, off, none⟩ : Addr) else some ⟨b, off + 65, none⟩) = some A := by split <;> exact ⟨_, rfl⟩
  obtain ⟨A2', hA2⟩ : ∃ A : Addr, (if cap = 65 + rnQ l then some (⟨b, off, none⟩ : Addr) else some ⟨b, off + (65 + rnQ l), none⟩) = some A := by split <;> exact ⟨_, rfl⟩
  have CV1 := Lib.hid (show ∀ U, Below w.heap.size w U → (convert 40 9 (.slice (some A1') (rnQ l) (cap - 65))).run Try.prog U = .ok (.string (rnN l)) U from fun U hU => by
    rw [if_neg (by omega)] at hA1
    injection hA1 with hA1
    subst hA1
    exact run_convert_bytes_arg (P := Try.prog) (w := U) 40 5 Try.underlying40 Try.underlying5 b (off + 65) (rnQ l) (cap - 65) ((l.drop 65).take (rnQ l)) (by rw [List.length_take, List.length_drop]; omega) (fun i hi => by
      rw [Nat.add_assoc, HCU.out U hU (65 + i) (by omega), List.getD_eq_getElem?_getD, List.getElem?_take_of_lt hi, List.getElem?_drop]) 9 Try.underlying9)
  have CV2 := Lib.hid (show ∀ U, Below w.heap.size w U → (convert 40 9 (.slice (some A2') (n - (65 + rnQ l)) (cap - (65 + rnQ l)))).run Try.prog U = .ok (.string (rnW l)) U from fun U hU => by
    split at hA2
    · rename_i h0
      injection hA2 with hA2
      subst hA2
      exact run_convert_bytes_arg (P := Try.prog) (w := U) 40 5 Try.underlying40 Try.underlying5 b off (n - (65 + rnQ l)) (cap - (65 + rnQ l)) (l.drop (65 + rnQ l)) (by rw [List.length_drop]; omega) (fun i hi => by omega) 9 Try.underlying9
    · injection hA2 with hA2
      subst hA2
      exact run_convert_bytes_arg (P := Try.prog) (w := U) 40 5 Try.underlying40 Try.underlying5 b (off + (65 + rnQ l)) (n - (65 + rnQ l)) (cap - (65 + rnQ l)) (l.drop (65 + rnQ l)) (by rw [List.length_drop]; omega) (fun i hi => by
        rw [Nat.add_assoc, HCU.out U hU (65 + rnQ l + i) (by omega), List.getD_eq_getElem?_getD, List.getElem?_drop]) 9 Try.underlying9)
  have HA1 := Lib.hid hA1
  have HA2 := Lib.hid hA2
  have hs1 : (rnN l).size ≤ maxLen := by rw [rnN_size (by omega)]; unfold maxLen; omega
  have hs2 : (rnW l).size ≤ maxLen := by rw [rnW_size]; unfold maxLen; omega
  have HES := Lib.hid (fun (U : World) c0 c1 => entry_spec (w.heap.size + 1) 64 (rnN l) (rnW l) hs1 hs2 U c0 c1)
  have HSZ := Lib.hid (nodC_size (rnN l) (rnW l) TL.out.1 TL.out.2)
  have HLL := Lib.hid (show ∀ k, k < 32 → (l.take 32)[k]?.getD 0 = l[k]?.getD 0 from fun k hk => by rw [List.getElem?_take_of_lt hk])
  have HRR := Lib.hid (show ∀ k, k < 32 → ((l.drop 32).take 32)[k]?.getD 0 = l[32 + k]?.getD 0 from fun k hk => by rw [List.getElem?_take_of_lt hk, List.getElem?_drop])
  have hm' := hm
  unfold maxLen at hm'
  clear hs1 hs2 hA1 hA2 hz fl hcell A0 A1 B0' hl
  generalize rnN l = nm at CV1 HES HSZ ⊢
  generalize rnW l = vl at CV2 HES HSZ ⊢
  generalize rnQ l = q at *
  generalize l.take 32 = L at TL HSZ HLL ⊢
  generalize (l.drop 32).take 32 = R at TL HSZ HRR ⊢
  have m1 : ¬ (n : Int) < 66 := by omega
  have m2 : ¬ (153 : Int) < (n : Int) := by omega
  have m3 : (64 : Int) < (n : Int) := by omega
  have m4 : ¬ (n : Int) < 65 + (q : Int) := by omega
  go_enter Try.func81, Try.ntmps81
  go_wp2_with (refine wpList_store_row rfl 45 (.tmp 4) _ rfl (w.heap.size + 1) (nodC z32 z32 ⟨#[]⟩ ⟨#[]⟩) rfl rfl 45 (nodC z32 z32 ⟨#[]⟩ ⟨#[]⟩) X1.out (by rw [nodC_size _ _ z32_len z32_len]; exact sizeNode) rfl (nodC_one _ _ _ _) ?_)
  clear hW0 hS c64
  go_loopw [6] (fun i wr => ∃ k : Nat, k ≤ 32 ∧ i = .int .i64 k ∧ wr.heap[w.heap.size]? = some (.cells (nodC z32 z32 ⟨#[]⟩ ⟨#[]⟩) 45) ∧ wr.heap[w.heap.size + 1]? = some (.cells (nodC (upTo z32 L k) (upTo z32 R k) ⟨#[]⟩ ⟨#[]⟩) 45) ∧ Below w.heap.size w wr) (fun i _ => 32 - (intOf i).toNat)
  case atStart => exact ⟨0, by omega, rfl, X0.out, by rw [upTo_zero, upTo_zero]; exact X1.out, B0.out⟩
  case round =>
    clear X0 X1 B0
    obtain ⟨k, hk, rfl, h0, h1, hbb⟩ := hrel
    have HB := Lib.hid hbb
    have HX := Lib.hid h0
    have HG := Lib.hid h1
    clear hbb h0 h1
    by_cases hlt : k < 32
    · have b0 : (0 : Int) ≤ (k : Int) := by omega
      have b1 : (k : Int) < 32 := by omega
      have b2 : (k : Int) < (n : Int) := by omega
      have b3 : (32 : Int) + (k : Int) < (n : Int) := by omega
      have b4 : (0 : Int) ≤ 32 + (k : Int) := by omega
      have b5 : ((32 : Int) + (k : Int)).toNat = 32 + k := by omega
      have lu : (upTo z32 L k).length = 32 := by rw [upTo_len (by rw [TL.out.1]; rfl), TL.out.1]
      have ru : (upTo z32 R k).length = 32 := by rw [upTo_len (by rw [TL.out.2]; rfl), TL.out.2]
      have d0 := HCU.out wr HB.out k (by omega)
      have d1 := HCU.out wr HB.out (32 + k) (by omega)
      rw [← HLL.out k hlt] at d0
      rw [← HRR.out k hlt] at d1
      obtain ⟨e0, e1⟩ := nod_byte lu ru HG.out hlt
      have f0 := frozen_of_row wr (w.heap.size + 1) k _ _ HG.out
      have f1 := frozen_of_row wr (w.heap.size + 1) (32 + k) _ _ HG.out
      have G1 := heap_setCell_same _ _ k _ _ (.int .u8 (L[k]?.getD 0)) HG.out
      rw [nod_putL lu hlt] at G1
      have G2 := heap_setCell_same _ _ (32 + k) _ _ (.int .u8 (R[k]?.getD 0)) G1
      rw [nod_putR (by rw [List.length_set]; exact lu) ru hlt, upTo_step (by rw [TL.out.1]; rfl) (by rw [TL.out.1]; exact hlt), upTo_step (by rw [TL.out.2]; rfl) (by rw [TL.out.2]; exact hlt)] at G2
      have GG := Lib.hid G2
      have BB := Lib.hid ((HB.out.setCell (p := ⟨w.heap.size + 1, k, none⟩) (by show w.heap.size ≤ w.heap.size + 1; omega) (.int .u8 (L[k]?.getD 0))).setCell (p := ⟨w.heap.size + 1, 32 + k, none⟩) (by show w.heap.size ≤ w.heap.size + 1; omega) (.int .u8 (R[k]?.getD 0)))
      have XX := Lib.hid ((heap_setCell_other (wr.setCell ⟨w.heap.size + 1, k, none⟩ (.int .u8 (L[k]?.getD 0))) ⟨w.heap.size + 1, 32 + k, none⟩ w.heap.size (.int .u8 (R[k]?.getD 0)) (by show w.heap.size ≠ w.heap.size + 1; omega)).trans ((heap_setCell_other wr ⟨w.heap.size + 1, k, none⟩ w.heap.size (.int .u8 (L[k]?.getD 0)) (by show w.heap.size ≠ w.heap.size + 1; omega)).trans HX.out))
      have nb : b ≠ w.heap.size + 1 := by omega
      clear G1 G2 lu ru
      generalize L[k]?.getD 0 = x at d0 GG BB XX
      generalize R[k]?.getD 0 = y at d1 GG BB XX
      go_wp2_with fail
      go_roundw
      case rel => exact ⟨k + 1, by omega, by go_num, XX.out, GG.out, BB.out⟩
      case measure => simp [intOf]; omega
    · obtain rfl : k = 32 := by omega
      rw [upTo_all z32_len TL.out.1, upTo_all z32_len TL.out.2] at HG
      rw [show ((32 : Nat) : Int) = 32 from rfl]
      have k0 : (65 + (q : Int)).toNat = 65 + q := by omega
      have k1 : 65 + q - 65 = q := by omega
      have k2 : (0 : Int) ≤ 65 + (q : Int) := by omega
      have k3 : (65 : Int) ≤ 65 + (q : Int) := by omega
      have k4 : 65 + (q : Int) ≤ (n : Int) := by omega
      have k5 : 65 + (q : Int) ≤ (cap : Int) := by omega
      have k6 : 65 + q ≤ cap := by omega
      have k7 : 65 ≤ cap := by omega
      go_upto_region 12 with fail
      refine wp_region_held_drew (S := Below w.heap.size w) (by kernel_rfl) HB.out.drew (fun hS => ?_)
      refine takeS (i := 0) (v := .slice (some ⟨b, off, none⟩) n cap) rfl rfl (by kernel_rfl) (by kernel_rfl) (by kernel_rfl) (fun _ _ _ h => h) (Or.inl ⟨by rfl, fun U hU => by go_simp⟩) hS ?_
      try simp only [List.setIfInBounds_toArray, List.set_cons_zero, List.set_cons_succ]
      refine takeS (i := 1) (v := .int .i64 (q : Int)) rfl rfl (by kernel_rfl) (by kernel_rfl) (by kernel_rfl) (fun _ _ _ h => h) (Or.inl ⟨by rfl, fun U hU => by go_simp⟩) hS ?_
      try simp only [List.setIfInBounds_toArray, List.set_cons_zero, List.set_cons_succ]
      refine takeS (i := 2) (v := .int .i64 (65 + (q : Int))) rfl rfl (by kernel_rfl) (by kernel_rfl) (by kernel_rfl) (fun _ _ _ h => h) (Or.inl ⟨by rfl, fun U hU => by go_simp; exact IntWalk.i64_in _ ⟨by omega, by omega⟩⟩) hS ?_
      try simp only [List.setIfInBounds_toArray, List.set_cons_zero, List.set_cons_succ]
      refine takeS (i := 3) (v := .slice (some A1') q (cap - 65)) rfl rfl (by kernel_rfl) (by kernel_rfl) (by kernel_rfl) (fun _ _ _ h => h) (Or.inl ⟨by rfl, fun U hU => by rw [← HA1.out]; go_simp⟩) hS ?_
      try simp only [List.setIfInBounds_toArray, List.set_cons_zero, List.set_cons_succ]
      refine takeS (i := 4) (v := .string nm) rfl rfl (by kernel_rfl) (by kernel_rfl) (by kernel_rfl) (fun _ _ _ h => h) (Or.inl ⟨by rfl, fun U hU => by have cu := CV1.out U hU; go_simp⟩) hS ?_
      try simp only [List.setIfInBounds_toArray, List.set_cons_zero, List.set_cons_succ]
      refine takeS (i := 5) (v := .slice (some ⟨b, off, none⟩) n cap) rfl rfl (by kernel_rfl) (by kernel_rfl) (by kernel_rfl) (fun _ _ _ h => h) (Or.inl ⟨by rfl, fun U hU => by go_simp⟩) hS ?_
      try simp only [List.setIfInBounds_toArray, List.set_cons_zero, List.set_cons_succ]
      refine takeS (i := 6) (v := .int .i64 (q : Int)) rfl rfl (by kernel_rfl) (by kernel_rfl) (by kernel_rfl) (fun _ _ _ h => h) (Or.inl ⟨by rfl, fun U hU => by go_simp⟩) hS ?_
      try simp only [List.setIfInBounds_toArray, List.set_cons_zero, List.set_cons_succ]
      refine takeS (i := 7) (v := .int .i64 (65 + (q : Int))) rfl rfl (by kernel_rfl) (by kernel_rfl) (by kernel_rfl) (fun _ _ _ h => h) (Or.inl ⟨by rfl, fun U hU => by go_simp; exact IntWalk.i64_in _ ⟨by omega, by omega⟩⟩) hS ?_
      try simp only [List.setIfInBounds_toArray, List.set_cons_zero, List.set_cons_succ]
      refine takeS (i := 8) (v := .slice (some A2') (n - (65 + q)) (cap - (65 + q))) rfl rfl (by kernel_rfl) (by kernel_rfl) (by kernel_rfl) (fun _ _ _ h => h) (Or.inl ⟨by rfl, fun U hU => by rw [← HA2.out]; go_simp⟩) hS ?_
      try simp only [List.setIfInBounds_toArray, List.set_cons_zero, List.set_cons_succ]
      refine takeS (i := 9) (v := .string vl) rfl rfl (by kernel_rfl) (by kernel_rfl) (by kernel_rfl) (fun _ _ _ h => h) (Or.inl ⟨by rfl, fun U hU => by have cu := CV2.out U hU; go_simp⟩) hS ?_
      try simp only [List.setIfInBounds_toArray, List.set_cons_zero, List.set_cons_succ]
      refine takeS (i := 10) (v := .agg #[.string nm, .string vl]) rfl rfl (by kernel_rfl) (by kernel_rfl) (by kernel_rfl) (fun _ _ _ h => h) (Or.inl ⟨by rfl, fun U hU => by go_simp⟩) hS ?_
      try simp only [List.setIfInBounds_toArray, List.set_cons_zero, List.set_cons_succ]
      refine takeS (i := 11) (v := .pointer (some ⟨w.heap.size + 1, 64, none⟩)) rfl rfl (by kernel_rfl) (by kernel_rfl) (by kernel_rfl) (fun _ _ _ h => h) (Or.inl ⟨by rfl, fun U hU => by go_simp⟩) hS ?_
      try simp only [List.setIfInBounds_toArray, List.set_cons_zero, List.set_cons_succ]
      refine wpAnyH_ready (rs := [12]) (by kernel_rfl) (by simp) ?_
      refine AllReadyH.cons rfl (fun KQ hK => ?_) AllReadyH.nil
      rw [if_pos (by rfl)]
      refine wp_store_mid (op := ⟨none, _, _, _, _, _⟩) 31 _ _ rfl (w.heap.size + 1) 64 #[.string nm, .string vl] rfl rfl (nod_there (w := wr.drew) (o := 64) (m := 2) TL.out.1 TL.out.2 HG.out (by decide)) sizeEnt (by simp [Value.oneCell']) ?_
      simp only [Act.put]
      have G5 := Lib.hid (show (wr.drew.setCells (w.heap.size + 1) 64 [.string nm, .string vl]).heap[w.heap.size + 1]? = some (.cells (nodC L R nm vl) 45) from nod_set2 (w := wr.drew) TL.out.1 TL.out.2 HG.out)
      have X5 := Lib.hid ((heap_setCells_far (g := w.heap.size + 1) (g' := w.heap.size) (by omega) [.string nm, .string vl] 64 wr.drew).trans HX.out)
      have B5 := Lib.hid (below_setsC (g := w.heap.size + 1) (by omega) [.string nm, .string vl] 64 HB.out.drew)
      refine hK.out _ _ B5.out (fun hS => ?_)
      clear hK hS
      refine wpAnyH_done (by kernel_rfl) ?_ _
      generalize wr.drew.setCells (w.heap.size + 1) 64 (#[.string nm, .string vl] : Array Value).toList = w5 at G5 X5 B5 ⊢
      go_upto_region 13 with fail
      refine wp_region_held_drew (S := fun U => Below w.heap.size w U ∧ U.heap[w.heap.size + 1]? = some (.cells (nodC L R nm vl) 45)) (by kernel_rfl) ⟨B5.out.drew, G5.out⟩ (fun hS => ?_)
      refine takeS (i := 0) (v := .agg (nodC L R nm vl)) rfl rfl (by kernel_rfl) (by kernel_rfl) (by kernel_rfl) (fun _ _ _ h => h) (yields_rowN (by rfl) 45 _ rfl (w.heap.size + 1) rfl (nodC L R nm vl) 45 _ (fun U hU => hU.2) Try.underlying45 rfl (by rw [HSZ.out]; exact sizeNode)) hS ?_
      try simp only [List.setIfInBounds_toArray, List.set_cons_zero, List.set_cons_succ]
      refine takeS (i := 1) (v := .pointer (some ⟨w.heap.size + 1, 64, none⟩)) rfl rfl (by kernel_rfl) (by kernel_rfl) (by kernel_rfl) (fun _ _ _ h => h) (Or.inl ⟨by rfl, fun U hU => by go_simp⟩) hS ?_
      try simp only [List.setIfInBounds_toArray, List.set_cons_zero, List.set_cons_succ]
      refine wpAnyH_ready (rs := [2]) (by kernel_rfl) (by simp) ?_
      refine AllReadyH.cons rfl (fun KQ hK => ?_) AllReadyH.nil
      rw [if_pos (by rfl)]
      go_simp
      obtain ⟨g0, g1⟩ := nod_texts TL.out.1 TL.out.2 hS.2
      refine (HES.out _ g0 g1).mono ?_
      rintro e w6 ⟨rfl, rfl⟩
      refine hK.out _ _ hS (fun hS => ?_)
      clear hK g0 g1
      refine wpAnyH_ready (rs := [3]) (by kernel_rfl) (by simp) ?_
      refine AllReadyH.cons rfl (fun KQ hK => ?_) AllReadyH.nil
      rw [if_pos (by rfl)]
      refine wp_store_row (o := ⟨none, _, _, _, _, _⟩) 45 _ _ rfl _ (nodC L R nm vl) rfl rfl 45 (nodC z32 z32 ⟨#[]⟩ ⟨#[]⟩) X5.out (by rw [HSZ.out]; exact sizeNode) (by rw [HSZ.out, nodC_size _ _ z32_len z32_len]) (nodC_one _ _ _ _) ?_
      simp only [Act.put]
      have B7 := Lib.hid (Below.setRow B5.out.drew (Nat.le_refl w.heap.size) (nodC L R nm vl))
      have X7 := Lib.hid (setRow_heap _ _ (nodC z32 z32 ⟨#[]⟩ ⟨#[]⟩) (nodC L R nm vl) _ _ X5.out)
      refine hK.out _ _ ⟨B7.out, (setRow_other _ _ _ _ (by omega)).trans hS.2⟩ (fun hS => ?_)
      clear hK
      refine takeS (i := 4) (v := .bool (entB nm vl)) rfl rfl (by kernel_rfl) (by kernel_rfl) (by kernel_rfl) (fun _ _ _ h => h) (Or.inl ⟨by rfl, fun U hU => by go_simp⟩) hS ?_
      try simp only [List.setIfInBounds_toArray, List.set_cons_zero, List.set_cons_succ]
      refine wpAnyH_done (by kernel_rfl) ?_ _
      clear hS
      go_wp2_with fail
      refine bodyPost_ret (results_cell2_row rfl _ _ w.heap.size 45 (nodC L R nm vl) (0, 0) _ rfl X7.out Try.underlying45 rfl (by rw [HSZ.out]; exact sizeNode)) rfl ⟨rfl, B7.out⟩
end Go.Proofs.Ytmkddiconpacnaa
