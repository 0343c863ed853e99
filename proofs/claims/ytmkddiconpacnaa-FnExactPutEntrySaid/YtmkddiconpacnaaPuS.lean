/- PutEntry, by the specification. Written by wip/gen/put.py. -/
import Derived.Test.YtmkddiconpacnaaSel
import Derived.Test.YtmkddiconpacnaaPlc
namespace Go.Proofs.Ytmkddiconpacnaa
open Go.ChangeShapes Go.WideShapes Go.ChangeAt Go.RowKit
set_option linter.unusedVariables false
set_option linter.unusedSimpArgs false
/-- The first k entries with (nm, vl) in its place p, and how many they are. -/
def puF (p : Nat) (nm vl : ByteArray) (es : List ByteArray) : Nat → List ByteArray
  | 0 => []
  | k + 1 => (if k = p then puF p nm vl es k ++ [nm, vl] else puF p nm vl es k) ++ (if tx es (2 * k) = nm then [] else [tx es (2 * k), tx es (2 * k + 1)])
def puC (p : Nat) (nm : ByteArray) (es : List ByteArray) : Nat → Nat
  | 0 => 0
  | k + 1 => (if k = p then puC p nm es k + 1 else puC p nm es k) + (if tx es (2 * k) = nm then 0 else 1)
theorem puF_next (p : Nat) (nm vl : ByteArray) (es : List ByteArray) (k : Nat) : puF p nm vl es (k + 1) = (if k = p then puF p nm vl es k ++ [nm, vl] else puF p nm vl es k) ++ (if tx es (2 * k) = nm then [] else [tx es (2 * k), tx es (2 * k + 1)]) := rfl
theorem puC_next (p : Nat) (nm : ByteArray) (es : List ByteArray) (k : Nat) : puC p nm es (k + 1) = (if k = p then puC p nm es k + 1 else puC p nm es k) + (if tx es (2 * k) = nm then 0 else 1) := rfl
theorem puF_len (p : Nat) (nm vl : ByteArray) (es : List ByteArray) : ∀ k, (puF p nm vl es k).length = 2 * puC p nm es k
  | 0 => rfl
  | k + 1 => by
    have := puF_len p nm vl es k
    rw [puF_next, puC_next]
    split <;> split <;> simp [this] <;> omega
theorem puC_le (p : Nat) (nm : ByteArray) (es : List ByteArray) : ∀ k, puC p nm es k ≤ 2 * k
  | 0 => Nat.le_refl _
  | k + 1 => by
    have := puC_le p nm es k
    rw [puC_next]
    split <;> split <;> omega
def puA (es : List ByteArray) (n : Nat) (nm vl : ByteArray) : List ByteArray := if plc es n nm = n then puF (plc es n nm) nm vl es n ++ [nm, vl] else puF (plc es n nm) nm vl es n
def puB (es : List ByteArray) (n : Nat) (nm : ByteArray) : Nat := if plc es n nm = n then puC (plc es n nm) nm es n + 1 else puC (plc es n nm) nm es n
set_option maxRecDepth 100000 in
set_option maxHeartbeats 4000000 in
theorem put_spec (a : Option Addr) (n cap : Nat) (es : List ByteArray) (nm vl : ByteArray) (hn : n ≤ 65536) (hu : upE es n) (w : World) (hr : RdE w a n es) :
    Calls Try.prog 72 #[.slice a n cap, .agg #[.string nm, .string vl]] w fun e w' => ∃ v, e = .returned v ∧ w'.ownsRow w.heap.size 31 2 v (puB es n nm) ((puA es n nm vl).map Value.string) ∧ Below w.heap.size w w' := by
  obtain ⟨i0, z0, hi0, hz0, hz1, hz2, hzs⟩ := entParts
  have Hi := Lib.hid hi0
  clear hi0
  have HR := Lib.hid hr
  have HP := Lib.hid (fun k (hk : k < n) => plc_at hu nm hk)
  have HPN := Lib.hid (plc_le es n nm)
  have B1 := Lib.hid ((Below.refl w.heap.size w).alloc (Nat.le_refl _) (.cells #[.string nm, .string vl] 31))
  have N1 := Lib.hid (heap_alloc_last w (.cells #[.string nm, .string vl] 31))
  unfold puA puB
  clear hr hu
  generalize plc es n nm = p at HP HPN ⊢
  obtain ⟨FA, hFA⟩ : ∃ FA, FA = (if p = n then puF p nm vl es n ++ [nm, vl] else puF p nm vl es n) := ⟨_, rfl⟩
  obtain ⟨FB, hFB⟩ : ∃ FB, FB = (if p = n then puC p nm es n + 1 else puC p nm es n) := ⟨_, rfl⟩
  rw [← hFA, ← hFB]
  have HFA := Lib.hid hFA
  have HFB := Lib.hid hFB
  clear hFA hFB
  go_enter Try.func72, Try.ntmps72
  go_upto_region 1 with fail
  have HS1 := Lib.hid (show w.heap.size + 1 ≤ (w.alloc (.cells #[.string nm, .string vl] 31)).heap.size by simp)
  generalize w.alloc (.cells #[.string nm, .string vl] 31) = w1 at B1 N1 HS1 ⊢
  have LI := (Below.refl w1.heap.size w1).alloc (Nat.le_refl _) (.cells #[] 31)
  have O2 := Lib.hid (ownsE_base HS1.out (ownsE_empty w1 31 2))
  have B2 := Lib.hid (below_call B1.out B1.out.size LI)
  have N2 := Lib.hid (keep_block N1.out LI)
  clear LI
  go_wp2_with fail
  go_loopw [5, 6, 7] (fun o d i wr => ∃ k : Nat, k ≤ n ∧ i = .int .i64 k ∧ d = .bool (decide (p < k)) ∧ wr.ownsRow (w.heap.size + 1) 31 2 o (puC p nm es k) ((puF p nm vl es k).map Value.string) ∧ wr.heap[w.heap.size]? = some (.cells #[.string nm, .string vl] 31) ∧ Below w.heap.size w wr) (fun _ _ i _ => n - (intOf i).toNat)
  case atStart => exact ⟨0, by omega, rfl, by simp, O2.out, N2.out, B2.out⟩
  case round =>
    obtain ⟨k, hk, rfl, rfl, ho, hA, hb⟩ := hrel
    have HB := Lib.hid hb
    have HO := Lib.hid ho
    have HA := Lib.hid hA
    have HZ := Lib.hid (Array.getElem?_eq_some_iff.1 hA).1
    clear hb ho hA
    by_cases hlt : k < n
    · have b0 : (0 : Int) ≤ (k : Int) := by omega
      have b1 : (k : Int) < (n : Int) := by omega
      obtain ⟨b', off, rfl⟩ := HR.out.form (by omega)
      have HK : puC p nm es k ≤ 131072 := by have := puC_le p nm es k; omega
      have S1 := Lib.hid (puF_next p nm vl es k)
      have S2 := Lib.hid (puC_next p nm es k)
      have hlk := HP.out k hlt
      have CC := Lib.hid (fun U (hU : Below w.heap.size w U) => (HR.out.below hU).at hlt)
      by_cases he : tx es (2 * k) = nm
      · rw [if_pos he] at S1 S2
        rw [he] at CC hlk
        have hne : ¬ ¬ nm.toList = nm.toList := fun h => h rfl
        have hnd : lss nm nm = false := lss_irr nm
        clear he
        generalize tx es (2 * k + 1) = vk at CC S1
        by_cases hkp : k = p
        · rw [if_pos hkp] at S1 S2
          have KP := Lib.hid hkp
          rw [show decide (p < k) = false from decide_eq_false (by omega)]
          rw [show decide (k < p) = false from decide_eq_false (by omega)] at hlk
          have hge := leq_not nm nm
          rw [hlk] at hge
          have hls : Op.bytesLess nm.toList nm.toList = _ := hlk
          rw [List.append_nil] at S1
          rw [Nat.add_zero] at S2
          clear hkp
          have T1 := S1
          have T2 := S2
          clear S1 S2
          generalize puF p nm vl es k = sl at HO T1
          generalize puC p nm es k = ct at HO HK T2
          go_upto_region 6 with fail
          refine wp_region_held_drew (S := Below (wr).heap.size (wr)) (by kernel_rfl) ((Below.refl _ _).drew) (fun hS => ?_)
          refine takeS (i := 0) (v := .bool false) rfl rfl (by kernel_rfl) (by kernel_rfl) (by kernel_rfl) (fun _ _ _ h => h) (Or.inl ⟨by rfl, fun U hU => by go_simp⟩) hS ?_
          try simp only [List.setIfInBounds_toArray, List.set_cons_zero, List.set_cons_succ]
          refine takeS (i := 1) (v := .bool true) rfl rfl (by kernel_rfl) (by kernel_rfl) (by kernel_rfl) (fun _ _ _ h => h) (Or.inl ⟨by rfl, fun U hU => by go_simp⟩) hS ?_
          try simp only [List.setIfInBounds_toArray, List.set_cons_zero, List.set_cons_succ]
          refine takeS (i := 2) (v := .bool true) rfl rfl (by kernel_rfl) (by kernel_rfl) (by kernel_rfl) (fun _ _ _ h => h) (Or.inl ⟨by rfl, fun U hU => by go_simp⟩) hS ?_
          try simp only [List.setIfInBounds_toArray, List.set_cons_zero, List.set_cons_succ]
          refine takeS (i := 3) (v := .slice (some ⟨b', off, none⟩) n cap) rfl rfl (by kernel_rfl) (by kernel_rfl) (by kernel_rfl) (fun _ _ _ h => h) (Or.inl ⟨by rfl, fun U hU => by go_simp⟩) hS ?_
          try simp only [List.setIfInBounds_toArray, List.set_cons_zero, List.set_cons_succ]
          refine takeS (i := 4) (v := .int .i64 (k : Int)) rfl rfl (by kernel_rfl) (by kernel_rfl) (by kernel_rfl) (fun _ _ _ h => h) (Or.inl ⟨by rfl, fun U hU => by go_simp⟩) hS ?_
          try simp only [List.setIfInBounds_toArray, List.set_cons_zero, List.set_cons_succ]
          refine takeS (i := 5) (v := .pointer (some ⟨b', off + k * 2, none⟩)) rfl rfl (by kernel_rfl) (by kernel_rfl) (by kernel_rfl) (fun _ _ _ h => h) (Or.inl ⟨by rfl, fun U hU => by go_simp⟩) hS ?_
          try simp only [List.setIfInBounds_toArray, List.set_cons_zero, List.set_cons_succ]
          refine takeS (i := 6) (v := .pointer (some ⟨b', off + k * 2, none⟩)) rfl rfl (by kernel_rfl) (by kernel_rfl) (by kernel_rfl) (fun _ _ _ h => h) (Or.inl ⟨by rfl, fun U hU => by go_simp⟩) hS ?_
          try simp only [List.setIfInBounds_toArray, List.set_cons_zero, List.set_cons_succ]
          refine takeS (i := 7) (v := .string nm) rfl rfl (by kernel_rfl) (by kernel_rfl) (by kernel_rfl) (fun _ _ _ h => h) (Or.inl ⟨by rfl, fun U hU => by obtain ⟨c0, c1⟩ := CC.out U (HB.out.trans (hU.mono HB.out.size)); go_simp⟩) hS ?_
          try simp only [List.setIfInBounds_toArray, List.set_cons_zero, List.set_cons_succ]
          refine takeS (i := 8) (v := .pointer (some ⟨w.heap.size, 0, none⟩)) rfl rfl (by kernel_rfl) (by kernel_rfl) (by kernel_rfl) (fun _ _ _ h => h) (Or.inl ⟨by rfl, fun U hU => by go_simp⟩) hS ?_
          try simp only [List.setIfInBounds_toArray, List.set_cons_zero, List.set_cons_succ]
          refine takeS (i := 9) (v := .string nm) rfl rfl (by kernel_rfl) (by kernel_rfl) (by kernel_rfl) (fun _ _ _ h => h) (Or.inl ⟨by rfl, fun U hU => by have q0 := cell_of_row _ w.heap.size 0 _ _ _ (keep_block HA.out hU); go_simp⟩) hS ?_
          try simp only [List.setIfInBounds_toArray, List.set_cons_zero, List.set_cons_succ]
          refine takeS (i := 10) (v := .bool true) rfl rfl (by kernel_rfl) (by kernel_rfl) (by kernel_rfl) (fun _ _ _ h => h) (Or.inl ⟨by rfl, fun U hU => by go_simp⟩) hS ?_
          try simp only [List.setIfInBounds_toArray, List.set_cons_zero, List.set_cons_succ]
          refine takeS (i := 11) (v := .bool true) rfl rfl (by kernel_rfl) (by kernel_rfl) (by kernel_rfl) (fun _ _ _ h => h) (Or.inl ⟨by rfl, fun U hU => by go_simp⟩) hS ?_
          try simp only [List.setIfInBounds_toArray, List.set_cons_zero, List.set_cons_succ]
          refine wpAnyH_done (by kernel_rfl) ?_ _
          have O6 := Lib.hid (owns_below HO.out hS)
          have B6 := Lib.hid (below_call HB.out HB.out.size hS)
          have A6 := Lib.hid (keep_block HA.out hS)
          clear hS
          generalize wr.drew = w6 at O6 B6 A6 ⊢
          go_upto_region 7 with fail
          have LI := (Below.refl w6.heap.size w6).alloc (Nat.le_refl _) (.cells #[.string nm, .string vl] 31)
          have O3 := Lib.hid (owns_below O6.out LI)
          have B3 := Lib.hid (below_call B6.out B6.out.size LI)
          have A3 := Lib.hid (keep_block A6.out LI)
          have Z3 := Lib.hid (Array.getElem?_eq_some_iff.1 A3.out).1
          clear LI
          have q0 := cell_of_row _ w.heap.size 0 _ _ _ A6.out
          have q1 := cell_of_row _ w.heap.size 1 _ _ _ A6.out
          go_wp2_with (first | (refine buildE rfl 27 31 _ rfl Try.underlying27 Hi.out hz0 #[.string nm, .string vl] rfl (by rw [hz1]; rfl) (by rw [hz1]; decide) (by rw [hz1]; decide) ?_) | (at_builtin; refine wpList_append_own _ rfl _ _ 27 rfl (w.heap.size + 1) 31 i0 z0 2 32 Try.underlying27 Hi.out hz0 hz1 hz2 hzs (by decide) _ ct _ rfl O3.out ⟨w6.heap.size, 0, none⟩ 1 1 [.string nm, .string vl] rfl rfl ?q1c1 ?q1c2 ?q1c3 ?q1c4 ?q1c5 ?_))
          try case q1c1 =>
            intro p u hu
            rw [addrE, Nat.zero_add, cell_of_row _ w6.heap.size p _ _ _ (heap_alloc_last w6 (.cells #[.string nm, .string vl] 31)), ← hu]
            simp
          try case q1c2 =>
            first
            | exact ⟨rfl, rfl⟩
            | (intro u hu
               rcases List.mem_cons.1 hu with rfl | hu
               · rfl
               · rcases List.mem_cons.1 hu with rfl | hu
                 · rfl
                 · cases hu)
          try case q1c3 => unfold maxLen; omega
          try case q1c4 => omega
          try case q1c5 => first | exact Z3.out | exact B6.out.size | (have := B6.out.size; simp; omega)
          intro v4 w7 hown4 hgrow4 hnil4
          have O7 := Lib.hid hown4
          have B7 := Lib.hid (B3.out.grown hgrow4 B3.out.size (fun g e => by have := (O3.out.lt g e).1; omega))
          have A7 := Lib.hid ((hgrow4.block w.heap.size Z3.out (fun e => by have := (O3.out.lt _ e.symm).1; omega)).trans A3.out)
          clear hown4 hgrow4 hnil4 O3 B3 A3 Z3
          go_upto_region 9 with fail
          refine wp_region_held_drew (S := Below (w7).heap.size (w7)) (by kernel_rfl) ((Below.refl _ _).drew) (fun hS => ?_)
          refine takeS (i := 0) (v := .slice (some ⟨b', off, none⟩) n cap) rfl rfl (by kernel_rfl) (by kernel_rfl) (by kernel_rfl) (fun _ _ _ h => h) (Or.inl ⟨by rfl, fun U hU => by go_simp⟩) hS ?_
          try simp only [List.setIfInBounds_toArray, List.set_cons_zero, List.set_cons_succ]
          refine takeS (i := 1) (v := .int .i64 (k : Int)) rfl rfl (by kernel_rfl) (by kernel_rfl) (by kernel_rfl) (fun _ _ _ h => h) (Or.inl ⟨by rfl, fun U hU => by go_simp⟩) hS ?_
          try simp only [List.setIfInBounds_toArray, List.set_cons_zero, List.set_cons_succ]
          refine takeS (i := 2) (v := .pointer (some ⟨b', off + k * 2, none⟩)) rfl rfl (by kernel_rfl) (by kernel_rfl) (by kernel_rfl) (fun _ _ _ h => h) (Or.inl ⟨by rfl, fun U hU => by go_simp⟩) hS ?_
          try simp only [List.setIfInBounds_toArray, List.set_cons_zero, List.set_cons_succ]
          refine takeS (i := 3) (v := .pointer (some ⟨b', off + k * 2, none⟩)) rfl rfl (by kernel_rfl) (by kernel_rfl) (by kernel_rfl) (fun _ _ _ h => h) (Or.inl ⟨by rfl, fun U hU => by go_simp⟩) hS ?_
          try simp only [List.setIfInBounds_toArray, List.set_cons_zero, List.set_cons_succ]
          refine takeS (i := 4) (v := .string nm) rfl rfl (by kernel_rfl) (by kernel_rfl) (by kernel_rfl) (fun _ _ _ h => h) (Or.inl ⟨by rfl, fun U hU => by obtain ⟨c0, c1⟩ := CC.out U (B7.out.trans (hU.mono B7.out.size)); go_simp⟩) hS ?_
          try simp only [List.setIfInBounds_toArray, List.set_cons_zero, List.set_cons_succ]
          refine takeS (i := 5) (v := .pointer (some ⟨w.heap.size, 0, none⟩)) rfl rfl (by kernel_rfl) (by kernel_rfl) (by kernel_rfl) (fun _ _ _ h => h) (Or.inl ⟨by rfl, fun U hU => by go_simp⟩) hS ?_
          try simp only [List.setIfInBounds_toArray, List.set_cons_zero, List.set_cons_succ]
          refine takeS (i := 6) (v := .string nm) rfl rfl (by kernel_rfl) (by kernel_rfl) (by kernel_rfl) (fun _ _ _ h => h) (Or.inl ⟨by rfl, fun U hU => by have q0 := cell_of_row _ w.heap.size 0 _ _ _ (keep_block A7.out hU); go_simp⟩) hS ?_
          try simp only [List.setIfInBounds_toArray, List.set_cons_zero, List.set_cons_succ]
          refine takeS (i := 7) (v := .bool false) rfl rfl (by kernel_rfl) (by kernel_rfl) (by kernel_rfl) (fun _ _ _ h => h) (Or.inl ⟨by rfl, fun U hU => by go_simp⟩) hS ?_
          try simp only [List.setIfInBounds_toArray, List.set_cons_zero, List.set_cons_succ]
          refine wpAnyH_done (by kernel_rfl) ?_ _
          have O8 := Lib.hid (owns_below O7.out hS)
          have B8 := Lib.hid (below_call B7.out B7.out.size hS)
          have A8 := Lib.hid (keep_block A7.out hS)
          clear hS
          generalize w7.drew = w8 at O8 B8 A8 ⊢
          go_wp2_with fail
          go_roundw
          case rel => exact ⟨k + 1, by omega, by go_num, by have := KP.out; simp; omega, by rw [T1.out, T2.out]; first | exact O8.out | (rw [List.map_append]; exact O8.out) | (rw [List.map_append, List.map_append]; exact O8.out) | (rw [List.map_append, List.map_append, List.append_assoc]; exact O8.out), A8.out, B8.out⟩
          case measure => simp [intOf]; omega
        · have hgt : p < k := by
            rw [hnd] at hlk
            have := of_decide_eq_false hlk.symm
            omega
          rw [if_neg hkp] at S1 S2
          rw [show decide (p < k) = true from decide_eq_true (by omega)]
          rw [List.append_nil] at S1
          rw [Nat.add_zero] at S2
          have KP := Lib.hid hgt
          have T1 := S1
          have T2 := S2
          clear S1 S2
          generalize puF p nm vl es k = sl at HO T1
          generalize puC p nm es k = ct at HO HK T2
          go_upto_region 6 with fail
          refine wp_region_held_drew (S := Below (wr).heap.size (wr)) (by kernel_rfl) ((Below.refl _ _).drew) (fun hS => ?_)
          refine takeS (i := 0) (v := .bool true) rfl rfl (by kernel_rfl) (by kernel_rfl) (by kernel_rfl) (fun _ _ _ h => h) (Or.inl ⟨by rfl, fun U hU => by go_simp⟩) hS ?_
          try simp only [List.setIfInBounds_toArray, List.set_cons_zero, List.set_cons_succ]
          refine takeS (i := 1) (v := .bool false) rfl rfl (by kernel_rfl) (by kernel_rfl) (by kernel_rfl) (fun _ _ _ h => h) (Or.inl ⟨by rfl, fun U hU => by go_simp⟩) hS ?_
          try simp only [List.setIfInBounds_toArray, List.set_cons_zero, List.set_cons_succ]
          refine takeS (i := 2) (v := .bool false) rfl rfl (by kernel_rfl) (by kernel_rfl) (by kernel_rfl) (fun _ _ _ h => h) (Or.inl ⟨by rfl, fun U hU => by go_simp⟩) hS ?_
          try simp only [List.setIfInBounds_toArray, List.set_cons_zero, List.set_cons_succ]
          refine takeS (i := 3) (v := undef) rfl rfl (by kernel_rfl) (by kernel_rfl) (by kernel_rfl) (fun _ _ _ h => h) (Or.inr ⟨by rfl, rfl⟩) hS ?_
          try simp only [List.setIfInBounds_toArray, List.set_cons_zero, List.set_cons_succ]
          refine takeS (i := 4) (v := undef) rfl rfl (by kernel_rfl) (by kernel_rfl) (by kernel_rfl) (fun _ _ _ h => h) (Or.inr ⟨by rfl, rfl⟩) hS ?_
          try simp only [List.setIfInBounds_toArray, List.set_cons_zero, List.set_cons_succ]
          refine takeS (i := 5) (v := undef) rfl rfl (by kernel_rfl) (by kernel_rfl) (by kernel_rfl) (fun _ _ _ h => h) (Or.inr ⟨by rfl, rfl⟩) hS ?_
          try simp only [List.setIfInBounds_toArray, List.set_cons_zero, List.set_cons_succ]
          refine takeS (i := 6) (v := undef) rfl rfl (by kernel_rfl) (by kernel_rfl) (by kernel_rfl) (fun _ _ _ h => h) (Or.inr ⟨by rfl, rfl⟩) hS ?_
          try simp only [List.setIfInBounds_toArray, List.set_cons_zero, List.set_cons_succ]
          refine takeS (i := 7) (v := undef) rfl rfl (by kernel_rfl) (by kernel_rfl) (by kernel_rfl) (fun _ _ _ h => h) (Or.inr ⟨by rfl, rfl⟩) hS ?_
          try simp only [List.setIfInBounds_toArray, List.set_cons_zero, List.set_cons_succ]
          refine takeS (i := 8) (v := undef) rfl rfl (by kernel_rfl) (by kernel_rfl) (by kernel_rfl) (fun _ _ _ h => h) (Or.inr ⟨by rfl, rfl⟩) hS ?_
          try simp only [List.setIfInBounds_toArray, List.set_cons_zero, List.set_cons_succ]
          refine takeS (i := 9) (v := undef) rfl rfl (by kernel_rfl) (by kernel_rfl) (by kernel_rfl) (fun _ _ _ h => h) (Or.inr ⟨by rfl, rfl⟩) hS ?_
          try simp only [List.setIfInBounds_toArray, List.set_cons_zero, List.set_cons_succ]
          refine takeS (i := 10) (v := undef) rfl rfl (by kernel_rfl) (by kernel_rfl) (by kernel_rfl) (fun _ _ _ h => h) (Or.inr ⟨by rfl, rfl⟩) hS ?_
          try simp only [List.setIfInBounds_toArray, List.set_cons_zero, List.set_cons_succ]
          refine takeS (i := 11) (v := .bool false) rfl rfl (by kernel_rfl) (by kernel_rfl) (by kernel_rfl) (fun _ _ _ h => h) (Or.inl ⟨by rfl, fun U hU => by go_simp⟩) hS ?_
          try simp only [List.setIfInBounds_toArray, List.set_cons_zero, List.set_cons_succ]
          refine wpAnyH_done (by kernel_rfl) ?_ _
          have O6 := Lib.hid (owns_below HO.out hS)
          have B6 := Lib.hid (below_call HB.out HB.out.size hS)
          have A6 := Lib.hid (keep_block HA.out hS)
          clear hS
          generalize wr.drew = w6 at O6 B6 A6 ⊢
          go_upto_region 9 with fail
          refine wp_region_held_drew (S := Below (w6).heap.size (w6)) (by kernel_rfl) ((Below.refl _ _).drew) (fun hS => ?_)
          refine takeS (i := 0) (v := .slice (some ⟨b', off, none⟩) n cap) rfl rfl (by kernel_rfl) (by kernel_rfl) (by kernel_rfl) (fun _ _ _ h => h) (Or.inl ⟨by rfl, fun U hU => by go_simp⟩) hS ?_
          try simp only [List.setIfInBounds_toArray, List.set_cons_zero, List.set_cons_succ]
          refine takeS (i := 1) (v := .int .i64 (k : Int)) rfl rfl (by kernel_rfl) (by kernel_rfl) (by kernel_rfl) (fun _ _ _ h => h) (Or.inl ⟨by rfl, fun U hU => by go_simp⟩) hS ?_
          try simp only [List.setIfInBounds_toArray, List.set_cons_zero, List.set_cons_succ]
          refine takeS (i := 2) (v := .pointer (some ⟨b', off + k * 2, none⟩)) rfl rfl (by kernel_rfl) (by kernel_rfl) (by kernel_rfl) (fun _ _ _ h => h) (Or.inl ⟨by rfl, fun U hU => by go_simp⟩) hS ?_
          try simp only [List.setIfInBounds_toArray, List.set_cons_zero, List.set_cons_succ]
          refine takeS (i := 3) (v := .pointer (some ⟨b', off + k * 2, none⟩)) rfl rfl (by kernel_rfl) (by kernel_rfl) (by kernel_rfl) (fun _ _ _ h => h) (Or.inl ⟨by rfl, fun U hU => by go_simp⟩) hS ?_
          try simp only [List.setIfInBounds_toArray, List.set_cons_zero, List.set_cons_succ]
          refine takeS (i := 4) (v := .string nm) rfl rfl (by kernel_rfl) (by kernel_rfl) (by kernel_rfl) (fun _ _ _ h => h) (Or.inl ⟨by rfl, fun U hU => by obtain ⟨c0, c1⟩ := CC.out U (B6.out.trans (hU.mono B6.out.size)); go_simp⟩) hS ?_
          try simp only [List.setIfInBounds_toArray, List.set_cons_zero, List.set_cons_succ]
          refine takeS (i := 5) (v := .pointer (some ⟨w.heap.size, 0, none⟩)) rfl rfl (by kernel_rfl) (by kernel_rfl) (by kernel_rfl) (fun _ _ _ h => h) (Or.inl ⟨by rfl, fun U hU => by go_simp⟩) hS ?_
          try simp only [List.setIfInBounds_toArray, List.set_cons_zero, List.set_cons_succ]
          refine takeS (i := 6) (v := .string nm) rfl rfl (by kernel_rfl) (by kernel_rfl) (by kernel_rfl) (fun _ _ _ h => h) (Or.inl ⟨by rfl, fun U hU => by have q0 := cell_of_row _ w.heap.size 0 _ _ _ (keep_block A6.out hU); go_simp⟩) hS ?_
          try simp only [List.setIfInBounds_toArray, List.set_cons_zero, List.set_cons_succ]
          refine takeS (i := 7) (v := .bool false) rfl rfl (by kernel_rfl) (by kernel_rfl) (by kernel_rfl) (fun _ _ _ h => h) (Or.inl ⟨by rfl, fun U hU => by go_simp⟩) hS ?_
          try simp only [List.setIfInBounds_toArray, List.set_cons_zero, List.set_cons_succ]
          refine wpAnyH_done (by kernel_rfl) ?_ _
          have O8 := Lib.hid (owns_below O6.out hS)
          have B8 := Lib.hid (below_call B6.out B6.out.size hS)
          have A8 := Lib.hid (keep_block A6.out hS)
          clear hS
          generalize w6.drew = w8 at O8 B8 A8 ⊢
          go_wp2_with fail
          go_roundw
          case rel => exact ⟨k + 1, by omega, by go_num, by have := KP.out; simp; omega, by rw [T1.out, T2.out]; first | exact O8.out | (rw [List.map_append]; exact O8.out) | (rw [List.map_append, List.map_append]; exact O8.out) | (rw [List.map_append, List.map_append, List.append_assoc]; exact O8.out), A8.out, B8.out⟩
          case measure => simp [intOf]; omega
      · rw [if_neg he] at S1 S2
        have hne : ¬ (tx es (2 * k)).toList = nm.toList := fun h => he (toList_inj h)
        clear he
        generalize tx es (2 * k) = nk at CC S1 hlk hne
        generalize tx es (2 * k + 1) = vk at CC S1
        by_cases hkp : k = p
        · rw [if_pos hkp] at S1 S2
          have KP := Lib.hid hkp
          rw [show decide (p < k) = false from decide_eq_false (by omega)]
          rw [show decide (k < p) = false from decide_eq_false (by omega)] at hlk
          have hge := leq_not nk nm
          rw [hlk] at hge
          have hls : Op.bytesLess nk.toList nm.toList = _ := hlk
          clear hkp
          have T1 := S1
          have T2 := S2
          clear S1 S2
          generalize puF p nm vl es k = sl at HO T1
          generalize puC p nm es k = ct at HO HK T2
          go_upto_region 6 with fail
          refine wp_region_held_drew (S := Below (wr).heap.size (wr)) (by kernel_rfl) ((Below.refl _ _).drew) (fun hS => ?_)
          refine takeS (i := 0) (v := .bool false) rfl rfl (by kernel_rfl) (by kernel_rfl) (by kernel_rfl) (fun _ _ _ h => h) (Or.inl ⟨by rfl, fun U hU => by go_simp⟩) hS ?_
          try simp only [List.setIfInBounds_toArray, List.set_cons_zero, List.set_cons_succ]
          refine takeS (i := 1) (v := .bool true) rfl rfl (by kernel_rfl) (by kernel_rfl) (by kernel_rfl) (fun _ _ _ h => h) (Or.inl ⟨by rfl, fun U hU => by go_simp⟩) hS ?_
          try simp only [List.setIfInBounds_toArray, List.set_cons_zero, List.set_cons_succ]
          refine takeS (i := 2) (v := .bool true) rfl rfl (by kernel_rfl) (by kernel_rfl) (by kernel_rfl) (fun _ _ _ h => h) (Or.inl ⟨by rfl, fun U hU => by go_simp⟩) hS ?_
          try simp only [List.setIfInBounds_toArray, List.set_cons_zero, List.set_cons_succ]
          refine takeS (i := 3) (v := .slice (some ⟨b', off, none⟩) n cap) rfl rfl (by kernel_rfl) (by kernel_rfl) (by kernel_rfl) (fun _ _ _ h => h) (Or.inl ⟨by rfl, fun U hU => by go_simp⟩) hS ?_
          try simp only [List.setIfInBounds_toArray, List.set_cons_zero, List.set_cons_succ]
          refine takeS (i := 4) (v := .int .i64 (k : Int)) rfl rfl (by kernel_rfl) (by kernel_rfl) (by kernel_rfl) (fun _ _ _ h => h) (Or.inl ⟨by rfl, fun U hU => by go_simp⟩) hS ?_
          try simp only [List.setIfInBounds_toArray, List.set_cons_zero, List.set_cons_succ]
          refine takeS (i := 5) (v := .pointer (some ⟨b', off + k * 2, none⟩)) rfl rfl (by kernel_rfl) (by kernel_rfl) (by kernel_rfl) (fun _ _ _ h => h) (Or.inl ⟨by rfl, fun U hU => by go_simp⟩) hS ?_
          try simp only [List.setIfInBounds_toArray, List.set_cons_zero, List.set_cons_succ]
          refine takeS (i := 6) (v := .pointer (some ⟨b', off + k * 2, none⟩)) rfl rfl (by kernel_rfl) (by kernel_rfl) (by kernel_rfl) (fun _ _ _ h => h) (Or.inl ⟨by rfl, fun U hU => by go_simp⟩) hS ?_
          try simp only [List.setIfInBounds_toArray, List.set_cons_zero, List.set_cons_succ]
          refine takeS (i := 7) (v := .string nk) rfl rfl (by kernel_rfl) (by kernel_rfl) (by kernel_rfl) (fun _ _ _ h => h) (Or.inl ⟨by rfl, fun U hU => by obtain ⟨c0, c1⟩ := CC.out U (HB.out.trans (hU.mono HB.out.size)); go_simp⟩) hS ?_
          try simp only [List.setIfInBounds_toArray, List.set_cons_zero, List.set_cons_succ]
          refine takeS (i := 8) (v := .pointer (some ⟨w.heap.size, 0, none⟩)) rfl rfl (by kernel_rfl) (by kernel_rfl) (by kernel_rfl) (fun _ _ _ h => h) (Or.inl ⟨by rfl, fun U hU => by go_simp⟩) hS ?_
          try simp only [List.setIfInBounds_toArray, List.set_cons_zero, List.set_cons_succ]
          refine takeS (i := 9) (v := .string nm) rfl rfl (by kernel_rfl) (by kernel_rfl) (by kernel_rfl) (fun _ _ _ h => h) (Or.inl ⟨by rfl, fun U hU => by have q0 := cell_of_row _ w.heap.size 0 _ _ _ (keep_block HA.out hU); go_simp⟩) hS ?_
          try simp only [List.setIfInBounds_toArray, List.set_cons_zero, List.set_cons_succ]
          refine takeS (i := 10) (v := .bool true) rfl rfl (by kernel_rfl) (by kernel_rfl) (by kernel_rfl) (fun _ _ _ h => h) (Or.inl ⟨by rfl, fun U hU => by go_simp⟩) hS ?_
          try simp only [List.setIfInBounds_toArray, List.set_cons_zero, List.set_cons_succ]
          refine takeS (i := 11) (v := .bool true) rfl rfl (by kernel_rfl) (by kernel_rfl) (by kernel_rfl) (fun _ _ _ h => h) (Or.inl ⟨by rfl, fun U hU => by go_simp⟩) hS ?_
          try simp only [List.setIfInBounds_toArray, List.set_cons_zero, List.set_cons_succ]
          refine wpAnyH_done (by kernel_rfl) ?_ _
          have O6 := Lib.hid (owns_below HO.out hS)
          have B6 := Lib.hid (below_call HB.out HB.out.size hS)
          have A6 := Lib.hid (keep_block HA.out hS)
          clear hS
          generalize wr.drew = w6 at O6 B6 A6 ⊢
          go_upto_region 7 with fail
          have LI := (Below.refl w6.heap.size w6).alloc (Nat.le_refl _) (.cells #[.string nm, .string vl] 31)
          have O3 := Lib.hid (owns_below O6.out LI)
          have B3 := Lib.hid (below_call B6.out B6.out.size LI)
          have A3 := Lib.hid (keep_block A6.out LI)
          have Z3 := Lib.hid (Array.getElem?_eq_some_iff.1 A3.out).1
          clear LI
          have q0 := cell_of_row _ w.heap.size 0 _ _ _ A6.out
          have q1 := cell_of_row _ w.heap.size 1 _ _ _ A6.out
          go_wp2_with (first | (refine buildE rfl 27 31 _ rfl Try.underlying27 Hi.out hz0 #[.string nm, .string vl] rfl (by rw [hz1]; rfl) (by rw [hz1]; decide) (by rw [hz1]; decide) ?_) | (at_builtin; refine wpList_append_own _ rfl _ _ 27 rfl (w.heap.size + 1) 31 i0 z0 2 32 Try.underlying27 Hi.out hz0 hz1 hz2 hzs (by decide) _ ct _ rfl O3.out ⟨w6.heap.size, 0, none⟩ 1 1 [.string nm, .string vl] rfl rfl ?q2c1 ?q2c2 ?q2c3 ?q2c4 ?q2c5 ?_))
          try case q2c1 =>
            intro p u hu
            rw [addrE, Nat.zero_add, cell_of_row _ w6.heap.size p _ _ _ (heap_alloc_last w6 (.cells #[.string nm, .string vl] 31)), ← hu]
            simp
          try case q2c2 =>
            first
            | exact ⟨rfl, rfl⟩
            | (intro u hu
               rcases List.mem_cons.1 hu with rfl | hu
               · rfl
               · rcases List.mem_cons.1 hu with rfl | hu
                 · rfl
                 · cases hu)
          try case q2c3 => unfold maxLen; omega
          try case q2c4 => omega
          try case q2c5 => first | exact Z3.out | exact B6.out.size | (have := B6.out.size; simp; omega)
          intro v4 w7 hown4 hgrow4 hnil4
          have O7 := Lib.hid hown4
          have B7 := Lib.hid (B3.out.grown hgrow4 B3.out.size (fun g e => by have := (O3.out.lt g e).1; omega))
          have A7 := Lib.hid ((hgrow4.block w.heap.size Z3.out (fun e => by have := (O3.out.lt _ e.symm).1; omega)).trans A3.out)
          clear hown4 hgrow4 hnil4 O3 B3 A3 Z3
          go_upto_region 9 with fail
          refine wp_region_held_drew (S := Below (w7).heap.size (w7)) (by kernel_rfl) ((Below.refl _ _).drew) (fun hS => ?_)
          refine takeS (i := 0) (v := .slice (some ⟨b', off, none⟩) n cap) rfl rfl (by kernel_rfl) (by kernel_rfl) (by kernel_rfl) (fun _ _ _ h => h) (Or.inl ⟨by rfl, fun U hU => by go_simp⟩) hS ?_
          try simp only [List.setIfInBounds_toArray, List.set_cons_zero, List.set_cons_succ]
          refine takeS (i := 1) (v := .int .i64 (k : Int)) rfl rfl (by kernel_rfl) (by kernel_rfl) (by kernel_rfl) (fun _ _ _ h => h) (Or.inl ⟨by rfl, fun U hU => by go_simp⟩) hS ?_
          try simp only [List.setIfInBounds_toArray, List.set_cons_zero, List.set_cons_succ]
          refine takeS (i := 2) (v := .pointer (some ⟨b', off + k * 2, none⟩)) rfl rfl (by kernel_rfl) (by kernel_rfl) (by kernel_rfl) (fun _ _ _ h => h) (Or.inl ⟨by rfl, fun U hU => by go_simp⟩) hS ?_
          try simp only [List.setIfInBounds_toArray, List.set_cons_zero, List.set_cons_succ]
          refine takeS (i := 3) (v := .pointer (some ⟨b', off + k * 2, none⟩)) rfl rfl (by kernel_rfl) (by kernel_rfl) (by kernel_rfl) (fun _ _ _ h => h) (Or.inl ⟨by rfl, fun U hU => by go_simp⟩) hS ?_
          try simp only [List.setIfInBounds_toArray, List.set_cons_zero, List.set_cons_succ]
          refine takeS (i := 4) (v := .string nk) rfl rfl (by kernel_rfl) (by kernel_rfl) (by kernel_rfl) (fun _ _ _ h => h) (Or.inl ⟨by rfl, fun U hU => by obtain ⟨c0, c1⟩ := CC.out U (B7.out.trans (hU.mono B7.out.size)); go_simp⟩) hS ?_
          try simp only [List.setIfInBounds_toArray, List.set_cons_zero, List.set_cons_succ]
          refine takeS (i := 5) (v := .pointer (some ⟨w.heap.size, 0, none⟩)) rfl rfl (by kernel_rfl) (by kernel_rfl) (by kernel_rfl) (fun _ _ _ h => h) (Or.inl ⟨by rfl, fun U hU => by go_simp⟩) hS ?_
          try simp only [List.setIfInBounds_toArray, List.set_cons_zero, List.set_cons_succ]
          refine takeS (i := 6) (v := .string nm) rfl rfl (by kernel_rfl) (by kernel_rfl) (by kernel_rfl) (fun _ _ _ h => h) (Or.inl ⟨by rfl, fun U hU => by have q0 := cell_of_row _ w.heap.size 0 _ _ _ (keep_block A7.out hU); go_simp⟩) hS ?_
          try simp only [List.setIfInBounds_toArray, List.set_cons_zero, List.set_cons_succ]
          refine takeS (i := 7) (v := .bool true) rfl rfl (by kernel_rfl) (by kernel_rfl) (by kernel_rfl) (fun _ _ _ h => h) (Or.inl ⟨by rfl, fun U hU => by go_simp⟩) hS ?_
          try simp only [List.setIfInBounds_toArray, List.set_cons_zero, List.set_cons_succ]
          refine wpAnyH_done (by kernel_rfl) ?_ _
          have O8 := Lib.hid (owns_below O7.out hS)
          have B8 := Lib.hid (below_call B7.out B7.out.size hS)
          have A8 := Lib.hid (keep_block A7.out hS)
          clear hS
          generalize w7.drew = w8 at O8 B8 A8 ⊢
          obtain ⟨c0, c1⟩ := CC.out _ B8.out
          have LI := (Below.refl w8.heap.size w8).alloc (Nat.le_refl _) (.cells #[.string nk, .string vk] 31)
          have O3 := Lib.hid (owns_below O8.out LI)
          have B3 := Lib.hid (below_call B8.out B8.out.size LI)
          have A3 := Lib.hid (keep_block A8.out LI)
          have Z3 := Lib.hid (Array.getElem?_eq_some_iff.1 A3.out).1
          clear LI
          go_wp2_with (first | (refine buildE rfl 27 31 _ rfl Try.underlying27 Hi.out hz0 #[.string nk, .string vk] rfl (by rw [hz1]; rfl) (by rw [hz1]; decide) (by rw [hz1]; decide) ?_) | (at_builtin; refine wpList_append_own _ rfl _ _ 27 rfl (w.heap.size + 1) 31 i0 z0 2 32 Try.underlying27 Hi.out hz0 hz1 hz2 hzs (by decide) _ (ct + 1) _ rfl O3.out ⟨w8.heap.size, 0, none⟩ 1 1 [.string nk, .string vk] rfl rfl ?q3c1 ?q3c2 ?q3c3 ?q3c4 ?q3c5 ?_))
          try case q3c1 =>
            intro p u hu
            rw [addrE, Nat.zero_add, cell_of_row _ w8.heap.size p _ _ _ (heap_alloc_last w8 (.cells #[.string nk, .string vk] 31)), ← hu]
            simp
          try case q3c2 =>
            first
            | exact ⟨rfl, rfl⟩
            | (intro u hu
               rcases List.mem_cons.1 hu with rfl | hu
               · rfl
               · rcases List.mem_cons.1 hu with rfl | hu
                 · rfl
                 · cases hu)
          try case q3c3 => unfold maxLen; omega
          try case q3c4 => omega
          try case q3c5 => first | exact Z3.out | exact B8.out.size | (have := B8.out.size; simp; omega)
          intro v4 w9 hown4 hgrow4 hnil4
          have O9 := Lib.hid hown4
          have B9 := Lib.hid (B3.out.grown hgrow4 B3.out.size (fun g e => by have := (O3.out.lt g e).1; omega))
          have A9 := Lib.hid ((hgrow4.block w.heap.size Z3.out (fun e => by have := (O3.out.lt _ e.symm).1; omega)).trans A3.out)
          clear hown4 hgrow4 hnil4 O3 B3 A3 Z3
          go_wp2_with fail
          go_roundw
          case rel => exact ⟨k + 1, by omega, by go_num, by have := KP.out; simp; omega, by rw [T1.out, T2.out]; first | exact O9.out | (rw [List.map_append]; exact O9.out) | (rw [List.map_append, List.map_append]; exact O9.out) | (rw [List.map_append, List.map_append, List.append_assoc]; exact O9.out), A9.out, B9.out⟩
          case measure => simp [intOf]; omega
        · by_cases hgt : p < k
          · rw [if_neg hkp] at S1 S2
            rw [show decide (p < k) = true from decide_eq_true (by omega)]
            have KP := Lib.hid hgt
            have T1 := S1
            have T2 := S2
            clear S1 S2
            generalize puF p nm vl es k = sl at HO T1
            generalize puC p nm es k = ct at HO HK T2
            go_upto_region 6 with fail
            refine wp_region_held_drew (S := Below (wr).heap.size (wr)) (by kernel_rfl) ((Below.refl _ _).drew) (fun hS => ?_)
            refine takeS (i := 0) (v := .bool true) rfl rfl (by kernel_rfl) (by kernel_rfl) (by kernel_rfl) (fun _ _ _ h => h) (Or.inl ⟨by rfl, fun U hU => by go_simp⟩) hS ?_
            try simp only [List.setIfInBounds_toArray, List.set_cons_zero, List.set_cons_succ]
            refine takeS (i := 1) (v := .bool false) rfl rfl (by kernel_rfl) (by kernel_rfl) (by kernel_rfl) (fun _ _ _ h => h) (Or.inl ⟨by rfl, fun U hU => by go_simp⟩) hS ?_
            try simp only [List.setIfInBounds_toArray, List.set_cons_zero, List.set_cons_succ]
            refine takeS (i := 2) (v := .bool false) rfl rfl (by kernel_rfl) (by kernel_rfl) (by kernel_rfl) (fun _ _ _ h => h) (Or.inl ⟨by rfl, fun U hU => by go_simp⟩) hS ?_
            try simp only [List.setIfInBounds_toArray, List.set_cons_zero, List.set_cons_succ]
            refine takeS (i := 3) (v := undef) rfl rfl (by kernel_rfl) (by kernel_rfl) (by kernel_rfl) (fun _ _ _ h => h) (Or.inr ⟨by rfl, rfl⟩) hS ?_
            try simp only [List.setIfInBounds_toArray, List.set_cons_zero, List.set_cons_succ]
            refine takeS (i := 4) (v := undef) rfl rfl (by kernel_rfl) (by kernel_rfl) (by kernel_rfl) (fun _ _ _ h => h) (Or.inr ⟨by rfl, rfl⟩) hS ?_
            try simp only [List.setIfInBounds_toArray, List.set_cons_zero, List.set_cons_succ]
            refine takeS (i := 5) (v := undef) rfl rfl (by kernel_rfl) (by kernel_rfl) (by kernel_rfl) (fun _ _ _ h => h) (Or.inr ⟨by rfl, rfl⟩) hS ?_
            try simp only [List.setIfInBounds_toArray, List.set_cons_zero, List.set_cons_succ]
            refine takeS (i := 6) (v := undef) rfl rfl (by kernel_rfl) (by kernel_rfl) (by kernel_rfl) (fun _ _ _ h => h) (Or.inr ⟨by rfl, rfl⟩) hS ?_
            try simp only [List.setIfInBounds_toArray, List.set_cons_zero, List.set_cons_succ]
            refine takeS (i := 7) (v := undef) rfl rfl (by kernel_rfl) (by kernel_rfl) (by kernel_rfl) (fun _ _ _ h => h) (Or.inr ⟨by rfl, rfl⟩) hS ?_
            try simp only [List.setIfInBounds_toArray, List.set_cons_zero, List.set_cons_succ]
            refine takeS (i := 8) (v := undef) rfl rfl (by kernel_rfl) (by kernel_rfl) (by kernel_rfl) (fun _ _ _ h => h) (Or.inr ⟨by rfl, rfl⟩) hS ?_
            try simp only [List.setIfInBounds_toArray, List.set_cons_zero, List.set_cons_succ]
            refine takeS (i := 9) (v := undef) rfl rfl (by kernel_rfl) (by kernel_rfl) (by kernel_rfl) (fun _ _ _ h => h) (Or.inr ⟨by rfl, rfl⟩) hS ?_
            try simp only [List.setIfInBounds_toArray, List.set_cons_zero, List.set_cons_succ]
            refine takeS (i := 10) (v := undef) rfl rfl (by kernel_rfl) (by kernel_rfl) (by kernel_rfl) (fun _ _ _ h => h) (Or.inr ⟨by rfl, rfl⟩) hS ?_
            try simp only [List.setIfInBounds_toArray, List.set_cons_zero, List.set_cons_succ]
            refine takeS (i := 11) (v := .bool false) rfl rfl (by kernel_rfl) (by kernel_rfl) (by kernel_rfl) (fun _ _ _ h => h) (Or.inl ⟨by rfl, fun U hU => by go_simp⟩) hS ?_
            try simp only [List.setIfInBounds_toArray, List.set_cons_zero, List.set_cons_succ]
            refine wpAnyH_done (by kernel_rfl) ?_ _
            have O6 := Lib.hid (owns_below HO.out hS)
            have B6 := Lib.hid (below_call HB.out HB.out.size hS)
            have A6 := Lib.hid (keep_block HA.out hS)
            clear hS
            generalize wr.drew = w6 at O6 B6 A6 ⊢
            go_upto_region 9 with fail
            refine wp_region_held_drew (S := Below (w6).heap.size (w6)) (by kernel_rfl) ((Below.refl _ _).drew) (fun hS => ?_)
            refine takeS (i := 0) (v := .slice (some ⟨b', off, none⟩) n cap) rfl rfl (by kernel_rfl) (by kernel_rfl) (by kernel_rfl) (fun _ _ _ h => h) (Or.inl ⟨by rfl, fun U hU => by go_simp⟩) hS ?_
            try simp only [List.setIfInBounds_toArray, List.set_cons_zero, List.set_cons_succ]
            refine takeS (i := 1) (v := .int .i64 (k : Int)) rfl rfl (by kernel_rfl) (by kernel_rfl) (by kernel_rfl) (fun _ _ _ h => h) (Or.inl ⟨by rfl, fun U hU => by go_simp⟩) hS ?_
            try simp only [List.setIfInBounds_toArray, List.set_cons_zero, List.set_cons_succ]
            refine takeS (i := 2) (v := .pointer (some ⟨b', off + k * 2, none⟩)) rfl rfl (by kernel_rfl) (by kernel_rfl) (by kernel_rfl) (fun _ _ _ h => h) (Or.inl ⟨by rfl, fun U hU => by go_simp⟩) hS ?_
            try simp only [List.setIfInBounds_toArray, List.set_cons_zero, List.set_cons_succ]
            refine takeS (i := 3) (v := .pointer (some ⟨b', off + k * 2, none⟩)) rfl rfl (by kernel_rfl) (by kernel_rfl) (by kernel_rfl) (fun _ _ _ h => h) (Or.inl ⟨by rfl, fun U hU => by go_simp⟩) hS ?_
            try simp only [List.setIfInBounds_toArray, List.set_cons_zero, List.set_cons_succ]
            refine takeS (i := 4) (v := .string nk) rfl rfl (by kernel_rfl) (by kernel_rfl) (by kernel_rfl) (fun _ _ _ h => h) (Or.inl ⟨by rfl, fun U hU => by obtain ⟨c0, c1⟩ := CC.out U (B6.out.trans (hU.mono B6.out.size)); go_simp⟩) hS ?_
            try simp only [List.setIfInBounds_toArray, List.set_cons_zero, List.set_cons_succ]
            refine takeS (i := 5) (v := .pointer (some ⟨w.heap.size, 0, none⟩)) rfl rfl (by kernel_rfl) (by kernel_rfl) (by kernel_rfl) (fun _ _ _ h => h) (Or.inl ⟨by rfl, fun U hU => by go_simp⟩) hS ?_
            try simp only [List.setIfInBounds_toArray, List.set_cons_zero, List.set_cons_succ]
            refine takeS (i := 6) (v := .string nm) rfl rfl (by kernel_rfl) (by kernel_rfl) (by kernel_rfl) (fun _ _ _ h => h) (Or.inl ⟨by rfl, fun U hU => by have q0 := cell_of_row _ w.heap.size 0 _ _ _ (keep_block A6.out hU); go_simp⟩) hS ?_
            try simp only [List.setIfInBounds_toArray, List.set_cons_zero, List.set_cons_succ]
            refine takeS (i := 7) (v := .bool true) rfl rfl (by kernel_rfl) (by kernel_rfl) (by kernel_rfl) (fun _ _ _ h => h) (Or.inl ⟨by rfl, fun U hU => by go_simp⟩) hS ?_
            try simp only [List.setIfInBounds_toArray, List.set_cons_zero, List.set_cons_succ]
            refine wpAnyH_done (by kernel_rfl) ?_ _
            have O8 := Lib.hid (owns_below O6.out hS)
            have B8 := Lib.hid (below_call B6.out B6.out.size hS)
            have A8 := Lib.hid (keep_block A6.out hS)
            clear hS
            generalize w6.drew = w8 at O8 B8 A8 ⊢
            obtain ⟨c0, c1⟩ := CC.out _ B8.out
            have LI := (Below.refl w8.heap.size w8).alloc (Nat.le_refl _) (.cells #[.string nk, .string vk] 31)
            have O3 := Lib.hid (owns_below O8.out LI)
            have B3 := Lib.hid (below_call B8.out B8.out.size LI)
            have A3 := Lib.hid (keep_block A8.out LI)
            have Z3 := Lib.hid (Array.getElem?_eq_some_iff.1 A3.out).1
            clear LI
            go_wp2_with (first | (refine buildE rfl 27 31 _ rfl Try.underlying27 Hi.out hz0 #[.string nk, .string vk] rfl (by rw [hz1]; rfl) (by rw [hz1]; decide) (by rw [hz1]; decide) ?_) | (at_builtin; refine wpList_append_own _ rfl _ _ 27 rfl (w.heap.size + 1) 31 i0 z0 2 32 Try.underlying27 Hi.out hz0 hz1 hz2 hzs (by decide) _ ct _ rfl O3.out ⟨w8.heap.size, 0, none⟩ 1 1 [.string nk, .string vk] rfl rfl ?q4c1 ?q4c2 ?q4c3 ?q4c4 ?q4c5 ?_))
            try case q4c1 =>
              intro p u hu
              rw [addrE, Nat.zero_add, cell_of_row _ w8.heap.size p _ _ _ (heap_alloc_last w8 (.cells #[.string nk, .string vk] 31)), ← hu]
              simp
            try case q4c2 =>
              first
              | exact ⟨rfl, rfl⟩
              | (intro u hu
                 rcases List.mem_cons.1 hu with rfl | hu
                 · rfl
                 · rcases List.mem_cons.1 hu with rfl | hu
                   · rfl
                   · cases hu)
            try case q4c3 => unfold maxLen; omega
            try case q4c4 => omega
            try case q4c5 => first | exact Z3.out | exact B8.out.size | (have := B8.out.size; simp; omega)
            intro v4 w9 hown4 hgrow4 hnil4
            have O9 := Lib.hid hown4
            have B9 := Lib.hid (B3.out.grown hgrow4 B3.out.size (fun g e => by have := (O3.out.lt g e).1; omega))
            have A9 := Lib.hid ((hgrow4.block w.heap.size Z3.out (fun e => by have := (O3.out.lt _ e.symm).1; omega)).trans A3.out)
            clear hown4 hgrow4 hnil4 O3 B3 A3 Z3
            go_wp2_with fail
            go_roundw
            case rel => exact ⟨k + 1, by omega, by go_num, by have := KP.out; simp; omega, by rw [T1.out, T2.out]; first | exact O9.out | (rw [List.map_append]; exact O9.out) | (rw [List.map_append, List.map_append]; exact O9.out) | (rw [List.map_append, List.map_append, List.append_assoc]; exact O9.out), A9.out, B9.out⟩
            case measure => simp [intOf]; omega
          · have hgt2 : k < p := by omega
            rw [if_neg hkp] at S1 S2
            rw [show decide (p < k) = false from decide_eq_false (by omega)]
            rw [show decide (k < p) = true from decide_eq_true (by omega)] at hlk
            have hge := leq_not nk nm
            rw [hlk] at hge
            have hls : Op.bytesLess nk.toList nm.toList = _ := hlk
            have KP := Lib.hid hgt2
            have T1 := S1
            have T2 := S2
            clear S1 S2
            generalize puF p nm vl es k = sl at HO T1
            generalize puC p nm es k = ct at HO HK T2
            go_upto_region 6 with fail
            refine wp_region_held_drew (S := Below (wr).heap.size (wr)) (by kernel_rfl) ((Below.refl _ _).drew) (fun hS => ?_)
            refine takeS (i := 0) (v := .bool false) rfl rfl (by kernel_rfl) (by kernel_rfl) (by kernel_rfl) (fun _ _ _ h => h) (Or.inl ⟨by rfl, fun U hU => by go_simp⟩) hS ?_
            try simp only [List.setIfInBounds_toArray, List.set_cons_zero, List.set_cons_succ]
            refine takeS (i := 1) (v := .bool true) rfl rfl (by kernel_rfl) (by kernel_rfl) (by kernel_rfl) (fun _ _ _ h => h) (Or.inl ⟨by rfl, fun U hU => by go_simp⟩) hS ?_
            try simp only [List.setIfInBounds_toArray, List.set_cons_zero, List.set_cons_succ]
            refine takeS (i := 2) (v := .bool true) rfl rfl (by kernel_rfl) (by kernel_rfl) (by kernel_rfl) (fun _ _ _ h => h) (Or.inl ⟨by rfl, fun U hU => by go_simp⟩) hS ?_
            try simp only [List.setIfInBounds_toArray, List.set_cons_zero, List.set_cons_succ]
            refine takeS (i := 3) (v := .slice (some ⟨b', off, none⟩) n cap) rfl rfl (by kernel_rfl) (by kernel_rfl) (by kernel_rfl) (fun _ _ _ h => h) (Or.inl ⟨by rfl, fun U hU => by go_simp⟩) hS ?_
            try simp only [List.setIfInBounds_toArray, List.set_cons_zero, List.set_cons_succ]
            refine takeS (i := 4) (v := .int .i64 (k : Int)) rfl rfl (by kernel_rfl) (by kernel_rfl) (by kernel_rfl) (fun _ _ _ h => h) (Or.inl ⟨by rfl, fun U hU => by go_simp⟩) hS ?_
            try simp only [List.setIfInBounds_toArray, List.set_cons_zero, List.set_cons_succ]
            refine takeS (i := 5) (v := .pointer (some ⟨b', off + k * 2, none⟩)) rfl rfl (by kernel_rfl) (by kernel_rfl) (by kernel_rfl) (fun _ _ _ h => h) (Or.inl ⟨by rfl, fun U hU => by go_simp⟩) hS ?_
            try simp only [List.setIfInBounds_toArray, List.set_cons_zero, List.set_cons_succ]
            refine takeS (i := 6) (v := .pointer (some ⟨b', off + k * 2, none⟩)) rfl rfl (by kernel_rfl) (by kernel_rfl) (by kernel_rfl) (fun _ _ _ h => h) (Or.inl ⟨by rfl, fun U hU => by go_simp⟩) hS ?_
            try simp only [List.setIfInBounds_toArray, List.set_cons_zero, List.set_cons_succ]
            refine takeS (i := 7) (v := .string nk) rfl rfl (by kernel_rfl) (by kernel_rfl) (by kernel_rfl) (fun _ _ _ h => h) (Or.inl ⟨by rfl, fun U hU => by obtain ⟨c0, c1⟩ := CC.out U (HB.out.trans (hU.mono HB.out.size)); go_simp⟩) hS ?_
            try simp only [List.setIfInBounds_toArray, List.set_cons_zero, List.set_cons_succ]
            refine takeS (i := 8) (v := .pointer (some ⟨w.heap.size, 0, none⟩)) rfl rfl (by kernel_rfl) (by kernel_rfl) (by kernel_rfl) (fun _ _ _ h => h) (Or.inl ⟨by rfl, fun U hU => by go_simp⟩) hS ?_
            try simp only [List.setIfInBounds_toArray, List.set_cons_zero, List.set_cons_succ]
            refine takeS (i := 9) (v := .string nm) rfl rfl (by kernel_rfl) (by kernel_rfl) (by kernel_rfl) (fun _ _ _ h => h) (Or.inl ⟨by rfl, fun U hU => by have q0 := cell_of_row _ w.heap.size 0 _ _ _ (keep_block HA.out hU); go_simp⟩) hS ?_
            try simp only [List.setIfInBounds_toArray, List.set_cons_zero, List.set_cons_succ]
            refine takeS (i := 10) (v := .bool false) rfl rfl (by kernel_rfl) (by kernel_rfl) (by kernel_rfl) (fun _ _ _ h => h) (Or.inl ⟨by rfl, fun U hU => by go_simp⟩) hS ?_
            try simp only [List.setIfInBounds_toArray, List.set_cons_zero, List.set_cons_succ]
            refine takeS (i := 11) (v := .bool false) rfl rfl (by kernel_rfl) (by kernel_rfl) (by kernel_rfl) (fun _ _ _ h => h) (Or.inl ⟨by rfl, fun U hU => by go_simp⟩) hS ?_
            try simp only [List.setIfInBounds_toArray, List.set_cons_zero, List.set_cons_succ]
            refine wpAnyH_done (by kernel_rfl) ?_ _
            have O6 := Lib.hid (owns_below HO.out hS)
            have B6 := Lib.hid (below_call HB.out HB.out.size hS)
            have A6 := Lib.hid (keep_block HA.out hS)
            clear hS
            generalize wr.drew = w6 at O6 B6 A6 ⊢
            go_upto_region 9 with fail
            refine wp_region_held_drew (S := Below (w6).heap.size (w6)) (by kernel_rfl) ((Below.refl _ _).drew) (fun hS => ?_)
            refine takeS (i := 0) (v := .slice (some ⟨b', off, none⟩) n cap) rfl rfl (by kernel_rfl) (by kernel_rfl) (by kernel_rfl) (fun _ _ _ h => h) (Or.inl ⟨by rfl, fun U hU => by go_simp⟩) hS ?_
            try simp only [List.setIfInBounds_toArray, List.set_cons_zero, List.set_cons_succ]
            refine takeS (i := 1) (v := .int .i64 (k : Int)) rfl rfl (by kernel_rfl) (by kernel_rfl) (by kernel_rfl) (fun _ _ _ h => h) (Or.inl ⟨by rfl, fun U hU => by go_simp⟩) hS ?_
            try simp only [List.setIfInBounds_toArray, List.set_cons_zero, List.set_cons_succ]
            refine takeS (i := 2) (v := .pointer (some ⟨b', off + k * 2, none⟩)) rfl rfl (by kernel_rfl) (by kernel_rfl) (by kernel_rfl) (fun _ _ _ h => h) (Or.inl ⟨by rfl, fun U hU => by go_simp⟩) hS ?_
            try simp only [List.setIfInBounds_toArray, List.set_cons_zero, List.set_cons_succ]
            refine takeS (i := 3) (v := .pointer (some ⟨b', off + k * 2, none⟩)) rfl rfl (by kernel_rfl) (by kernel_rfl) (by kernel_rfl) (fun _ _ _ h => h) (Or.inl ⟨by rfl, fun U hU => by go_simp⟩) hS ?_
            try simp only [List.setIfInBounds_toArray, List.set_cons_zero, List.set_cons_succ]
            refine takeS (i := 4) (v := .string nk) rfl rfl (by kernel_rfl) (by kernel_rfl) (by kernel_rfl) (fun _ _ _ h => h) (Or.inl ⟨by rfl, fun U hU => by obtain ⟨c0, c1⟩ := CC.out U (B6.out.trans (hU.mono B6.out.size)); go_simp⟩) hS ?_
            try simp only [List.setIfInBounds_toArray, List.set_cons_zero, List.set_cons_succ]
            refine takeS (i := 5) (v := .pointer (some ⟨w.heap.size, 0, none⟩)) rfl rfl (by kernel_rfl) (by kernel_rfl) (by kernel_rfl) (fun _ _ _ h => h) (Or.inl ⟨by rfl, fun U hU => by go_simp⟩) hS ?_
            try simp only [List.setIfInBounds_toArray, List.set_cons_zero, List.set_cons_succ]
            refine takeS (i := 6) (v := .string nm) rfl rfl (by kernel_rfl) (by kernel_rfl) (by kernel_rfl) (fun _ _ _ h => h) (Or.inl ⟨by rfl, fun U hU => by have q0 := cell_of_row _ w.heap.size 0 _ _ _ (keep_block A6.out hU); go_simp⟩) hS ?_
            try simp only [List.setIfInBounds_toArray, List.set_cons_zero, List.set_cons_succ]
            refine takeS (i := 7) (v := .bool true) rfl rfl (by kernel_rfl) (by kernel_rfl) (by kernel_rfl) (fun _ _ _ h => h) (Or.inl ⟨by rfl, fun U hU => by go_simp⟩) hS ?_
            try simp only [List.setIfInBounds_toArray, List.set_cons_zero, List.set_cons_succ]
            refine wpAnyH_done (by kernel_rfl) ?_ _
            have O8 := Lib.hid (owns_below O6.out hS)
            have B8 := Lib.hid (below_call B6.out B6.out.size hS)
            have A8 := Lib.hid (keep_block A6.out hS)
            clear hS
            generalize w6.drew = w8 at O8 B8 A8 ⊢
            obtain ⟨c0, c1⟩ := CC.out _ B8.out
            have LI := (Below.refl w8.heap.size w8).alloc (Nat.le_refl _) (.cells #[.string nk, .string vk] 31)
            have O3 := Lib.hid (owns_below O8.out LI)
            have B3 := Lib.hid (below_call B8.out B8.out.size LI)
            have A3 := Lib.hid (keep_block A8.out LI)
            have Z3 := Lib.hid (Array.getElem?_eq_some_iff.1 A3.out).1
            clear LI
            go_wp2_with (first | (refine buildE rfl 27 31 _ rfl Try.underlying27 Hi.out hz0 #[.string nk, .string vk] rfl (by rw [hz1]; rfl) (by rw [hz1]; decide) (by rw [hz1]; decide) ?_) | (at_builtin; refine wpList_append_own _ rfl _ _ 27 rfl (w.heap.size + 1) 31 i0 z0 2 32 Try.underlying27 Hi.out hz0 hz1 hz2 hzs (by decide) _ ct _ rfl O3.out ⟨w8.heap.size, 0, none⟩ 1 1 [.string nk, .string vk] rfl rfl ?q5c1 ?q5c2 ?q5c3 ?q5c4 ?q5c5 ?_))
            try case q5c1 =>
              intro p u hu
              rw [addrE, Nat.zero_add, cell_of_row _ w8.heap.size p _ _ _ (heap_alloc_last w8 (.cells #[.string nk, .string vk] 31)), ← hu]
              simp
            try case q5c2 =>
              first
              | exact ⟨rfl, rfl⟩
              | (intro u hu
                 rcases List.mem_cons.1 hu with rfl | hu
                 · rfl
                 · rcases List.mem_cons.1 hu with rfl | hu
                   · rfl
                   · cases hu)
            try case q5c3 => unfold maxLen; omega
            try case q5c4 => omega
            try case q5c5 => first | exact Z3.out | exact B8.out.size | (have := B8.out.size; simp; omega)
            intro v4 w9 hown4 hgrow4 hnil4
            have O9 := Lib.hid hown4
            have B9 := Lib.hid (B3.out.grown hgrow4 B3.out.size (fun g e => by have := (O3.out.lt g e).1; omega))
            have A9 := Lib.hid ((hgrow4.block w.heap.size Z3.out (fun e => by have := (O3.out.lt _ e.symm).1; omega)).trans A3.out)
            clear hown4 hgrow4 hnil4 O3 B3 A3 Z3
            go_wp2_with fail
            go_roundw
            case rel => exact ⟨k + 1, by omega, by go_num, by have := KP.out; simp; omega, by rw [T1.out, T2.out]; first | exact O9.out | (rw [List.map_append]; exact O9.out) | (rw [List.map_append, List.map_append]; exact O9.out) | (rw [List.map_append, List.map_append, List.append_assoc]; exact O9.out), A9.out, B9.out⟩
            case measure => simp [intOf]; omega
    · obtain rfl : k = n := by omega
      by_cases hpn : p = k
      · rw [if_pos hpn] at HFA HFB
        rw [show decide (p < k) = false from decide_eq_false (by omega)]
        clear hpn
        generalize puF p nm vl es k = sl at HO HFA
        have HK : puC p nm es k ≤ 131072 := by have := puC_le p nm es k; omega
        generalize puC p nm es k = ct at HO HK HFB
        go_upto_region 12 with fail
        have LI := (Below.refl wr.heap.size wr).alloc (Nat.le_refl _) (.cells #[.string nm, .string vl] 31)
        have O3 := Lib.hid (owns_below HO.out LI)
        have B3 := Lib.hid (below_call HB.out HB.out.size LI)
        have A3 := Lib.hid (keep_block HA.out LI)
        have Z3 := Lib.hid (Array.getElem?_eq_some_iff.1 A3.out).1
        clear LI
        have q0 := cell_of_row _ w.heap.size 0 _ _ _ HA.out
        have q1 := cell_of_row _ w.heap.size 1 _ _ _ HA.out
        go_wp2_with (first | (refine buildE rfl 27 31 _ rfl Try.underlying27 Hi.out hz0 #[.string nm, .string vl] rfl (by rw [hz1]; rfl) (by rw [hz1]; decide) (by rw [hz1]; decide) ?_) | (at_builtin; refine wpList_append_own _ rfl _ _ 27 rfl (w.heap.size + 1) 31 i0 z0 2 32 Try.underlying27 Hi.out hz0 hz1 hz2 hzs (by decide) _ ct _ rfl O3.out ⟨wr.heap.size, 0, none⟩ 1 1 [.string nm, .string vl] rfl rfl ?q6c1 ?q6c2 ?q6c3 ?q6c4 ?q6c5 ?_))
        try case q6c1 =>
          intro p u hu
          rw [addrE, Nat.zero_add, cell_of_row _ wr.heap.size p _ _ _ (heap_alloc_last wr (.cells #[.string nm, .string vl] 31)), ← hu]
          simp
        try case q6c2 =>
          first
          | exact ⟨rfl, rfl⟩
          | (intro u hu
             rcases List.mem_cons.1 hu with rfl | hu
             · rfl
             · rcases List.mem_cons.1 hu with rfl | hu
               · rfl
               · cases hu)
        try case q6c3 => unfold maxLen; omega
        try case q6c4 => omega
        try case q6c5 => first | exact Z3.out | exact HB.out.size | (have := HB.out.size; simp; omega)
        intro v4 w7 hown4 hgrow4 hnil4
        have O7 := Lib.hid hown4
        have B7 := Lib.hid (B3.out.grown hgrow4 B3.out.size (fun g e => by have := (O3.out.lt g e).1; omega))
        have A7 := Lib.hid ((hgrow4.block w.heap.size Z3.out (fun e => by have := (O3.out.lt _ e.symm).1; omega)).trans A3.out)
        clear hown4 hgrow4 hnil4 O3 B3 A3 Z3
        go_wp2_with fail
        go_ret
        exact ⟨_, rfl, ownsE_base (Nat.le_succ _) (by rw [HFA.out, HFB.out, List.map_append]; exact O7.out), B7.out⟩
      · rw [if_neg hpn] at HFA HFB
        rw [show decide (p < k) = true from decide_eq_true (by have := HPN.out; omega)]
        clear hpn
        go_wp2_with fail
        go_ret
        exact ⟨_, rfl, ownsE_base (Nat.le_succ _) (by rw [HFA.out, HFB.out]; exact HO.out), HB.out⟩
end Go.Proofs.Ytmkddiconpacnaa
