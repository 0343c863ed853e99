/- DeleteEntry, by the specification. Written by wip/gen/dele.py. -/
import Derived.Test.YtmkddiconpacnaaSel
import Derived.Test.YtmkddiconpacnaaPlcS
namespace Go.Proofs.Ytmkddiconpacnaa
open Go.ChangeShapes Go.WideShapes Go.ChangeAt Go.RowKit
set_option linter.unusedVariables false
set_option linter.unusedSimpArgs false
/-- Whether a name is another one. -/
def neN (nm y : ByteArray) : Bool := decide (y ≠ nm)
def dlE (es : List ByteArray) (n : Nat) (nm : ByteArray) : Int := if okE es n ∧ isNm nm = true then (if fdE es n nm then 0 else 6) else 1
def dlV (es : List ByteArray) (n : Nat) (nm : ByteArray) : List ByteArray := if okE es n ∧ isNm nm = true ∧ fdE es n nm = true then selF (neN nm) es n else []
def dlN (es : List ByteArray) (n : Nat) (nm : ByteArray) : Nat := if okE es n ∧ isNm nm = true ∧ fdE es n nm = true then cntF (neN nm) es n else 0
theorem dlV_len (es : List ByteArray) (n : Nat) (nm : ByteArray) : (dlV es n nm).length = 2 * dlN es n nm := by
  unfold dlV dlN
  split
  · exact selF_len _ _ _
  · rfl
theorem dlN_le (es : List ByteArray) (n : Nat) (nm : ByteArray) : dlN es n nm ≤ n := by
  unfold dlN
  split
  · exact cntF_le _ _ _
  · omega
theorem sel_next (p : ByteArray → Bool) (es : List ByteArray) (k : Nat) : selF p es (k + 1) = if p (tx es (2 * k)) then selF p es k ++ [tx es (2 * k), tx es (2 * k + 1)] else selF p es k := rfl
theorem cnt_next (p : ByteArray → Bool) (es : List ByteArray) (k : Nat) : cntF p es (k + 1) = if p (tx es (2 * k)) then cntF p es k + 1 else cntF p es k := rfl
set_option maxRecDepth 100000 in
set_option maxHeartbeats 4000000 in
theorem without_spec (a : Option Addr) (n cap : Nat) (es : List ByteArray) (un : ByteArray) (hn : n ≤ 1048576) (w : World) (hr : RdE w a n es) :
    Calls Try.prog 114 #[.slice a n cap, .string un] w fun e w' => ∃ v, e = .returned v ∧ w'.ownsRow w.heap.size 31 2 v (cntF (neN un) es n) ((selF (neN un) es n).map Value.string) ∧ Below w.heap.size w w' := by
  obtain ⟨i0, z0, hi0, hz0, hz1, hz2, hzs⟩ := entParts
  have Hi := Lib.hid hi0
  clear hi0
  have HR := Lib.hid hr
  have B1 := Lib.hid (Below.refl w.heap.size w)
  clear hr
  go_enter Try.func114, Try.ntmps114
  have O1 := Lib.hid (ownsE_empty w 31 2)
  have B2 := Lib.hid (B1.out.alloc B1.out.size (.cells #[] 31))
  go_wp2_with fail
  go_loopw [5, 6] (fun o i wr => ∃ k : Nat, k ≤ n ∧ i = .int .i64 k ∧ wr.ownsRow w.heap.size 31 2 o (cntF (neN un) es k) ((selF (neN un) es k).map Value.string) ∧ Below w.heap.size w wr) (fun _ i _ => n - (intOf i).toNat)
  case atStart => exact ⟨0, by omega, rfl, O1.out, B2.out⟩
  case round =>
    obtain ⟨k, hk, rfl, ho, hb⟩ := hrel
    have HB := Lib.hid hb
    have HO := Lib.hid ho
    clear hb ho
    by_cases hlt : k < n
    · have b0 : (0 : Int) ≤ (k : Int) := by omega
      have b1 : (k : Int) < (n : Int) := by omega
      obtain ⟨b', off, rfl⟩ := HR.out.form (by omega)
      obtain ⟨c0, c1⟩ := (HR.out.below HB.out).at hlt
      have HK : cntF (neN un) es k ≤ 1048576 := by have := cntF_le (neN un) es k; omega
      have S1 := Lib.hid (sel_next (neN un) es k)
      have S2 := Lib.hid (cnt_next (neN un) es k)
      by_cases he : tx es (2 * k) = un
      · rw [show neN un (tx es (2 * k)) = false by unfold neN; simp [he]] at S1 S2
        have T1 := Lib.hid (S1.out.trans (if_neg (by simp)))
        have T2 := Lib.hid (S2.out.trans (if_neg (by simp)))
        rw [he] at c0
        clear S1 S2 he c1
        generalize selF (neN un) es k = sl at HO T1
        generalize cntF (neN un) es k = ct at HO HK T2
        go_wp2_with fail
        go_roundw
        case rel => exact ⟨k + 1, by omega, by go_num, by rw [T1.out, T2.out]; exact HO.out, HB.out⟩
        case measure => simp [intOf]; omega
      · rw [show neN un (tx es (2 * k)) = true by unfold neN; simp [he]] at S1 S2
        have T1 := Lib.hid (S1.out.trans (if_pos rfl))
        have T2 := Lib.hid (S2.out.trans (if_pos rfl))
        have hq : ((tx es (2 * k)).toList == un.toList) = false := beq_eq_false_iff_ne.2 (fun h => he (toList_inj h))
        clear S1 S2 he
        generalize tx es (2 * k) = nm at c0 hq T1
        generalize tx es (2 * k + 1) = vl at c1 T1
        generalize selF (neN un) es k = sl at HO T1
        generalize cntF (neN un) es k = ct at HO HK T2
        have LI := (Below.refl wr.heap.size wr).alloc (Nat.le_refl _) (.cells #[.string nm, .string vl] 31)
        have O3 := Lib.hid (owns_below HO.out LI)
        have B3 := Lib.hid (below_call HB.out HB.out.size LI)
        clear LI
        go_wp2_with (first | (refine buildE rfl 27 31 _ rfl Try.underlying27 Hi.out hz0 #[.string nm, .string vl] rfl (by rw [hz1]; rfl) (by rw [hz1]; decide) (by rw [hz1]; decide) ?_) | (at_builtin; refine wpList_append_own _ rfl _ _ 27 rfl w.heap.size 31 i0 z0 2 32 Try.underlying27 Hi.out hz0 hz1 hz2 hzs (by decide) _ ct _ rfl O3.out ⟨wr.heap.size, 0, none⟩ 1 1 [.string nm, .string vl] rfl rfl ?c1 ?c2 ?c3 ?c4 ?c5 ?_))
        case c1 =>
          intro p u hu
          rw [addrE, Nat.zero_add, cell_of_row _ wr.heap.size p _ _ _ (heap_alloc_last wr (.cells #[.string nm, .string vl] 31)), ← hu]
          simp
        case c2 =>
          intro u hu
          rcases List.mem_cons.1 hu with rfl | hu
          · rfl
          · rcases List.mem_cons.1 hu with rfl | hu
            · rfl
            · cases hu
        case c3 => unfold maxLen; omega
        case c4 => omega
        case c5 => have := HB.out.size; simp; omega
        intro v4 w4 hown4 hgrow4 hnil4
        have O4 := Lib.hid hown4
        have B4 := Lib.hid (B3.out.grown hgrow4 (by have := HB.out.size; simp; omega) (fun g e => by have := (O3.out.lt g e).1; omega))
        clear hown4 hgrow4 hnil4
        go_wp2_with fail
        go_roundw
        case rel => exact ⟨k + 1, by omega, by go_num, by rw [T1.out, T2.out, List.map_append]; exact O4.out, B4.out⟩
        case measure => simp [intOf]; omega
    · obtain rfl : k = n := by omega
      go_wp2_with fail
      go_ret
      exact ⟨_, rfl, HO.out, HB.out⟩
set_option maxRecDepth 100000 in
set_option maxHeartbeats 4000000 in
theorem de_spec (a : Option Addr) (n cap : Nat) (es : List ByteArray) (nm : ByteArray) (hn : n ≤ 1048576) (hm : ∀ s ∈ es, s.size ≤ maxLen) (hz : nm.size ≤ maxLen) (w : World) (hr : RdE w a n es) :
    Calls Try.prog 66 #[.slice a n cap, .string nm] w fun e w' => ∃ v, e = .returned (.tuple #[v, .int .i64 (dlE es n nm)]) ∧ w'.ownsRow w.heap.size 31 2 v (dlN es n nm) ((dlV es n nm).map Value.string) ∧ Below w.heap.size w w' := by
  have HR := Lib.hid hr
  have HOK := Lib.hid (ok_spec a n cap es hn hm w hr)
  have HNM := Lib.hid (fun U => name_spec nm hz U)
  unfold dlE dlN dlV
  clear hr hm hz
  by_cases hok : okE es n
  · rw [decide_eq_true hok] at HOK
    cases hn' : isNm nm with
    | true =>
      rw [hn'] at HNM
      rw [if_pos ⟨hok, rfl⟩]
      have hup := hok.up
      cases hf : fdE es n nm with
      | true =>
        rw [if_pos rfl, if_pos ⟨hok, rfl, rfl⟩, if_pos ⟨hok, rfl, rfl⟩]
        have hq : plc es n nm < n ∧ tx es (2 * plc es n nm) = nm := by unfold fdE at hf; exact of_decide_eq_true hf
        have HF := Lib.hid (fun U (hU : Below w.heap.size w U) => find_yes a n cap (plc es n nm) es nm hn hq.1 hq.2 (fun j hj => fd_before hup (by omega) hj) U (HR.out.below hU))
        have HW := Lib.hid (fun U (hU : Below w.heap.size w U) => without_spec a n cap es nm hn U (HR.out.below hU))
        have p2 : ¬ ((plc es n nm : Nat) : Int) < 0 := by omega
        clear hf hq hup
        generalize plc es n nm = p at HF p2
        generalize cntF (neN nm) es n = ct at HW ⊢
        generalize selF (neN nm) es n = sl at HW ⊢
        go_enter Try.func66, Try.ntmps66
        go_wp2_with fail
        refine HOK.out.mono ?_
        rintro e w1 ⟨rfl, hb⟩
        have B1 := Lib.hid hb
        clear hb
        go_wp2_with fail
        refine (HNM.out _).mono ?_
        rintro e w2 ⟨rfl, rfl⟩
        go_wp2_with fail
        refine (HF.out _ B1.out).mono ?_
        rintro e w3 ⟨rfl, rfl⟩
        go_wp2_with fail
        refine (HW.out _ B1.out).mono ?_
        rintro e w4 ⟨v, rfl, ho, hb⟩
        have O4 := Lib.hid (ownsE_base B1.out.size ho)
        have B4 := Lib.hid (below_call B1.out B1.out.size hb)
        clear ho hb
        go_wp2_with fail
        go_ret2
        exact ⟨_, rfl, O4.out, B4.out⟩
      | false =>
        rw [if_neg (by simp), if_neg (fun h => by simp at h), if_neg (fun h => by simp at h)]
        have HF := Lib.hid (fun U (hU : Below w.heap.size w U) => find_no a n cap es nm hn (fun j hj => fd_no hup hf hj) U (HR.out.below hU))
        clear hf hup
        go_enter Try.func66, Try.ntmps66
        go_wp2_with fail
        refine HOK.out.mono ?_
        rintro e w1 ⟨rfl, hb⟩
        have B1 := Lib.hid hb
        clear hb
        go_wp2_with fail
        refine (HNM.out _).mono ?_
        rintro e w2 ⟨rfl, rfl⟩
        go_wp2_with fail
        refine (HF.out _ B1.out).mono ?_
        rintro e w3 ⟨rfl, rfl⟩
        go_wp2_with fail
        go_ret2
        exact ⟨_, rfl, ownsE_base B1.out.size (ownsE_empty w1 31 2), B1.out.alloc B1.out.size _⟩
    | false =>
      rw [hn'] at HNM
      rw [if_neg (fun h => by simp at h), if_neg (fun h => by simp at h), if_neg (fun h => by simp at h)]
      clear hn' hok
      go_enter Try.func66, Try.ntmps66
      go_wp2_with fail
      refine HOK.out.mono ?_
      rintro e w1 ⟨rfl, hb⟩
      have B1 := Lib.hid hb
      clear hb
      go_wp2_with fail
      refine (HNM.out _).mono ?_
      rintro e w2 ⟨rfl, rfl⟩
      go_wp2_with fail
      go_ret2
      exact ⟨_, rfl, ownsE_base B1.out.size (ownsE_empty w1 31 2), B1.out.alloc B1.out.size _⟩
  · rw [decide_eq_false hok] at HOK
    rw [if_neg (fun h => hok h.1), if_neg (fun h => hok h.1), if_neg (fun h => hok h.1)]
    clear hok
    go_enter Try.func66, Try.ntmps66
    go_wp2_with fail
    refine HOK.out.mono ?_
    rintro e w1 ⟨rfl, hb⟩
    have B1 := Lib.hid hb
    clear hb
    go_wp2_with fail
    go_ret2
    exact ⟨_, rfl, ownsE_base B1.out.size (ownsE_empty w1 31 2), B1.out.alloc B1.out.size _⟩
end Go.Proofs.Ytmkddiconpacnaa
