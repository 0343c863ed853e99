/- GetEntry, by the program and by the specification. Written by wip/gen/get.py. -/
import Derived.Test.YtojfojkfopplnabPlcI
import Derived.Test.YtojfojkfopplnabPlcS
namespace Go.Proofs.Ytojfojkfopplnab
open Go.ChangeShapes Go.WideShapes Go.ChangeAt Go.RowKit
set_option linter.unusedVariables false
set_option linter.unusedSimpArgs false
/-- What GetEntry answers. -/
def gtE (es : List ByteArray) (n : Nat) (nm : ByteArray) : Int := if okE es n ∧ isNm nm = true then (if fdE es n nm then 0 else 6) else 1
def vlO (es : List ByteArray) (n : Nat) (nm : ByteArray) : ByteArray := if fdE es n nm then tx es (2 * plc es n nm + 1) else ByteArray.mk #[]
def gtV (es : List ByteArray) (n : Nat) (nm : ByteArray) : ByteArray := if okE es n ∧ isNm nm = true then vlO es n nm else ByteArray.mk #[]
set_option maxRecDepth 100000 in
set_option maxHeartbeats 4000000 in
theorem value_of (a : Option Addr) (n cap : Nat) (es : List ByteArray) (nm : ByteArray) (hn : n ≤ 1048576) (hu : upE es n) (w : World) (hr : RdE w a n es) :
    Calls Try.prog 63 #[.slice a n cap, .string nm] w fun e w' => e = .returned (.tuple #[.string (vlO es n nm), .bool (fdE es n nm)]) ∧ Below w.heap.size w w' := by
  have HR := Lib.hid hr
  have HP := Lib.hid (place_impl a n cap es nm hn hu w hr)
  unfold vlO
  cases hf : fdE es n nm with
  | true =>
    rw [hf] at HP
    rw [if_pos rfl]
    have hlt : plc es n nm < n := by unfold fdE at hf; exact (of_decide_eq_true hf).1
    obtain ⟨b', off, rfl⟩ := hr.form (by omega)
    have C := Lib.hid (fun U (hU : Below w.heap.size w U) => (HR.out.below hU).at hlt)
    clear hr hu hf
    generalize plc es n nm = p at HP C hlt ⊢
    generalize tx es (2 * p) = nm2 at C
    generalize tx es (2 * p + 1) = vl at C ⊢
    have p0 : (0 : Int) ≤ (p : Int) := by omega
    have p1 : (p : Int) < (n : Int) := by omega
    go_enter Try.func63, Try.ntmps63
    go_wp2_with fail
    refine HP.out.mono ?_
    rintro e w1 ⟨rfl, hb⟩
    obtain ⟨c0, c1⟩ := C.out _ hb
    have B1 := Lib.hid hb
    clear hb
    go_wp2
    go_ret2
    exact ⟨rfl, B1.out⟩
  | false =>
    rw [hf] at HP
    rw [if_neg (by simp)]
    clear hr hu hf
    go_enter Try.func63, Try.ntmps63
    go_wp2_with fail
    refine HP.out.mono ?_
    rintro e w1 ⟨rfl, hb⟩
    have B1 := Lib.hid hb
    clear hb
    go_wp2
    go_ret2
    exact ⟨rfl, B1.out⟩
set_option maxRecDepth 100000 in
set_option maxHeartbeats 4000000 in
theorem ge_impl (a : Option Addr) (n cap : Nat) (es : List ByteArray) (nm : ByteArray) (hn : n ≤ 1048576) (hm : ∀ s ∈ es, s.size ≤ maxLen) (hz : nm.size ≤ maxLen) (w : World) (hr : RdE w a n es) :
    Calls Try.prog 27 #[.slice a n cap, .string nm] w fun e w' => e = .returned (.tuple #[.string (gtV es n nm), .int .i64 (gtE es n nm)]) ∧ Below w.heap.size w w' := by
  have HR := Lib.hid hr
  have HOK := Lib.hid (ok_impl a n cap es hn hm w hr)
  have HNM := Lib.hid (fun U => name_impl nm hz U)
  unfold gtE gtV
  clear hr hm hz
  by_cases hok : okE es n
  · rw [decide_eq_true hok] at HOK
    cases hn' : isNm nm with
    | true =>
      rw [hn'] at HNM
      rw [if_pos ⟨hok, rfl⟩, if_pos ⟨hok, rfl⟩]
      have HV := Lib.hid (fun U (hU : Below w.heap.size w U) => value_of a n cap es nm hn hok.up U (HR.out.below hU))
      clear hn' hok
      cases hf : fdE es n nm with
      | true =>
        rw [hf] at HV
        rw [if_pos rfl]
        clear hf
        generalize vlO es n nm = V at HV ⊢
        go_enter Try.func27, Try.ntmps27
        go_wp2_with fail
        refine HOK.out.mono ?_
        rintro e w1 ⟨rfl, hb⟩
        have B1 := Lib.hid hb
        clear hb
        go_wp2_with fail
        refine (HNM.out _).mono ?_
        rintro e w2 ⟨rfl, rfl⟩
        go_wp2_with fail
        refine (HV.out _ B1.out).mono ?_
        rintro e w3 ⟨rfl, hb⟩
        have B3 := Lib.hid (below_call B1.out B1.out.size hb)
        clear hb
        go_wp2
        go_ret2
        exact ⟨rfl, B3.out⟩
      | false =>
        have hv : vlO es n nm = ByteArray.mk #[] := by unfold vlO; rw [hf]; rfl
        rw [hf, hv] at HV
        rw [if_neg (by simp), hv]
        clear hf hv
        go_enter Try.func27, Try.ntmps27
        go_wp2_with fail
        refine HOK.out.mono ?_
        rintro e w1 ⟨rfl, hb⟩
        have B1 := Lib.hid hb
        clear hb
        go_wp2_with fail
        refine (HNM.out _).mono ?_
        rintro e w2 ⟨rfl, rfl⟩
        go_wp2_with fail
        refine (HV.out _ B1.out).mono ?_
        rintro e w3 ⟨rfl, hb⟩
        have B3 := Lib.hid (below_call B1.out B1.out.size hb)
        clear hb
        go_wp2
        go_ret2
        exact ⟨rfl, B3.out⟩
    | false =>
      rw [hn'] at HNM
      rw [if_neg (fun h => by simp at h), if_neg (fun h => by simp at h)]
      clear hn' hok
      go_enter Try.func27, Try.ntmps27
      go_wp2_with fail
      refine HOK.out.mono ?_
      rintro e w1 ⟨rfl, hb⟩
      have B1 := Lib.hid hb
      clear hb
      go_wp2_with fail
      refine (HNM.out _).mono ?_
      rintro e w2 ⟨rfl, rfl⟩
      go_wp2
      go_ret2
      exact ⟨rfl, B1.out⟩
  · rw [decide_eq_false hok] at HOK
    rw [if_neg (fun h => hok h.1), if_neg (fun h => hok h.1)]
    clear hok
    go_enter Try.func27, Try.ntmps27
    go_wp2_with fail
    refine HOK.out.mono ?_
    rintro e w1 ⟨rfl, hb⟩
    have B1 := Lib.hid hb
    clear hb
    go_wp2
    go_ret2
    exact ⟨rfl, B1.out⟩
set_option maxRecDepth 100000 in
set_option maxHeartbeats 4000000 in
theorem ge_spec (a : Option Addr) (n cap : Nat) (es : List ByteArray) (nm : ByteArray) (hn : n ≤ 1048576) (hm : ∀ s ∈ es, s.size ≤ maxLen) (hz : nm.size ≤ maxLen) (w : World) (hr : RdE w a n es) :
    Calls Try.prog 26 #[.slice a n cap, .string nm] w fun e w' => e = .returned (.tuple #[.string (gtV es n nm), .int .i64 (gtE es n nm)]) ∧ Below w.heap.size w w' := by
  have HR := Lib.hid hr
  have HOK := Lib.hid (ok_spec a n cap es hn hm w hr)
  have HNM := Lib.hid (fun U => name_spec nm hz U)
  unfold gtE gtV
  clear hr hm hz
  by_cases hok : okE es n
  · rw [decide_eq_true hok] at HOK
    cases hn' : isNm nm with
    | true =>
      rw [hn'] at HNM
      rw [if_pos ⟨hok, rfl⟩, if_pos ⟨hok, rfl⟩]
      have hup := hok.up
      clear hn' hok
      cases hf : fdE es n nm with
      | true =>
        rw [if_pos rfl]
        have hv : vlO es n nm = tx es (2 * plc es n nm + 1) := by unfold vlO; rw [hf]; rfl
        rw [hv]
        have hq : plc es n nm < n ∧ tx es (2 * plc es n nm) = nm := by unfold fdE at hf; exact of_decide_eq_true hf
        obtain ⟨b', off, rfl⟩ := HR.out.form (by omega)
        have HF := Lib.hid (fun U (hU : Below w.heap.size w U) => find_yes (some ⟨b', off, none⟩) n cap (plc es n nm) es nm hn hq.1 hq.2 (fun j hj => fd_before hup (by omega) hj) U (HR.out.below hU))
        have C := Lib.hid (fun U (hU : Below w.heap.size w U) => (HR.out.below hU).at hq.1)
        have hlt := hq.1
        clear hf hv hq hup
        generalize plc es n nm = p at HF C hlt ⊢
        generalize tx es (2 * p) = nm2 at C
        generalize tx es (2 * p + 1) = vl at C ⊢
        have p0 : (0 : Int) ≤ (p : Int) := by omega
        have p1 : (p : Int) < (n : Int) := by omega
        have p2 : ¬ (p : Int) < 0 := by omega
        go_enter Try.func26, Try.ntmps26
        go_wp2_with fail
        refine HOK.out.mono ?_
        rintro e w1 ⟨rfl, hb⟩
        have B1 := Lib.hid hb
        clear hb
        go_wp2_with fail
        refine (HNM.out _).mono ?_
        rintro e w2 ⟨rfl, rfl⟩
        go_wp2_with fail
        refine (HF.out _ B1.out).mono ?_
        rintro e w3 ⟨rfl, rfl⟩
        obtain ⟨c0, c1⟩ := C.out _ B1.out
        go_wp2
        go_ret2
        exact ⟨rfl, B1.out⟩
      | false =>
        have hv : vlO es n nm = ByteArray.mk #[] := by unfold vlO; rw [hf]; rfl
        rw [if_neg (by simp), hv]
        have HF := Lib.hid (fun U (hU : Below w.heap.size w U) => find_no a n cap es nm hn (fun j hj => fd_no hup hf hj) U (HR.out.below hU))
        clear hf hv hup
        go_enter Try.func26, Try.ntmps26
        go_wp2_with fail
        refine HOK.out.mono ?_
        rintro e w1 ⟨rfl, hb⟩
        have B1 := Lib.hid hb
        clear hb
        go_wp2_with fail
        refine (HNM.out _).mono ?_
        rintro e w2 ⟨rfl, rfl⟩
        go_wp2_with fail
        refine (HF.out _ B1.out).mono ?_
        rintro e w3 ⟨rfl, rfl⟩
        go_wp2
        go_ret2
        exact ⟨rfl, B1.out⟩
    | false =>
      rw [hn'] at HNM
      rw [if_neg (fun h => by simp at h), if_neg (fun h => by simp at h)]
      clear hn' hok
      go_enter Try.func26, Try.ntmps26
      go_wp2_with fail
      refine HOK.out.mono ?_
      rintro e w1 ⟨rfl, hb⟩
      have B1 := Lib.hid hb
      clear hb
      go_wp2_with fail
      refine (HNM.out _).mono ?_
      rintro e w2 ⟨rfl, rfl⟩
      go_wp2
      go_ret2
      exact ⟨rfl, B1.out⟩
  · rw [decide_eq_false hok] at HOK
    rw [if_neg (fun h => hok h.1), if_neg (fun h => hok h.1)]
    clear hok
    go_enter Try.func26, Try.ntmps26
    go_wp2_with fail
    refine HOK.out.mono ?_
    rintro e w1 ⟨rfl, hb⟩
    have B1 := Lib.hid hb
    clear hb
    go_wp2
    go_ret2
    exact ⟨rfl, B1.out⟩
end Go.Proofs.Ytojfojkfopplnab
