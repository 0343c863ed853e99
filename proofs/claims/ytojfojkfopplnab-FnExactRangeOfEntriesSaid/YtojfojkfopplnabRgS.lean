/- RangeOfEntries, by the specification. Written by wip/gen/rge.py. -/
import Derived.Test.YtojfojkfopplnabSel
namespace Go.Proofs.Ytojfojkfopplnab
open Go.ChangeShapes Go.WideShapes Go.ChangeAt Go.RowKit
set_option linter.unusedVariables false
set_option linter.unusedSimpArgs false
theorem selF_next (p : ByteArray → Bool) (es : List ByteArray) (k : Nat) : selF p es (k + 1) = if p (tx es (2 * k)) then selF p es k ++ [tx es (2 * k), tx es (2 * k + 1)] else selF p es k := rfl
theorem cntF_next (p : ByteArray → Bool) (es : List ByteArray) (k : Nat) : cntF p es (k + 1) = if p (tx es (2 * k)) then cntF p es k + 1 else cntF p es k := rfl
/-- Whether a name is in a range. -/
def inR (lo hi nm : ByteArray) : Bool := !lss nm lo && lss nm hi
set_option maxHeartbeats 1000000 in
theorem has_impl (lo hi nm : ByteArray) (w : World) : Calls Try.prog 70 #[.agg #[.string lo, .string hi], .string nm] w fun e w' => e = .returned (.bool (inR lo hi nm)) ∧ Below w.heap.size w w' := by
  have h1 := leq_not nm lo
  have h2 : Op.bytesLess nm.toList hi.toList = lss nm hi := rfl
  unfold inR
  cases h3 : lss nm lo with
  | true =>
    rw [h3] at h1
    go_enter Try.func70, Try.ntmps70
    go_wp2
    go_ret
    exact ⟨rfl, (Below.refl _ _).alloc (Nat.le_refl _) _⟩
  | false =>
    rw [h3] at h1
    cases h4 : lss nm hi with
    | true =>
      rw [h4] at h2
      go_enter Try.func70, Try.ntmps70
      go_wp2
      go_ret
      exact ⟨rfl, (Below.refl _ _).alloc (Nat.le_refl _) _⟩
    | false =>
      rw [h4] at h2
      go_enter Try.func70, Try.ntmps70
      go_wp2
      go_ret
      exact ⟨rfl, (Below.refl _ _).alloc (Nat.le_refl _) _⟩
def rgE (es : List ByteArray) (n : Nat) : Int := if okE es n then 0 else 1
def rgV (lo hi : ByteArray) (es : List ByteArray) (n : Nat) : List ByteArray := if okE es n then selF (inR lo hi) es n else []
def rgN (lo hi : ByteArray) (es : List ByteArray) (n : Nat) : Nat := if okE es n then cntF (inR lo hi) es n else 0
theorem rgV_len (lo hi : ByteArray) (es : List ByteArray) (n : Nat) : (rgV lo hi es n).length = 2 * rgN lo hi es n := by
  unfold rgV rgN
  split
  · exact selF_len _ _ _
  · rfl
theorem rgN_le (lo hi : ByteArray) (es : List ByteArray) (n : Nat) : rgN lo hi es n ≤ n := by
  unfold rgN
  split
  · exact cntF_le _ _ _
  · omega
set_option maxRecDepth 100000 in
set_option maxHeartbeats 4000000 in
theorem rg_spec (lo hi : ByteArray) (a : Option Addr) (n cap : Nat) (es : List ByteArray) (hn : n ≤ 1048576) (hm : ∀ s ∈ es, s.size ≤ maxLen) (w : World) (hr : RdE w a n es) :
    Calls Try.prog 34 #[.slice a n cap, .string lo, .string hi] w fun e w' => ∃ v, e = .returned (.tuple #[v, .int .i64 (rgE es n)]) ∧ w'.ownsRow w.heap.size 26 2 v (rgN lo hi es n) ((rgV lo hi es n).map Value.string) ∧ Below w.heap.size w w' := by
  obtain ⟨i0, z0, hi0, hz0, hz1, hz2, hzs⟩ := entParts
  have Hi := Lib.hid hi0
  clear hi0
  have HR := Lib.hid hr
  have HOK := Lib.hid (ok_spec a n cap es hn hm w hr)
  unfold rgE rgV rgN
  clear hr hm
  by_cases hok : okE es n
  · rw [if_pos hok, if_pos hok, if_pos hok]
    rw [decide_eq_true hok] at HOK
    clear hok
    go_enter Try.func34, Try.ntmps34
    go_wp2_with fail
    refine HOK.out.mono ?_
    rintro e w1 ⟨rfl, hb⟩
    have B1 := Lib.hid hb
    clear hb
    have O1 := Lib.hid (ownsE_base B1.out.size (ownsE_empty w1 26 2))
    have B2 := Lib.hid (B1.out.alloc B1.out.size (.cells #[] 26))
    go_wp2_with fail
    go_loopw [8, 9] (fun o i wr => ∃ k : Nat, k ≤ n ∧ i = .int .i64 k ∧ wr.ownsRow w.heap.size 26 2 o (cntF (inR lo hi) es k) ((selF (inR lo hi) es k).map Value.string) ∧ Below w.heap.size w wr) (fun _ i _ => n - (intOf i).toNat)
    case atStart => exact ⟨0, by omega, rfl, O1.out, B2.out⟩
    case round =>
      obtain ⟨k, hk, rfl, ho, hb⟩ := hrel
      have HB := Lib.hid hb
      have HO := Lib.hid ho
      clear hb ho
      by_cases hlt : k < n
      · have b0 : (0 : Int) ≤ (k : Int) := by omega
        have b1 : (k : Int) < (n : Int) := by omega
        obtain ⟨b', off, rfl⟩ := HR.out.form (by omega)
        obtain ⟨c0, c1⟩ := (HR.out.below HB.out).at hlt
        have HK : cntF (inR lo hi) es k ≤ 1048576 := by have := cntF_le (inR lo hi) es k; omega
        have S1 := Lib.hid (selF_next (inR lo hi) es k)
        have S2 := Lib.hid (cntF_next (inR lo hi) es k)
        have h1 : Op.bytesLess (tx es (2 * k)).toList lo.toList = lss (tx es (2 * k)) lo := rfl
        have h2 : Op.bytesLess (tx es (2 * k)).toList hi.toList = lss (tx es (2 * k)) hi := rfl
        have HIN := Lib.hid (show inR lo hi (tx es (2 * k)) = (!lss (tx es (2 * k)) lo && lss (tx es (2 * k)) hi) from rfl)
        generalize tx es (2 * k) = nm at c0 h1 h2 HIN S1 S2
        generalize tx es (2 * k + 1) = vl at c1 S1
        generalize selF (inR lo hi) es k = sl at HO S1
        generalize cntF (inR lo hi) es k = ct at HO HK S2
        cases h3 : lss nm lo with
        | true =>
          rw [h3] at h1 HIN
          rw [show inR lo hi nm = false by rw [HIN.out]; rfl] at S1 S2
          have T1 := Lib.hid (S1.out.trans (if_neg (by simp)))
          have T2 := Lib.hid (S2.out.trans (if_neg (by simp)))
          clear S1 S2 h3
          go_wp2_with fail
          go_roundw
          case rel => exact ⟨k + 1, by omega, by go_num, by rw [T1.out, T2.out]; exact HO.out, HB.out⟩
          case measure => simp [intOf]; omega
        | false =>
          rw [h3] at h1 HIN
          cases h4 : lss nm hi with
          | false =>
            rw [h4] at h2 HIN
            rw [show inR lo hi nm = false by rw [HIN.out]; rfl] at S1 S2
            have T1 := Lib.hid (S1.out.trans (if_neg (by simp)))
            have T2 := Lib.hid (S2.out.trans (if_neg (by simp)))
            clear S1 S2 h3 h4
            go_wp2_with fail
            go_roundw
            case rel => exact ⟨k + 1, by omega, by go_num, by rw [T1.out, T2.out]; exact HO.out, HB.out⟩
            case measure => simp [intOf]; omega
          | true =>
            rw [h4] at h2 HIN
            rw [show inR lo hi nm = true by rw [HIN.out]; rfl] at S1 S2
            have T1 := Lib.hid (S1.out.trans (if_pos rfl))
            have T2 := Lib.hid (S2.out.trans (if_pos rfl))
            clear S1 S2 h3 h4
            have LI := (Below.refl wr.heap.size wr).alloc (Nat.le_refl _) (.cells #[.string nm, .string vl] 26)
            have O3 := Lib.hid (owns_below HO.out LI)
            have B3 := Lib.hid (below_call HB.out HB.out.size LI)
            clear LI
            go_wp2_with (first | (refine buildE rfl 32 26 _ rfl Try.underlying32 Hi.out hz0 #[.string nm, .string vl] rfl (by rw [hz1]; rfl) (by rw [hz1]; decide) (by rw [hz1]; decide) ?_) | (at_builtin; refine wpList_append_own _ rfl _ _ 32 rfl w.heap.size 26 i0 z0 2 32 Try.underlying32 Hi.out hz0 hz1 hz2 hzs (by decide) _ ct _ rfl O3.out ⟨wr.heap.size, 0, none⟩ 1 1 [.string nm, .string vl] rfl rfl ?c1 ?c2 ?c3 ?c4 ?c5 ?_))
            case c1 =>
              intro p u hu
              rw [addrE, Nat.zero_add, cell_of_row _ wr.heap.size p _ _ _ (heap_alloc_last wr (.cells #[.string nm, .string vl] 26)), ← hu]
              simp
            case c2 =>
              intro u hu
              rcases List.mem_cons.1 hu with rfl | hu
              · rfl
              · rcases List.mem_cons.1 hu with rfl | hu
                · rfl
                · cases hu
            case c3 => unfold maxLen; omega
            case c4 => omega
            case c5 => have := HB.out.size; simp; omega
            intro v4 w4 hown4 hgrow4 hnil4
            have O4 := Lib.hid hown4
            have B4 := Lib.hid (B3.out.grown hgrow4 (by have := HB.out.size; simp; omega) (fun g e => by have := (O3.out.lt g e).1; omega))
            clear hown4 hgrow4 hnil4
            go_wp2_with fail
            go_roundw
            case rel => exact ⟨k + 1, by omega, by go_num, by rw [T1.out, T2.out, List.map_append]; exact O4.out, B4.out⟩
            case measure => simp [intOf]; omega
      · obtain rfl : k = n := by omega
        go_wp2_with fail
        go_ret2
        exact ⟨_, rfl, HO.out, HB.out⟩
  · rw [if_neg hok, if_neg hok, if_neg hok]
    rw [decide_eq_false hok] at HOK
    clear hok
    go_enter Try.func34, Try.ntmps34
    go_wp2_with fail
    refine HOK.out.mono ?_
    rintro e w1 ⟨rfl, hb⟩
    have B1 := Lib.hid hb
    clear hb
    go_wp2_with fail
    go_ret2
    exact ⟨_, rfl, ownsE_base B1.out.size (ownsE_empty w1 26 2), B1.out.alloc B1.out.size _⟩
end Go.Proofs.Ytojfojkfopplnab
