/- The statement on DeleteEntry: its walk. Written by wip/gen/lres.py. -/
import Derived.Test.YtojfojkfopplnabMkV
import Derived.Test.YtojfojkfopplnabDel
namespace Go.Proofs.Ytojfojkfopplnab
open Go.ChangeShapes Go.WideShapes Go.ChangeAt Go.RowKit
set_option linter.unusedVariables false
set_option linter.unusedSimpArgs false
set_option maxRecDepth 100000 in
set_option maxHeartbeats 8000000 in
theorem FnExactDeleteEntry_in (nm : ByteArray) (a : Option Addr) (n cap : Nat) (es VV : List ByteArray) (NN : Nat) (EE : Int) (hm : ∀ s ∈ es, s.size ≤ maxLen) (h : n + sumS es ≤ 1048576) (h_nm : nm.size ≤ 1048576) (hV : VV.length = 2 * NN) (hN : NN ≤ 1048576) (w : World) (hr : RdE w a n es)
    (hs : ∀ (U : World) b, RdE U b n es → Calls Try.prog 32 #[.slice b n n, .string nm] U fun e w' => ∃ v, e = .returned (.tuple #[v, .int .i64 EE]) ∧ w'.ownsRow U.heap.size 26 2 v NN (VV.map Value.string) ∧ Below U.heap.size U w')
    (hi : ∀ (U : World) b, RdE U b n es → Calls Try.prog 33 #[.slice b n n, .string nm] U fun e w' => ∃ v, e = .returned (.tuple #[v, .int .i64 EE]) ∧ w'.ownsRow U.heap.size 26 2 v NN (VV.map Value.string) ∧ Below U.heap.size U w') :
    Calls Try.prog 8 #[.slice a n cap, .string nm] w fun e w' => e = .returned (.bool true) ∧ Below w.heap.size w w' := by
  have HR := Lib.hid hr
  have HL := Lib.hid hr.1
  have HV := Lib.hid hV
  have Hs := Lib.hid hs
  have Hi := Lib.hid hi
  have q0 : ¬ (1048576 : Int) - (n : Int) - (sumS es : Int) < 0 := by omega
  have q1 : ¬ (1 : Int) + ((2 * n : Nat) : Int) < 0 := by omega
  have q2 : ¬ (1 : Int) + ((2 * NN : Nat) : Int) < 0 := by omega
  have t0 : ¬ (1048576 : Int) < (nm.size : Int) := by omega
  clear hr hV hs hi
  go_enter Try.func8, Try.ntmps8
  have B0 := Lib.hid (Below.refl w.heap.size w)
  go_wp2_with fail
  refine (szES_in a n cap es 1048576 (by omega) (by omega) hm (by omega) _ HR.out).mono ?_
  rintro e w1 ⟨rfl, hb⟩
  have B1 := Lib.hid (below_call B0.out B0.out.size hb)
  clear hb
  go_wp2_with fail
  refine (toES a n cap es (by omega) _ (HR.out.below B1.out)).mono ?_
  rintro e w2 ⟨rfl, hg, hb⟩
  have B2 := Lib.hid (below_call B1.out B1.out.size hb)
  have X2 := Lib.hid hg
  clear hg
  clear hb
  go_wp2_with fail
  refine (Hs.out _ _ (RdE.row HL.out X2.out)).mono ?_
  rintro e w3 ⟨vS, rfl, ho, hb⟩
  have B3 := Lib.hid (below_call B2.out B2.out.size hb)
  obtain ⟨aS, cS, rfl, hS⟩ := RdE.owned HV.out ho
  have S3 := Lib.hid hS
  clear hS ho
  clear hb
  have D3 := Lib.hid (Below.refl w3.heap.size w3)
  have RS := Lib.hid S3.out
  go_wp2_with fail
  refine (toES a n cap es (by omega) _ (HR.out.below B3.out)).mono ?_
  rintro e w4 ⟨rfl, hg, hb⟩
  have B4 := Lib.hid (below_call B3.out B3.out.size hb)
  have D4 := Lib.hid (below_call D3.out D3.out.size hb)
  have S4 := Lib.hid (S3.out.below hb)
  have X4 := Lib.hid hg
  clear hg
  clear hb
  have GX := Lib.hid (Nat.le_refl w3.heap.size)
  go_wp2_with fail
  refine (Hi.out _ _ (RdE.row HL.out X4.out)).mono ?_
  rintro e w5 ⟨vG, rfl, ho, hb⟩
  have B5 := Lib.hid (below_call B4.out B4.out.size hb)
  have D5 := Lib.hid (below_call D4.out D4.out.size hb)
  have X5 := Lib.hid (keep_block X4.out hb)
  have S5 := Lib.hid (S4.out.below hb)
  obtain ⟨aG, cG, hvG, hG⟩ := RdE.owned HV.out ho
  subst hvG
  have G5 := Lib.hid hG
  have O5 := Lib.hid ho
  have BASE := Lib.hid (Array.getElem?_eq_some_iff.1 X4.out).1
  clear hG ho
  clear hb
  go_wp2_with fail
  refine (eqES _ _ NN _ _ VV (by omega) _ G5.out S5.out).mono ?_
  rintro e w6 ⟨rfl, hb⟩
  have B6 := Lib.hid (below_call B5.out B5.out.size hb)
  have D6 := Lib.hid (below_call D5.out D5.out.size hb)
  have X6 := Lib.hid (keep_block X5.out hb)
  have S6 := Lib.hid (S5.out.below hb)
  have G6 := Lib.hid (G5.out.below hb)
  have O6 := Lib.hid (owns_below O5.out hb)
  clear hb
  go_wp2_with fail
  refine (toES a n cap es (by omega) _ (HR.out.below B6.out)).mono ?_
  rintro e w7 ⟨rfl, hg, hb⟩
  have B7 := Lib.hid (below_call B6.out B6.out.size hb)
  have D7 := Lib.hid (below_call D6.out D6.out.size hb)
  have X7 := Lib.hid (keep_block X6.out hb)
  have S7 := Lib.hid (S6.out.below hb)
  have G7 := Lib.hid (G6.out.below hb)
  have O7 := Lib.hid (owns_below O6.out hb)
  have Z7 := Lib.hid hg
  clear hg
  clear hb
  have ZZ7 := Lib.hid (show w6.heap.size ≤ w6.heap.size from Nat.le_refl _)
  have LZ7 := Lib.hid B6.out.size
  generalize w6.heap.size = gZ7 at Z7 LZ7 ⊢
  go_wp2_with fail
  refine (eqES _ _ n n n es (by omega) _ (RdE.row HL.out X7.out) (RdE.row HL.out Z7.out)).mono ?_
  rintro e w8 ⟨rfl, hb⟩
  have B8 := Lib.hid (below_call B7.out B7.out.size hb)
  have D8 := Lib.hid (below_call D7.out D7.out.size hb)
  have X8 := Lib.hid (keep_block X7.out hb)
  have S8 := Lib.hid (S7.out.below hb)
  have O8 := Lib.hid (owns_below O7.out hb)
  clear hb
  go_wp2_with fail
  refine (markES _ n n (strs es) (by omega) (by rw [strs_size, HL.out]; omega) _ X8.out).mono ?_
  rintro e w9 ⟨rfl, _, hit⟩
  have B9 := Lib.hid (B8.out.trans (hit.1.mono B3.out.size))
  have D9 := Lib.hid (D8.out.trans hit.1)
  have S9 := Lib.hid (RS.out.below D9.out)
  have O9 := Lib.hid (owns_hitS hit BASE.out O8.out)
  obtain ⟨aG', cG', e1, hG⟩ := RdE.owned HV.out O9.out
  obtain ⟨rfl, _, rfl⟩ := Value.slice.inj e1
  have G9 := Lib.hid hG
  clear hG hit
  go_wp2_with fail
  refine (eqES _ _ NN _ _ VV (by omega) _ G9.out S9.out).mono ?_
  rintro e w10 ⟨rfl, hb⟩
  have B10 := Lib.hid (below_call B9.out B9.out.size hb)
  have D10 := Lib.hid (below_call D9.out D9.out.size hb)
  have S10 := Lib.hid (S9.out.below hb)
  have O10 := Lib.hid (owns_below O9.out hb)
  clear hb
  obtain ⟨aM, cM, e1, HM⟩ := markVE _ _ _ _ (by omega) w10 O10.out
  obtain ⟨rfl, _, rfl⟩ := Value.slice.inj e1
  have HMK := Lib.hid HM
  clear HM
  go_wp2_with fail
  refine (HMK.out).mono ?_
  rintro e w11 ⟨rfl, hr, hb⟩
  have B11 := Lib.hid (B10.out.trans (hb.mono (by have := B3.out.size; have := BASE.out; omega)))
  have D11 := Lib.hid (D10.out.trans (hb.mono (by have := BASE.out; omega)))
  have S11 := Lib.hid (RS.out.below D11.out)
  have M11 := Lib.hid hr
  clear hr
  clear hb
  go_wp2_with fail
  refine (heldES _ NN _ (by omega) _ M11.out).mono ?_
  rintro e w12 ⟨rfl, hb⟩
  have B12 := Lib.hid (below_call B11.out B11.out.size hb)
  have D12 := Lib.hid (below_call D11.out D11.out.size hb)
  have S12 := Lib.hid (S11.out.below hb)
  have M12 := Lib.hid (M11.out.below hb)
  clear hb
  go_wp2_with fail
  refine (toES a n cap es (by omega) _ (HR.out.below B12.out)).mono ?_
  rintro e w13 ⟨rfl, hg, hb⟩
  have B13 := Lib.hid (below_call B12.out B12.out.size hb)
  have D13 := Lib.hid (below_call D12.out D12.out.size hb)
  have S13 := Lib.hid (S12.out.below hb)
  have M13 := Lib.hid (M12.out.below hb)
  have Y13 := Lib.hid hg
  clear hg
  clear hb
  go_wp2_with fail
  refine (Hi.out _ _ (RdE.row HL.out Y13.out)).mono ?_
  rintro e w14 ⟨vH, rfl, ho, hb⟩
  have B14 := Lib.hid (below_call B13.out B13.out.size hb)
  have D14 := Lib.hid (below_call D13.out D13.out.size hb)
  have S14 := Lib.hid (S13.out.below hb)
  have M14 := Lib.hid (M13.out.below hb)
  obtain ⟨aH, cH, rfl, hH⟩ := RdE.owned HV.out ho
  have H14 := Lib.hid hH
  clear hH ho
  clear hb
  go_wp2_with fail
  refine (eqES _ _ NN _ _ VV (by omega) _ H14.out S14.out).mono ?_
  rintro e w15 ⟨rfl, hb⟩
  have B15 := Lib.hid (below_call B14.out B14.out.size hb)
  have D15 := Lib.hid (below_call D14.out D14.out.size hb)
  have M15 := Lib.hid (M14.out.below hb)
  clear hb
  go_wp2_with fail
  refine (heldES _ NN _ (by omega) _ M15.out).mono ?_
  rintro e w16 ⟨rfl, hb⟩
  have B16 := Lib.hid (below_call B15.out B15.out.size hb)
  have D16 := Lib.hid (below_call D15.out D15.out.size hb)
  have M16 := Lib.hid (M15.out.below hb)
  clear hb
  go_wp2
  go_ret
  exact ⟨rfl, B16.out⟩
set_option maxRecDepth 100000 in
set_option maxHeartbeats 2000000 in
theorem FnExactDeleteEntry_long0 (nm : ByteArray) (a : Option Addr) (n cap : Nat) (hx : nm.size ≤ maxLen) (h : ¬ nm.size ≤ 1048576) (w : World) :
    Calls Try.prog 8 #[.slice a n cap, .string nm] w fun e w' => e = .returned (.bool true) ∧ Below w.heap.size w w' := by
  unfold maxLen at hx
  have t0 : (1048576 : Int) < (nm.size : Int) := by omega
  go_enter Try.func8, Try.ntmps8
  go_wp2
  go_ret
  exact ⟨rfl, Below.refl _ _⟩
set_option maxRecDepth 100000 in
set_option maxHeartbeats 2000000 in
theorem FnExactDeleteEntry_out (nm : ByteArray) (a : Option Addr) (n cap : Nat) (es : List ByteArray) (hn : n ≤ maxLen) (hm : ∀ s ∈ es, s.size ≤ maxLen) (h : ¬ n + sumS es ≤ 1048576) (h_nm : nm.size ≤ 1048576) (w : World) (hr : RdE w a n es) :
    Calls Try.prog 8 #[.slice a n cap, .string nm] w fun e w' => e = .returned (.bool true) ∧ Below w.heap.size w w' := by
  have HR := Lib.hid hr
  have t0 : ¬ (1048576 : Int) < (nm.size : Int) := by omega
  clear hr
  go_enter Try.func8, Try.ntmps8
  go_wp2_with fail
  refine (szES_out a n cap es 1048576 (by omega) (by omega) hn hm (by omega) _ HR.out).mono ?_
  rintro e w1 ⟨rfl, hb⟩
  have B1 := Lib.hid hb
  clear hb
  go_wp2
  go_ret
  exact ⟨rfl, B1.out⟩
theorem FnExactDeleteEntry_walk (a : Option Addr) (n cap : Nat) (es : List ByteArray) (nm : ByteArray) (w : World) (f : IsEnts w a n es) (f_nm : nm.size ≤ maxLen) :
    Calls Try.prog 8 #[.slice a n cap, .string nm] w fun e w' => e = .returned (.bool true) ∧ Below w.heap.size w w' := by
  by_cases h_nm : nm.size ≤ 1048576
  case neg => exact FnExactDeleteEntry_long0 nm a n cap  f_nm h_nm w
  by_cases h : n + sumS es ≤ 1048576
  · exact FnExactDeleteEntry_in nm a n cap es (dlV es n nm) (dlN es n nm) (dlE es n nm) f.2.2 h h_nm (dlV_len es n nm) (by have := dlN_le es n nm; omega) w f.2.1 (fun U b hU => de_spec b n n es nm (by omega) f.2.2 f_nm U hU) (fun U b hU => de_impl b n n es nm (by omega) f.2.2 f_nm U hU)
  · exact FnExactDeleteEntry_out nm a n cap es f.1 f.2.2 h h_nm w f.2.1
end Go.Proofs.Ytojfojkfopplnab
