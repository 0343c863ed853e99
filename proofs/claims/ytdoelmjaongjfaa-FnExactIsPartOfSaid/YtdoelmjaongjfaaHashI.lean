/- The key of data: both programs. -/
import Derived.Test.YtdoelmjaongjfaaLast
import Derived.Test.YtdoelmjaongjfaaMixBs
import Derived.Test.YtdoelmjaongjfaaKos
import Derived.Test.YtdoelmjaongjfaaHash
namespace Go.Proofs.Ytdoelmjaongjfaa
open Go.ChangeShapes Go.WideShapes Go.ChangeAt Go.RowKit
set_option linter.unusedVariables false
def hashV (tag : Int) (l : List Int) : List Int := if l.length ≤ 4096 then hashK tag l else z32
def hashE (l : List Int) : Int := if l.length ≤ 4096 then 0 else 3
theorem hashV_len (tag : Int) (l : List Int) : (hashV tag l).length = 32 := by unfold hashV; split; (· exact hashK_len _ _); (· rfl)
set_option maxHeartbeats 1000000 in
theorem pads_impl (a : Option Addr) (n cap : Nat) (l : List Int) (hn : n ≤ 4096) (w : World) (hr : Rd .u8 w a n l) :
    Calls Try.prog 114 #[.slice a n cap] w fun e w' => ∃ v, e = .returned (.tuple #[v, .int .i64 0]) ∧ w'.ownsRow w.heap.size 40 32 v ((padL l n).length / 32) ((padL l n).map (Value.int .u8)) ∧ Below w.heap.size w w' := by
  have Hb := Lib.hid (last_impl a n cap l n (by omega) (by omega) (by omega) w hr)
  clear hr
  generalize hm : (padL l (n : Int)).length / 32 = m at Hb
  have Hm := Lib.hid hm
  clear hm
  generalize hp : padL l (n : Int) = P at Hb
  have HP := Lib.hid hp
  clear hp
  have b0 : (n : Int) ≤ 4096 := by omega
  go_enter Try.func114, Try.ntmps114
  go_wp2_with fail
  refine Hb.out.mono ?_
  rintro e w1 ⟨v, rfl, hown, hb⟩
  have HO' := Lib.hid hown
  have HB := Lib.hid hb
  clear hown hb
  go_wp2_with fail
  go_ret2
  exact ⟨v, rfl, HO'.out, HB.out⟩
set_option maxHeartbeats 1000000 in
theorem pads_impl_out (a : Option Addr) (n cap : Nat) (hm : n ≤ 1048576) (hn : ¬ n ≤ 4096) (w : World) :
    Calls Try.prog 114 #[.slice a n cap] w fun e w' => e = .returned (.tuple #[.slice none 0 0, .int .i64 3]) ∧ Below w.heap.size w w' := by
  have b0 : (4096 : Int) < (n : Int) := by omega
  go_enter Try.func114, Try.ntmps114
  go_wp2_with fail
  go_ret2
  exact ⟨rfl, Below.refl _ _⟩
set_option maxRecDepth 100000 in
set_option maxHeartbeats 1000000 in
theorem hasho_impl (tag : Int) (a : Option Addr) (n cap : Nat) (l : List Int) (h0 : 0 ≤ tag) (h1 : tag ≤ 255) (fl : ∀ z ∈ l, 0 ≤ z ∧ z ≤ 255) (hn : n ≤ 1048576) (w : World) (hr : Rd .u8 w a n l) :
    Calls Try.prog 107 #[.int .u8 tag, .slice a n cap] w fun e w' => e = .returned (.tuple #[.agg (ints .u8 (hashV tag l)), .int .i64 (hashE l)]) ∧ Below w.heap.size w w' := by
  have Hz := Lib.hid z32_ints
  have Hl := Lib.hid hr.1
  by_cases hle : n ≤ 4096
  · have Hp := Lib.hid (fun W h => pads_impl a n cap l hle W h)
    have Hr := Lib.hid hr
    have Hs := Lib.hid (fun W => start_impl tag h0 h1 W)
    have HV : Hid (hashV tag l = keyS (mixB (startW tag) (padL l n) ((padL l n).length / 32))) := Lib.hid (by unfold hashV; rw [if_pos (by rw [hr.1]; exact hle)]; unfold hashK endK; rw [hr.1])
    have HE : Hid (hashE l = 0) := Lib.hid (by unfold hashE; rw [if_pos (by rw [hr.1]; exact hle)])
    have Hvl := Lib.hid (hashV_len tag l)
    have Hmul := Lib.hid (padL_mod l (n : Int))
    have Hpn : Hid ((padL l (n : Int)).length ≤ 1048640) := Lib.hid (by rw [padL_len, hr.1]; unfold padN; omega)
    have Hpr := Lib.hid (padL_range fl (n : Int))
    have Hok := Lib.hid (startW_ok h0 h1)
    have Hk := Lib.hid (fun W => keyS_impl (mixB (startW tag) (padL l n) ((padL l n).length / 32)) (mixB_ok Hok.out _) W)
    have Hm := Lib.hid (fun a' cap' W h => mixbs_impl a' ((padL l n).length / 32) cap' (startW tag) (padL l n) Hok.out Hpr.out (by have := Hpn.out; omega) W h)
    rw [← HV.out] at Hk
    generalize hashV tag l = V at HV Hvl Hk
    generalize hashE l = E at HE
    clear hr fl
    have Hml : Hid ((padL l (n : Int)).length = 32 * ((padL l (n : Int)).length / 32)) := Lib.hid (by have := Hmul.out; omega)
    clear HV Hpr Hpn Hmul
    generalize (padL l (n : Int)).length / 32 = m at Hp Hk Hm Hml
    generalize padL l (n : Int) = P at Hp Hk Hm Hml
    generalize mixB (startW tag) P m = X at Hk Hm
    generalize startW tag = S0 at Hs Hm Hok
    go_enter Try.func107, Try.ntmps107
    go_wp2_with fail
    refine (Hp.out _ (Hr.out.below ((Below.refl _ _).alloc (by simp) _))).mono ?_
    rintro e w1 ⟨v, rfl, hown, hb⟩
    have B1 := Lib.hid (((Below.refl w.heap.size w).alloc (by simp) (.cells (ints .u8 z32) 46)).trans (by rw [Hz.out]; exact hb.mono (by simp)))
    have G1 := Lib.hid (keep_block (heap_alloc_last w (.cells (ints .u8 z32) 46)) (by rw [Hz.out]; exact hb))
    obtain ⟨a1, cap1, rfl, hrd⟩ := RdK.owned Hml.out hown
    have R1 := Lib.hid hrd
    clear hown hb hrd
    go_wp2_with fail
    refine (Hs.out _).mono ?_
    rintro e w2 ⟨rfl, hb⟩
    have B2 := Lib.hid (below_call B1.out B1.out.size hb)
    have G2 := Lib.hid (keep_block G1.out hb)
    have R2 := Lib.hid (R1.out.below hb)
    clear hb
    go_wp2_with fail
    refine (Hm.out _ _ _ R2.out).mono ?_
    rintro e w3 ⟨rfl, hb⟩
    have B3 := Lib.hid (below_call B2.out B2.out.size hb)
    have G3 := Lib.hid (keep_block G2.out hb)
    clear hb
    go_wp2_with fail
    refine (Hk.out _).mono ?_
    rintro e w4 ⟨rfl, hb⟩
    have B4 := Lib.hid (below_call B3.out B3.out.size hb)
    have G4 := Lib.hid (keep_block G3.out hb)
    clear hb
    go_wp2_with (refine wpList_store_row rfl 46 _ _ rfl w.heap.size (ints .u8 V) rfl rfl 46 (ints .u8 z32) G4.out (by rw [ints_size, Hvl.out]; exact sizeKey) (by rw [ints_size, ints_size, Hvl.out]; rfl) (ints_one _ _) ?_)
    refine bodyPost_ret (results_cell2_row rfl _ _ w.heap.size 46 (ints .u8 V) (0, 0) _ rfl (setRow_heap _ _ (ints .u8 z32) _ _ _ G4.out) Try.underlying46 rfl (by rw [ints_size, Hvl.out]; exact sizeKey)) rfl ⟨?_, ?_⟩
    · rw [HE.out]; rfl
    · exact Below.setRow B4.out (Nat.le_refl _) _
  · have Hp := Lib.hid (fun W => pads_impl_out a n cap hn hle W)
    have HV : Hid (hashV tag l = z32) := Lib.hid (by unfold hashV; rw [if_neg (by rw [hr.1]; exact hle)])
    have HE : Hid (hashE l = 3) := Lib.hid (by unfold hashE; rw [if_neg (by rw [hr.1]; exact hle)])
    clear hr fl
    generalize hashV tag l = V at HV
    generalize hashE l = E at HE
    go_enter Try.func107, Try.ntmps107
    go_wp2_with fail
    refine (Hp.out _).mono ?_
    rintro e w1 ⟨rfl, hb⟩
    have B1 := Lib.hid (((Below.refl w.heap.size w).alloc (by simp) (.cells (ints .u8 z32) 46)).trans (by rw [Hz.out]; exact hb.mono (by simp)))
    have G1 := Lib.hid (keep_block (heap_alloc_last w (.cells (ints .u8 z32) 46)) (by rw [Hz.out]; exact hb))
    clear hb
    go_wp2_with (refine wpList_store_row rfl 46 _ _ rfl w.heap.size (ints .u8 z32) rfl rfl 46 (ints .u8 z32) G1.out (by rw [ints_size]; exact sizeKey) rfl (ints_one _ _) ?_)
    refine bodyPost_ret (results_cell2_row rfl _ _ w.heap.size 46 (ints .u8 z32) (0, 0) _ rfl (setRow_heap _ _ (ints .u8 z32) _ _ _ G1.out) Try.underlying46 rfl (by rw [ints_size]; exact sizeKey)) rfl ⟨?_, ?_⟩
    · rw [HV.out, HE.out]; rfl
    · exact Below.setRow B1.out (Nat.le_refl _) _
end Go.Proofs.Ytdoelmjaongjfaa
