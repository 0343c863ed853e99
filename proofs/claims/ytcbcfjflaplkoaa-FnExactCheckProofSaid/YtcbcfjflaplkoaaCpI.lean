/- CheckProof, by the program. Written by wip/gen/cpi.py. -/
import Derived.Test.YtcbcfjflaplkoaaPairsP
import Derived.Test.YtcbcfjflaplkoaaLeadS
namespace Go.Proofs.Ytcbcfjflaplkoaa
open Go.ChangeShapes Go.WideShapes Go.ChangeAt Go.RowKit
set_option linter.unusedVariables false
set_option linter.unusedSimpArgs false
theorem wpList_load_row_g2 {P : Program} {ops : Array Oper} {rest : List Oper} {o : Oper} {a : Act} {w : World} {Q : Exit → Act → World → Prop} (hw : Region.wanted o (yielded ops a.tmps) = true) (ty : TypeId) (x : Operand) (ho : o.op = .load ty x)
    (g : Nat) (hx : a.eval x = .pointer (some ⟨g, 0, none⟩)) (t : TypeId) (cs : Array Value) (fr : Nat × Nat) (d : TypeDesc) (hg : w.heap[g]? = some (.cells cs t fr))
    (hu : P.underlying ty = some d) (hd : (match d with | .struct _ | .array _ _ => true | _ => false) = true) (hi : (P.info? ty).map (·.size) = some cs.size)
    (h : wpList P ops Q rest (a.put o.dst (.agg cs)) w) : wpList P ops Q (o :: rest) a w :=
  wpList_step fun _ hK => by rw [if_pos hw]; exact wp_load_row ty x ho g hx t cs fr d hg hu hd hi (hK _ _ h)
set_option maxRecDepth 100000 in
set_option maxHeartbeats 4000000 in
theorem cp_impl (root : List Int) (n i : Int) (leaf : List Int) (a : Option Addr) (P cap : Nat) (fl : List Int) (hR : root.length = 32) (hl : Is32 leaf) (hP : P ≤ 1048576) (hc : P ≤ cap) (hm : cap ≤ maxLen) (fb : ∀ z ∈ fl, 0 ≤ z ∧ z ≤ 255) (w : World) (hr : RdK w a P fl) :
    Calls Try.prog 21 #[.agg (ints .u8 root), .int .i64 n, .int .i64 i, .agg (ints .u8 leaf), .slice a P cap] w fun e w' => e = .returned (.tuple #[.bool (cpV root n i leaf P fl), .int .i64 (cpE n i P)]) ∧ Below w.heap.size w w' := by
  unfold cpV cpE
  have Hz := Lib.hid z32_ints
  have A0 := Lib.hid (heap_alloc2_old w (.cells (ints .u8 root) 28) (.cells (ints .u8 leaf) 28))
  have A1 := Lib.hid (heap_alloc2_new w (.cells (ints .u8 root) 28) (.cells (ints .u8 leaf) 28))
  have B0 := Lib.hid (((Below.refl w.heap.size w).alloc (Nat.le_refl _) (.cells (ints .u8 root) 28)).alloc (by simp) (.cells (ints .u8 leaf) 28))
  obtain ⟨W0, hW0⟩ : ∃ W0, (w.alloc (.cells (ints .u8 root) 28)).alloc (.cells (ints .u8 leaf) 28) = W0 := ⟨_, rfl⟩
  rw [hW0] at A0 A1 B0
  have HR := Lib.hid (hr.below B0.out)
  have HRL := Lib.hid hR
  have HLL := Lib.hid hl.1
  by_cases h : 256 < P
  · rw [if_pos h, if_pos h]
    have k1 : (256 : Int) < (P : Int) := by omega
    go_enter Try.func21, Try.ntmps21
    go_wp2_with fail
    go_ret2
    exact ⟨rfl, B0.out⟩
  · rw [if_neg h, if_neg h]
    have k1 : ¬ (256 : Int) < (P : Int) := by omega
    by_cases hC : isLf n i
    · rw [if_pos hC, if_pos hC]
      have Hlf := Lib.hid (fun U => leaf_yes n i hC U)
      have q1 := hC.1
      have q2 := hC.2.1
      have q3 := hC.2.2
      obtain ⟨n', rfl⟩ := Int.eq_ofNat_of_zero_le (show 0 ≤ n by omega)
      obtain ⟨i', rfl⟩ := Int.eq_ofNat_of_zero_le (show 0 ≤ i by omega)
      rw [Int.toNat_natCast, Int.toNat_natCast]
      have HT := Lib.hid (tns_dN n' 0 i' (Nat.zero_le _))
      have HL := Lib.hid (lds_tns (keyAt fl) leaf n' 0 i' (Nat.zero_le _))
      rw [Nat.sub_zero] at HT HL
      have HV := Lib.hid (ldN32 (pk := keyAt fl) hl n' i')
      by_cases hPd : P = dN n' i'
      · have Hp := Lib.hid (fun U (hU : Below W0.heap.size W0 U) => pairs_yes n' i' (by omega) (by omega) leaf hl a P cap fl fb (by rw [HT.out]; exact hPd) U (HR.out.below hU))
        rw [HL.out] at Hp
        rw [decide_eq_true hPd, Bool.true_and]
        generalize ldN (keyAt fl) leaf n' i' = V at Hp HV ⊢
        generalize tns 0 n' i' = L at Hp
        have Heq := Lib.hid (fun W => eqlIn2 V root HV.out.1 HRL.out W)
        generalize decide (V = root) = bb at Heq ⊢
        have heq := fun U => Heq.out U
        clear hC hr fb hl hR HT HL hPd
        go_enter Try.func21, Try.ntmps21
        go_wp2_with fail
        refine (Hlf.out _).mono ?_
        rintro x w5 ⟨rfl, rfl⟩
        go_wp2_with (refine wpList_load_row rfl 28 _ rfl (w.heap.size + 1) rfl 28 (ints .u8 leaf) (0, 0) _ A1.out Try.underlying28 rfl (by rw [ints_size, HLL.out]; exact sizeKey) ?_)
        refine (Hp.out _ (Below.refl _ _)).mono ?_
        rintro x w5 ⟨v5, rfl, ho, hb⟩
        have B5 := Lib.hid (below_call B0.out B0.out.size hb)
        have A05 := Lib.hid (keep_block A0.out hb)
        clear ho hb
        have LA := laid_below w5 (ints .u8 z32) (ints .u8 V) 28
        have B6 := Lib.hid (below_call B5.out B5.out.size LA)
        have A06 := Lib.hid (keep_block A05.out LA)
        have F6 := Lib.hid (laid_new w5 (ints .u8 z32) (ints .u8 V) 28)
        have HS6 : Hid (((w5.alloc (.cells (ints .u8 z32) 28)).setRow w5.heap.size (ints .u8 V)) = ((w5.alloc (.cells (ints .u8 z32) 28)).setRow w5.heap.size (ints .u8 V))) := Lib.hid rfl
        clear LA
        rw [Hz.out] at A06 F6
        go_wp2_with (first | (refine wpList_store_row rfl 28 _ _ rfl w5.heap.size (ints .u8 V) rfl rfl 28 (ints .u8 z32) (by rw [Hz.out]; exact heap_alloc_last _ _) (by rw [ints_size, HV.out.1]; exact sizeKey) (by rw [ints_size, ints_size, HV.out.1]; rfl) (ints_one _ _) ?_) | (refine wpList_load_row_g2 (by rfl) 28 (.tmp 13) rfl (w5.heap.size) rfl 28 (ints .u8 V) (0, 0) _ F6.out Try.underlying28 rfl (by rw [ints_size, HV.out.1]; exact sizeKey) ?_) | (refine wpList_load_row_g2 (by rfl) 28 (.tmp 5) rfl (w.heap.size) rfl 28 (ints .u8 root) (0, 0) _ A06.out Try.underlying28 rfl (by rw [ints_size, HRL.out]; exact sizeKey) ?_))
        go_ret2
        rw [← Hz.out]
        exact ⟨rfl, B6.out⟩
      · have Hp := Lib.hid (fun U => pairs_no n' i' (by omega) (by omega) leaf a P cap hP (by rw [HT.out]; exact hPd) U)
        rw [decide_eq_false hPd, Bool.false_and]
        clear hC hr fb hl hR HT HL hPd HV
        go_enter Try.func21, Try.ntmps21
        go_wp2_with fail
        refine (Hlf.out _).mono ?_
        rintro x w5 ⟨rfl, rfl⟩
        go_wp2_with (refine wpList_load_row rfl 28 _ rfl (w.heap.size + 1) rfl 28 (ints .u8 leaf) (0, 0) _ A1.out Try.underlying28 rfl (by rw [ints_size, HLL.out]; exact sizeKey) ?_)
        refine (Hp.out _).mono ?_
        rintro x w5 ⟨rfl, hb⟩
        have B5 := Lib.hid (below_call B0.out B0.out.size hb)
        clear hb
        have LA := laid_below w5 (ints .u8 z32) (ints .u8 z32) 28
        have B6 := Lib.hid (below_call B5.out B5.out.size LA)
        clear LA
        go_wp2_with (refine wpList_store_row rfl 28 _ _ rfl w5.heap.size (ints .u8 z32) rfl rfl 28 (ints .u8 z32) (by rw [Hz.out]; exact heap_alloc_last _ _) (by kernel_rfl) rfl (ints_one _ _) ?_)
        go_ret2
        rw [← Hz.out]
        exact ⟨rfl, B6.out⟩
    · rw [if_neg hC, if_neg hC]
      have Hlf := Lib.hid (fun U => leaf_no n i hC U)
      go_enter Try.func21, Try.ntmps21
      go_wp2_with fail
      refine (Hlf.out _).mono ?_
      rintro x w5 ⟨rfl, rfl⟩
      go_wp2_with fail
      go_ret2
      exact ⟨rfl, B0.out⟩
end Go.Proofs.Ytcbcfjflaplkoaa
