/- Valid nodes, their bytes and keys: program and specification. Written by wip/gen/src.py. -/
import Derived.Test.YtmkddiconpacnaaNbI
import Derived.Test.YtmkddiconpacnaaOwnB
import Derived.Test.YtmkddiconpacnaaPrioE
import Derived.Test.YtmkddiconpacnaaPairI
namespace Go.Proofs.Ytmkddiconpacnaa
open Go.ChangeShapes Go.WideShapes Go.ChangeAt Go.RowKit
set_option linter.unusedVariables false
set_option linter.unusedSimpArgs false
set_option maxRecDepth 100000 in
set_option maxHeartbeats 1000000 in
theorem valid_node (l r : List Int) (nm vl : ByteArray) (hl : l.length = 32) (hr : r.length = 32) (hs : nm.size ≤ maxLen) (ht : vl.size ≤ maxLen) (w : World) :
    Calls Try.prog 79 #[.agg (nodC l r nm vl)] w fun e w' => e = .returned (.bool (entB nm vl)) ∧ Below w.heap.size w w' := by
  have A0 := heap_alloc_last w (.cells (nodC l r nm vl) 45)
  obtain ⟨c64, c65⟩ := nod_texts hl hr A0
  have HV := Lib.hid (fun U => entry_impl nm vl hs ht U)
  clear A0 hl hr hs ht
  go_enter Try.func79, Try.ntmps79
  go_wp2_with fail
  refine (HV.out _).mono ?_
  rintro e w1 ⟨rfl, hb⟩
  have B1 := Lib.hid (below_call ((Below.refl w.heap.size w).alloc (Nat.le_refl _) (.cells (nodC l r nm vl) 45)) (by simp) hb)
  clear hb
  go_wp2
  go_ret
  exact ⟨rfl, B1.out⟩
def mbE (nm vl : ByteArray) : Int := if entB nm vl = true then 0 else 1
def mbV (l r : List Int) (nm vl : ByteArray) : List Int := if entB nm vl = true then nodB l r nm vl else []
def mbN (nm vl : ByteArray) : Nat := if entB nm vl = true then 65 + nm.size + vl.size else 0
theorem entB_sizes {nm vl : ByteArray} (h : entB nm vl = true) : 1 ≤ nm.size ∧ nm.size ≤ 24 ∧ vl.size ≤ 64 := by
  unfold entB isNm isVl at h
  simp only [Bool.and_eq_true, decide_eq_true_eq] at h
  exact ⟨h.1.1, h.1.2, h.2⟩
theorem mbN_le (nm vl : ByteArray) : mbN nm vl ≤ 153 := by
  unfold mbN
  split
  · rename_i h
    have := entB_sizes h
    omega
  · omega
set_option maxRecDepth 100000 in
set_option maxHeartbeats 2000000 in
theorem mb_impl (l r : List Int) (nm vl : ByteArray) (hl : l.length = 32) (hr : r.length = 32) (hs : nm.size ≤ maxLen) (ht : vl.size ≤ maxLen) (w : World) :
    Calls Try.prog 27 #[.agg (nodC l r nm vl)] w fun e w' => ∃ v, e = .returned (.tuple #[v, .int .i64 (mbE nm vl)]) ∧ OwnB w' w.heap.size v (mbN nm vl) (mbV l r nm vl) ∧ Below w.heap.size w w' := by
  have HS := Lib.hid (nodC_size nm vl hl hr)
  have A0 := heap_alloc_last w (.cells (nodC l r nm vl) 45)
  have B0 := (Below.refl w.heap.size w).alloc (Nat.le_refl _) (.cells (nodC l r nm vl) 45)
  obtain ⟨W0, hW0⟩ : ∃ W0, w.alloc (.cells (nodC l r nm vl) 45) = W0 := ⟨_, rfl⟩
  rw [hW0] at A0 B0
  have A0' := Lib.hid A0
  have B0' := Lib.hid B0
  have HV := Lib.hid (fun U => valid_node l r nm vl hl hr hs ht U)
  have HL := Lib.hid (nodB_len nm vl hl hr)
  unfold mbE mbV mbN
  cases hv : entB nm vl with
  | true =>
    obtain ⟨s1, s2, s3⟩ := entB_sizes hv
    rw [hv] at HV
    have HB := Lib.hid (fun U => nb_impl l r nm vl hl hr s1 s2 s3 U)
    rw [if_pos rfl, if_pos rfl, if_pos rfl]
    clear hv s1 s2 s3 A0 B0 hl hr hs ht
    go_enter Try.func27, Try.ntmps27
    go_wp2_with (refine wpList_load_row rfl 45 _ rfl w.heap.size rfl 45 (nodC l r nm vl) (0, 0) _ A0'.out Try.underlying45 rfl (by rw [HS.out]; exact sizeNode) ?_)
    refine (HV.out _).mono ?_
    rintro e w1 ⟨rfl, hb⟩
    have B1 := Lib.hid (below_call B0'.out B0'.out.size hb)
    have A1 := Lib.hid (keep_block A0'.out hb)
    clear hb hW0
    go_wp2_with (refine wpList_load_row rfl 45 _ rfl w.heap.size rfl 45 (nodC l r nm vl) (0, 0) _ A1.out Try.underlying45 rfl (by rw [HS.out]; exact sizeNode) ?_)
    refine (HB.out _).mono ?_
    rintro e w2 ⟨g, L, rfl, hg, hh, hb⟩
    have B2 := Lib.hid (below_call B1.out B1.out.size hb)
    have O2 := Lib.hid (OwnB.of_block (cap := 65 + nm.size + vl.size) HL.out (Nat.le_trans B1.out.size hg) hh)
    clear hg hh hb
    go_wp2_with fail
    go_ret2
    exact ⟨_, rfl, O2.out, B2.out⟩
  | false =>
    rw [hv] at HV
    rw [if_neg (by simp), if_neg (by simp), if_neg (by simp)]
    clear hv A0 B0 hl hr hs ht
    go_enter Try.func27, Try.ntmps27
    go_wp2_with (refine wpList_load_row rfl 45 _ rfl w.heap.size rfl 45 (nodC l r nm vl) (0, 0) _ A0'.out Try.underlying45 rfl (by rw [HS.out]; exact sizeNode) ?_)
    refine (HV.out _).mono ?_
    rintro e w1 ⟨rfl, hb⟩
    have B1 := Lib.hid (below_call B0'.out B0'.out.size hb)
    clear hb hW0
    go_wp2_with fail
    go_ret2
    exact ⟨_, rfl, OwnB.nil _ _ _ _, B1.out⟩
set_option maxRecDepth 100000 in
set_option maxHeartbeats 2000000 in
theorem mb_spec (l r : List Int) (nm vl : ByteArray) (hl : l.length = 32) (hr : r.length = 32) (hs : nm.size ≤ maxLen) (ht : vl.size ≤ maxLen) (w : World) :
    Calls Try.prog 25 #[.agg (nodC l r nm vl)] w fun e w' => ∃ a cap, e = .returned (.tuple #[.slice a (mbN nm vl) cap, .int .i64 (mbE nm vl)]) ∧ Rd .u8 w' a (mbN nm vl) (mbV l r nm vl) ∧ Below w.heap.size w w' := by
  have A0 := heap_alloc_last w (.cells (nodC l r nm vl) 45)
  have B0 := (Below.refl w.heap.size w).alloc (Nat.le_refl _) (.cells (nodC l r nm vl) 45)
  obtain ⟨W0, hW0⟩ : ∃ W0, w.alloc (.cells (nodC l r nm vl) 45) = W0 := ⟨_, rfl⟩
  rw [hW0] at A0 B0
  obtain ⟨c64, c65⟩ := nod_texts hl hr A0
  have HV := Lib.hid (entry_spec w.heap.size 64 nm vl hs ht W0 c64 c65)
  have A0' := Lib.hid A0
  have B0' := Lib.hid B0
  unfold mbE mbV mbN
  cases hv : entB nm vl with
  | true =>
    obtain ⟨s1, s2, s3⟩ := entB_sizes hv
    rw [hv] at HV
    have HB := Lib.hid (nb_spec w.heap.size l r nm vl hl hr s2 s3 W0 A0)
    rw [if_pos rfl, if_pos rfl, if_pos rfl]
    clear hv s1 s2 s3 A0 B0 hl hr hs ht c64 c65
    go_enter Try.func25, Try.ntmps25
    go_wp2_with fail
    refine HV.out.mono ?_
    rintro e w1 ⟨rfl, rfl⟩
    go_wp2_with fail
    refine HB.out.mono ?_
    rintro e w2 ⟨v, rfl, ho, hb⟩
    have B2 := Lib.hid (below_call B0'.out B0'.out.size hb)
    obtain ⟨a, cap, rfl, hrd⟩ := Rd.owned ho
    have R2 := Lib.hid hrd
    clear ho hb hrd
    go_wp2_with fail
    go_ret2
    exact ⟨_, _, rfl, R2.out, B2.out⟩
  | false =>
    rw [hv] at HV
    rw [if_neg (by simp), if_neg (by simp), if_neg (by simp)]
    have B1 := Lib.hid (B0.alloc B0.size (.cells #[] 5))
    clear hv A0 B0 hl hr hs ht c64 c65
    go_enter Try.func25, Try.ntmps25
    go_wp2_with fail
    refine HV.out.mono ?_
    rintro e w1 ⟨rfl, rfl⟩
    go_wp2_with fail
    go_ret2
    exact ⟨_, _, rfl, ⟨rfl, Or.inl rfl⟩, B1.out⟩
end Go.Proofs.Ytmkddiconpacnaa
