/- The key of a node: program and specification. Written by wip/gen/src.py. -/
import Derived.Test.YtmkddiconpacnaaNodV
import Derived.Test.YtmkddiconpacnaaPrioE
import Derived.Test.YtmkddiconpacnaaHash
namespace Go.Proofs.Ytmkddiconpacnaa
open Go.ChangeShapes Go.WideShapes Go.ChangeAt Go.RowKit
set_option linter.unusedVariables false
set_option linter.unusedSimpArgs false
def nkey (l r : List Int) (nm vl : ByteArray) : List Int := hashK 5 (nodB l r nm vl)
theorem nkey_len (l r : List Int) (nm vl : ByteArray) : (nkey l r nm vl).length = 32 := hashK_len _ _
def mkV (l r : List Int) (nm vl : ByteArray) : List Int := if entB nm vl = true then nkey l r nm vl else z32
theorem mkV_len (l r : List Int) (nm vl : ByteArray) : (mkV l r nm vl).length = 32 := by
  unfold mkV
  split
  · exact nkey_len _ _ _ _
  · rfl
theorem Rd.form {κ : IntKind} {w : World} {a : Option Addr} {n : Nat} {l : List Int} (h : Rd κ w a n l) (h0 : 0 < n) : ∃ b off, a = some ⟨b, off, none⟩ ∧ b < w.heap.size ∧ ∀ j, j < n → w.cell? ⟨b, off + j, none⟩ = some (.int κ (l[j]?.getD 0)) := by
  rcases h.2 with h0' | ⟨b, off, e, hb, hc⟩
  · omega
  · exact ⟨b, off, e, hb, hc⟩
set_option maxRecDepth 100000 in
set_option maxHeartbeats 2000000 in
/-- The key of a node that lies in a block, by the specification. -/
theorem nk_spec (g : Nat) (l r : List Int) (nm vl : ByteArray) (hl : Is32' l) (hr : Is32' r) (hn : nm.size ≤ 24) (hv : vl.size ≤ 64) (w : World) (hg : w.heap[g]? = some (.cells (nodC l r nm vl) 45)) :
    Calls Try.prog 82 #[.pointer (some ⟨g, 0, none⟩)] w fun e w' => e = .returned (.agg (ints .u8 (nkey l r nm vl))) ∧ Below w.heap.size w w' := by
  have Hz := Lib.hid z32_ints
  have A0 := heap_alloc_last w (.cells (ints .u8 z32) 43)
  have B0 := (Below.refl w.heap.size w).alloc (Nat.le_refl _) (.cells (ints .u8 z32) 43)
  have G0 := keep_block hg B0
  obtain ⟨W0, hW0⟩ : ∃ W0, w.alloc (.cells (ints .u8 z32) 43) = W0 := ⟨_, rfl⟩
  rw [hW0] at A0 B0 G0
  rw [Hz.out] at hW0
  have A0' := Lib.hid A0
  have B0' := Lib.hid B0
  have HB := Lib.hid (nb_spec g l r nm vl hl.1 hr.1 hn hv W0 G0)
  have HH := Lib.hid (fun (b off cap : Nat) (U : World) h1 h2 => hash_spec 5 b off (65 + nm.size + vl.size) cap (nodB l r nm vl) (by omega) (by omega) (nodB_range hl hr (by omega)) (by omega) U (nodB_len nm vl hl.1 hr.1) h1 h2)
  have HV := Lib.hid (nkey_len l r nm vl)
  rw [show hashK 5 (nodB l r nm vl) = nkey l r nm vl from rfl] at HH
  generalize nkey l r nm vl = V at HH HV ⊢
  clear A0 B0 G0 hg hl hr hn hv
  go_enter Try.func82, Try.ntmps82
  go_wp2_with fail
  clear hW0
  refine HB.out.mono ?_
  rintro e w1 ⟨v, rfl, ho, hb⟩
  have B1 := Lib.hid (below_call B0'.out B0'.out.size hb)
  have A1 := Lib.hid (keep_block A0'.out hb)
  obtain ⟨a, cap, rfl, hrd⟩ := Rd.owned ho
  obtain ⟨b, off, rfl, hb1, hc1⟩ := hrd.form (by omega)
  have HC := Lib.hid (HH.out b off cap w1 hb1 hc1)
  clear ho hb hrd hb1 hc1
  go_wp2_with fail
  refine HC.out.mono ?_
  rintro e w2 ⟨rfl, hb⟩
  have B2 := Lib.hid (below_call B1.out B1.out.size hb)
  have A2 := Lib.hid (keep_block A1.out hb)
  clear hb
  go_wp2_with (refine wpList_store_row rfl 43 _ _ rfl w.heap.size (ints .u8 V) rfl rfl 43 (ints .u8 z32) A2.out (by rw [ints_size, HV.out]; exact sizeKey) (by rw [ints_size, ints_size, HV.out]; rfl) (ints_one _ _) ?_)
  refine bodyPost_ret (results_cell_row rfl _ _ w.heap.size 43 (ints .u8 V) (0, 0) _ rfl (setRow_heap _ _ (ints .u8 z32) _ _ _ A2.out) Try.underlying43 rfl (by rw [ints_size, HV.out]; exact sizeKey)) rfl ⟨rfl, ?_⟩
  exact Below.setRow B2.out (Nat.le_refl _) _
set_option maxRecDepth 100000 in
set_option maxHeartbeats 2000000 in
theorem mk_spec (l r : List Int) (nm vl : ByteArray) (hl : Is32' l) (hr : Is32' r) (hs : nm.size ≤ maxLen) (ht : vl.size ≤ maxLen) (w : World) :
    Calls Try.prog 35 #[.agg (nodC l r nm vl)] w fun e w' => e = .returned (.tuple #[.agg (ints .u8 (mkV l r nm vl)), .int .i64 (mbE nm vl)]) ∧ Below w.heap.size w w' := by
  have Hz := Lib.hid z32_ints
  have A0 := heap_alloc2_old w (.cells (nodC l r nm vl) 45) (.cells (ints .u8 z32) 43)
  have A1 := heap_alloc2_new w (.cells (nodC l r nm vl) 45) (.cells (ints .u8 z32) 43)
  have B0 := ((Below.refl w.heap.size w).alloc (Nat.le_refl _) (.cells (nodC l r nm vl) 45)).alloc (by simp) (.cells (ints .u8 z32) 43)
  obtain ⟨W0, hW0⟩ : ∃ W0, (w.alloc (.cells (nodC l r nm vl) 45)).alloc (.cells (ints .u8 z32) 43) = W0 := ⟨_, rfl⟩
  rw [hW0] at A0 A1 B0
  rw [Hz.out] at hW0
  obtain ⟨c64, c65⟩ := nod_texts hl.1 hr.1 A0
  have HE := Lib.hid (entry_spec w.heap.size 64 nm vl hs ht W0 c64 c65)
  have K1 := Lib.hid A1
  have B0' := Lib.hid B0
  have HV := Lib.hid (mkV_len l r nm vl)
  unfold mbE
  cases hv : entB nm vl with
  | true =>
    obtain ⟨s1, s2, s3⟩ := entB_sizes hv
    rw [hv] at HE
    have HB := Lib.hid (nk_spec w.heap.size l r nm vl hl hr s2 s3 W0 A0)
    rw [show nkey l r nm vl = mkV l r nm vl by unfold mkV; rw [if_pos hv]] at HB
    generalize mkV l r nm vl = V at HV HB ⊢
    rw [if_pos rfl]
    clear hv s1 s2 s3 A0 A1 B0 hl hr hs ht c64 c65
    go_enter Try.func35, Try.ntmps35
    go_wp2_with fail
    clear hW0
    refine HE.out.mono ?_
    rintro e w1 ⟨rfl, rfl⟩
    go_wp2_with fail
    refine HB.out.mono ?_
    rintro e w2 ⟨rfl, hb⟩
    have B2 := Lib.hid (below_call B0'.out B0'.out.size hb)
    have K2 := Lib.hid (keep_block K1.out hb)
    clear hb
    go_wp2_with (refine wpList_store_row rfl 43 _ _ rfl (w.heap.size + 1) (ints .u8 V) rfl rfl 43 (ints .u8 z32) K2.out (by rw [ints_size, HV.out]; exact sizeKey) (by rw [ints_size, ints_size, HV.out]; rfl) (ints_one _ _) ?_)
    refine bodyPost_ret (results_cell2_row rfl _ _ (w.heap.size + 1) 43 (ints .u8 V) (0, 0) _ rfl (setRow_heap _ _ (ints .u8 z32) _ _ _ K2.out) Try.underlying43 rfl (by rw [ints_size, HV.out]; exact sizeKey)) rfl ⟨rfl, ?_⟩
    exact Below.setRow B2.out (by omega) _
  | false =>
    rw [hv] at HE
    rw [if_neg (by simp), show mkV l r nm vl = z32 by unfold mkV; rw [if_neg (by rw [hv]; simp)]]
    clear hv A0 A1 B0 hl hr hs ht c64 c65
    go_enter Try.func35, Try.ntmps35
    go_wp2_with fail
    clear hW0
    refine HE.out.mono ?_
    rintro e w1 ⟨rfl, rfl⟩
    go_wp2_with (refine wpList_store_row rfl 43 _ _ rfl (w.heap.size + 1) (ints .u8 z32) rfl rfl 43 (ints .u8 z32) K1.out (by rw [ints_size]; exact sizeKey) rfl (ints_one _ _) ?_)
    refine bodyPost_ret (results_cell2_row rfl _ _ (w.heap.size + 1) 43 (ints .u8 z32) (0, 0) _ rfl (setRow_heap _ _ (ints .u8 z32) _ _ _ K1.out) Try.underlying43 rfl (by rw [ints_size]; exact sizeKey)) rfl ⟨rfl, ?_⟩
    exact Below.setRow B0'.out (by omega) _
set_option maxRecDepth 100000 in
set_option maxHeartbeats 2000000 in
theorem mk_impl (l r : List Int) (nm vl : ByteArray) (hl : Is32' l) (hr : Is32' r) (hs : nm.size ≤ maxLen) (ht : vl.size ≤ maxLen) (w : World) :
    Calls Try.prog 36 #[.agg (nodC l r nm vl)] w fun e w' => e = .returned (.tuple #[.agg (ints .u8 (mkV l r nm vl)), .int .i64 (mbE nm vl)]) ∧ Below w.heap.size w w' := by
  have Hz := Lib.hid z32_ints
  have HS := Lib.hid (nodC_size nm vl hl.1 hr.1)
  have A0 := heap_alloc2_old w (.cells (nodC l r nm vl) 45) (.cells (ints .u8 z32) 43)
  have A1 := heap_alloc2_new w (.cells (nodC l r nm vl) 45) (.cells (ints .u8 z32) 43)
  have B0 := ((Below.refl w.heap.size w).alloc (Nat.le_refl _) (.cells (nodC l r nm vl) 45)).alloc (by simp) (.cells (ints .u8 z32) 43)
  obtain ⟨W0, hW0⟩ : ∃ W0, (w.alloc (.cells (nodC l r nm vl) 45)).alloc (.cells (ints .u8 z32) 43) = W0 := ⟨_, rfl⟩
  rw [hW0] at A0 A1 B0
  rw [Hz.out] at hW0
  have K1 := Lib.hid A1
  have N1 := Lib.hid A0
  have B0' := Lib.hid B0
  have HV := Lib.hid (mkV_len l r nm vl)
  have HE := Lib.hid (fun U => valid_node l r nm vl hl.1 hr.1 hs ht U)
  unfold mbE
  cases hv : entB nm vl with
  | true =>
    obtain ⟨s1, s2, s3⟩ := entB_sizes hv
    rw [hv] at HE
    have HB := Lib.hid (fun U => nb_impl l r nm vl hl.1 hr.1 s1 s2 s3 U)
    have HH := Lib.hid (fun (a : Option Addr) (U : World) h => maph_impl a (65 + nm.size + vl.size) (65 + nm.size + vl.size) (nodB l r nm vl) (nodB_range hl hr (by omega)) (by omega) U h)
    have HLN := Lib.hid (nodB_len nm vl hl.1 hr.1)
    rw [show hashK 5 (nodB l r nm vl) = mkV l r nm vl by unfold mkV nkey; rw [if_pos hv]] at HH
    generalize mkV l r nm vl = V at HV HH ⊢
    rw [if_pos rfl]
    clear hv s1 s2 s3 A0 A1 B0 hl hr hs ht
    go_enter Try.func36, Try.ntmps36
    go_wp2_with (refine wpList_load_row rfl 45 _ rfl w.heap.size rfl 45 (nodC l r nm vl) (0, 0) _ N1.out Try.underlying45 rfl (by rw [HS.out]; exact sizeNode) ?_)
    clear hW0
    refine (HE.out _).mono ?_
    rintro e w1 ⟨rfl, hb⟩
    have B1 := Lib.hid (below_call B0'.out B0'.out.size hb)
    have K2 := Lib.hid (keep_block K1.out hb)
    have N2 := Lib.hid (keep_block N1.out hb)
    clear hb
    go_wp2_with (refine wpList_load_row rfl 45 _ rfl w.heap.size rfl 45 (nodC l r nm vl) (0, 0) _ N2.out Try.underlying45 rfl (by rw [HS.out]; exact sizeNode) ?_)
    refine (HB.out _).mono ?_
    rintro e w2 ⟨g, L, rfl, hg, hh, hb⟩
    have B2 := Lib.hid (below_call B1.out B1.out.size hb)
    have K3 := Lib.hid (keep_block K2.out hb)
    obtain ⟨_, _, e1, hrd, _⟩ := OwnB.of_block (cap := 65 + nm.size + vl.size) (base := 0) HLN.out (Nat.zero_le _) hh
    obtain ⟨rfl, -, -⟩ := Value.slice.inj e1
    have R2 := Lib.hid hrd
    clear hg hh hb e1 hrd
    go_wp2_with fail
    refine (HH.out _ _ R2.out).mono ?_
    rintro e w3 ⟨rfl, hb⟩
    have B3 := Lib.hid (below_call B2.out B2.out.size hb)
    have K4 := Lib.hid (keep_block K3.out hb)
    clear hb
    go_wp2_with (refine wpList_store_row rfl 43 _ _ rfl (w.heap.size + 1) (ints .u8 V) rfl rfl 43 (ints .u8 z32) K4.out (by rw [ints_size, HV.out]; exact sizeKey) (by rw [ints_size, ints_size, HV.out]; rfl) (ints_one _ _) ?_)
    refine bodyPost_ret (results_cell2_row rfl _ _ (w.heap.size + 1) 43 (ints .u8 V) (0, 0) _ rfl (setRow_heap _ _ (ints .u8 z32) _ _ _ K4.out) Try.underlying43 rfl (by rw [ints_size, HV.out]; exact sizeKey)) rfl ⟨rfl, ?_⟩
    exact Below.setRow B3.out (by omega) _
  | false =>
    rw [hv] at HE
    rw [if_neg (by simp), show mkV l r nm vl = z32 by unfold mkV; rw [if_neg (by rw [hv]; simp)]]
    clear hv A0 A1 B0 hl hr hs ht
    go_enter Try.func36, Try.ntmps36
    go_wp2_with (refine wpList_load_row rfl 45 _ rfl w.heap.size rfl 45 (nodC l r nm vl) (0, 0) _ N1.out Try.underlying45 rfl (by rw [HS.out]; exact sizeNode) ?_)
    clear hW0
    refine (HE.out _).mono ?_
    rintro e w1 ⟨rfl, hb⟩
    have B1 := Lib.hid (below_call B0'.out B0'.out.size hb)
    have K2 := Lib.hid (keep_block K1.out hb)
    clear hb
    go_wp2_with (refine wpList_store_row rfl 43 _ _ rfl (w.heap.size + 1) (ints .u8 z32) rfl rfl 43 (ints .u8 z32) K2.out (by rw [ints_size]; exact sizeKey) rfl (ints_one _ _) ?_)
    refine bodyPost_ret (results_cell2_row rfl _ _ (w.heap.size + 1) 43 (ints .u8 z32) (0, 0) _ rfl (setRow_heap _ _ (ints .u8 z32) _ _ _ K2.out) Try.underlying43 rfl (by rw [ints_size]; exact sizeKey)) rfl ⟨rfl, ?_⟩
    exact Below.setRow B1.out (by omega) _
end Go.Proofs.Ytmkddiconpacnaa
