/- The key of a list, by the program and by the specification. Written by wip/gen/listkey.py. -/
import Derived.Test.YtjijgckljjcfiaaLeaves
import Derived.Test.YtjijgckljjcfiaaTreeS
namespace Go.Proofs.Ytjijgckljjcfiaa
open Go.ChangeShapes Go.WideShapes Go.ChangeAt Go.RowKit
set_option linter.unusedVariables false
set_option maxRecDepth 100000 in
set_option maxHeartbeats 2000000 in
theorem leaves_impl (blk off n cap : Nat) (fl : List Int) (h1 : 1 ≤ n) (hn : n ≤ 1048576) (fb : ∀ z ∈ fl, 0 ≤ z ∧ z ≤ 255) (w : World) (hr : RdK w (some ⟨blk, off, none⟩) n fl) :
    Calls Try.prog 61 #[.slice (some ⟨blk, off, none⟩) n cap, .func (.func 46) #[] #[]] w fun x w' => x = .returned (.agg (ints .u8 (tkey (keyAt fl) 0 n))) ∧ Below w.heap.size w w' := by
  have Hz := Lib.hid z32_ints
  have HV := Lib.hid (walkT_leaves fl n 0 h1)
  have hlt : blk < w.heap.size := by
    rcases hr.2 with h | ⟨b', o', e, h, _⟩
    · omega
    · cases e; exact h
  have BW := Lib.hid (((Below.refl w.heap.size w).alloc (Nat.le_refl _) (.cells #[.slice (some ⟨blk, off, none⟩) n cap] 24)).alloc (by simp) (.cells (ints .u8 z32) 28))
  have GS := Lib.hid (heap_alloc2_old w (.cells #[.slice (some ⟨blk, off, none⟩) n cap] 24) (.cells (ints .u8 z32) 28))
  have GK := Lib.hid (heap_alloc2_new w (.cells #[.slice (some ⟨blk, off, none⟩) n cap] 24) (.cells (ints .u8 z32) 28))
  obtain ⟨W0, hW0⟩ : ∃ W0, (w.alloc (.cells #[.slice (some ⟨blk, off, none⟩) n cap] 24)).alloc (.cells (ints .u8 z32) 28) = W0 := ⟨_, rfl⟩
  have HSZ : Hid (W0.heap.size = w.heap.size + 1 + 1) := Lib.hid (by rw [← hW0]; simp)
  rw [hW0] at BW GS GK
  have Ht := Lib.hid (tree_impl (leaf_tells W0.heap.size w.heap.size blk off n cap fl hn fb) n () W0 h1 (Nat.le_refl _) (Nat.le_refl _) ⟨by have := HSZ.out; omega, by have := HSZ.out; omega, GS.out, hr.below BW.out⟩)
  rw [HV.out] at Ht
  have cs := cell_of_one GS.out
  clear hr fb HV hlt
  generalize tkey (keyAt fl) 0 n = V at Ht ⊢
  rw [Hz.out] at hW0
  have c0 : (n : Int) ≤ 1048576 := by omega
  go_enter Try.func61, Try.ntmps61
  go_wp2_with fail
  clear hW0 cs
  refine Ht.out.mono ?_
  rintro x w1 ⟨rfl, hg1, hI1, hk1⟩
  have HG1 := Lib.hid hg1
  have hb := hk1.below (Nat.le_refl _) (fun _ h => h.elim)
  have G1 := Lib.hid (keep_block GK.out hb)
  have B1 := Lib.hid (below_call BW.out BW.out.size hb)
  clear hg1 hI1 hk1 hb
  go_wp2_with (refine wpList_store_row rfl 28 (.tmp 4) _ rfl (w.heap.size + 1) (ints .u8 V) rfl rfl 28 (ints .u8 z32) G1.out (by rw [ints_size, HG1.out.1]; exact sizeKey) (by rw [ints_size, ints_size, HG1.out.1]; rfl) (ints_one _ _) ?_)
  refine bodyPost_ret (results_cell_row rfl _ _ (w.heap.size + 1) 28 (ints .u8 V) (0, 0) _ rfl (setRow_heap _ _ (ints .u8 z32) _ _ _ G1.out) Try.underlying28 rfl (by rw [ints_size, HG1.out.1]; exact sizeKey)) rfl ⟨rfl, ?_⟩
  exact Below.setRow B1.out (by omega) _
/-- The key of a list, and the code. -/
def lkeyV (fl : List Int) (n : Nat) : List Int := if 256 < n then z32 else if n = 0 then hashK 3 [] else tkey (keyAt fl) 0 n
def lkeyE (n : Nat) : Int := if 256 < n then 3 else 0
theorem lkeyV_len {fl : List Int} {n : Nat} (h : fl.length = 32 * n) : (lkeyV fl n).length = 32 := by
  unfold lkeyV
  split
  · rfl
  · split
    · exact hashK_len _ _
    · exact tkey_len (by omega) (fun i hi => by rw [Nat.zero_add]; exact keyAt_len h hi)
set_option maxRecDepth 100000 in
set_option maxHeartbeats 2000000 in
theorem listkey_impl (a : Option Addr) (n cap : Nat) (fl : List Int) (hn : n ≤ 1048576) (fb : ∀ z ∈ fl, 0 ≤ z ∧ z ≤ 255) (w : World) (hr : RdK w a n fl) :
    Calls Try.prog 18 #[.slice a n cap] w fun x w' => x = .returned (.tuple #[.agg (ints .u8 (lkeyV fl n)), .int .i64 (lkeyE n)]) ∧ Below w.heap.size w w' := by
  have Hz := Lib.hid z32_ints
  have Hvl := Lib.hid (lkeyV_len hr.1)
  have BW := Lib.hid ((Below.refl w.heap.size w).alloc (Nat.le_refl _) (.cells (ints .u8 z32) 28))
  have GK := Lib.hid (heap_alloc_last w (.cells (ints .u8 z32) 28))
  obtain ⟨W0, hW0⟩ : ∃ W0, w.alloc (.cells (ints .u8 z32) 28) = W0 := ⟨_, rfl⟩
  rw [hW0] at BW GK
  by_cases h1 : 256 < n
  · have e1 : lkeyV fl n = z32 := by unfold lkeyV; rw [if_pos h1]
    have e2 : lkeyE n = 3 := by unfold lkeyE; rw [if_pos h1]
    rw [e1, e2]
    clear e1 e2 hr fb
    have c0 : (256 : Int) < (n : Int) := by omega
    rw [Hz.out] at hW0
    go_enter Try.func18, Try.ntmps18
    go_wp2_with (refine wpList_store_row rfl 28 (.tmp 2) _ rfl w.heap.size (ints .u8 z32) rfl (by rw [Hz.out]; rfl) 28 (ints .u8 z32) GK.out (by kernel_rfl) rfl (ints_one _ _) ?_)
    refine bodyPost_ret (results_cell2_row rfl _ _ w.heap.size 28 (ints .u8 z32) (0, 0) _ rfl (setRow_heap _ _ (ints .u8 z32) _ _ _ GK.out) Try.underlying28 rfl (by kernel_rfl)) rfl ⟨rfl, ?_⟩
    exact Below.setRow BW.out (Nat.le_refl _) _
  · have c0 : (n : Int) ≤ 256 := by omega
    have e2 : lkeyE n = 0 := by unfold lkeyE; rw [if_neg h1]
    rw [e2]
    by_cases h0 : n = 0
    · subst h0
      have e1 : lkeyV fl 0 = hashK 3 [] := by unfold lkeyV; rw [if_neg (by omega), if_pos rfl]
      rw [e1] at Hvl ⊢
      have Hh := Lib.hid (fun W => hasho_impl 3 none 0 0 [] (by omega) (by omega) (by simp) (by omega) W ⟨rfl, Or.inl rfl⟩)
      have hv : hashV 3 [] = hashK 3 [] := by unfold hashV; rw [if_pos (by simp)]
      have he : hashE [] = 0 := by unfold hashE; rw [if_pos (by simp)]
      rw [hv, he] at Hh
      clear e1 e2 hr fb hv he
      generalize hashK 3 [] = V at Hh Hvl ⊢
      rw [Hz.out] at hW0
      go_enter Try.func18, Try.ntmps18
      go_wp2_with fail
      clear hW0
      refine (Hh.out _).mono ?_
      rintro x w1 ⟨rfl, hb⟩
      have G1 := Lib.hid (keep_block GK.out hb)
      have B1 := Lib.hid (below_call BW.out BW.out.size hb)
      clear hb
      go_wp2_with (refine wpList_store_row rfl 28 (.tmp 2) _ rfl w.heap.size (ints .u8 V) rfl rfl 28 (ints .u8 z32) G1.out (by rw [ints_size, Hvl.out]; exact sizeKey) (by rw [ints_size, ints_size, Hvl.out]; rfl) (ints_one _ _) ?_)
      refine bodyPost_ret (results_cell2_row rfl _ _ w.heap.size 28 (ints .u8 V) (0, 0) _ rfl (setRow_heap _ _ (ints .u8 z32) _ _ _ G1.out) Try.underlying28 rfl (by rw [ints_size, Hvl.out]; exact sizeKey)) rfl ⟨rfl, ?_⟩
      exact Below.setRow B1.out (Nat.le_refl _) _
    · have e1 : lkeyV fl n = tkey (keyAt fl) 0 n := by unfold lkeyV; rw [if_neg h1, if_neg h0]
      rw [e1] at Hvl ⊢
      obtain ⟨blk, off, rfl⟩ := hr.form (by omega)
      have Hl := Lib.hid (fun W hW => leaves_impl blk off n cap fl (by omega) hn fb W hW)
      have Hr := Lib.hid (hr.below BW.out)
      have c1 : (0 : Int) < (n : Int) := by omega
      clear e1 e2 hr fb
      generalize tkey (keyAt fl) 0 n = V at Hl Hvl ⊢
      rw [Hz.out] at hW0
      go_enter Try.func18, Try.ntmps18
      go_wp2_with fail
      clear hW0
      refine (Hl.out _ Hr.out).mono ?_
      rintro x w1 ⟨rfl, hb⟩
      have G1 := Lib.hid (keep_block GK.out hb)
      have B1 := Lib.hid (below_call BW.out BW.out.size hb)
      clear hb
      go_wp2_with (refine wpList_store_row rfl 28 (.tmp 2) _ rfl w.heap.size (ints .u8 V) rfl rfl 28 (ints .u8 z32) G1.out (by rw [ints_size, Hvl.out]; exact sizeKey) (by rw [ints_size, ints_size, Hvl.out]; rfl) (ints_one _ _) ?_)
      refine bodyPost_ret (results_cell2_row rfl _ _ w.heap.size 28 (ints .u8 V) (0, 0) _ rfl (setRow_heap _ _ (ints .u8 z32) _ _ _ G1.out) Try.underlying28 rfl (by rw [ints_size, Hvl.out]; exact sizeKey)) rfl ⟨rfl, ?_⟩
      exact Below.setRow B1.out (Nat.le_refl _) _
set_option maxRecDepth 100000 in
set_option maxHeartbeats 1000000 in
theorem key_spec0 (a : Option Addr) (cap : Nat) (fl : List Int) (w : World) :
    Calls Try.prog 85 #[.slice a 0 cap] w fun e w' => e = .returned (.agg (ints .u8 (hashK 3 []))) ∧ Below w.heap.size w w' := by
  have Hz := Lib.hid z32_ints
  have Hvl := Lib.hid (hashK_len 3 [])
  have BW := Lib.hid ((Below.refl w.heap.size w).alloc (Nat.le_refl _) (.cells (ints .u8 z32) 28))
  have GK := Lib.hid (heap_alloc_last w (.cells (ints .u8 z32) 28))
  obtain ⟨W0, hW0⟩ : ∃ W0, w.alloc (.cells (ints .u8 z32) 28) = W0 := ⟨_, rfl⟩
  rw [hW0] at BW GK
  have Hh := Lib.hid (hash_spec 3 W0.heap.size 0 0 0 [] (by omega) (by omega) (by simp) (by omega) (W0.alloc (.cells #[] 5)) rfl (by simp) (fun j hj => by omega))
  have B2 := Lib.hid (BW.out.alloc BW.out.size (.cells #[] 5))
  have G2 := Lib.hid (keep_block GK.out ((Below.refl _ _).alloc (Nat.le_refl _) (.cells #[] 5)))
  generalize hashK 3 [] = V at Hh Hvl ⊢
  rw [Hz.out] at hW0
  go_enter Try.func85, Try.ntmps85
  go_wp2_with fail
  clear hW0
  refine Hh.out.mono ?_
  rintro x w1 ⟨rfl, hb⟩
  have G1 := Lib.hid (keep_block G2.out hb)
  have B1 := Lib.hid (below_call B2.out B2.out.size hb)
  clear hb
  go_wp2_with (refine wpList_store_row rfl 28 (.tmp 2) _ rfl w.heap.size (ints .u8 V) rfl rfl 28 (ints .u8 z32) G1.out (by rw [ints_size, Hvl.out]; exact sizeKey) (by rw [ints_size, ints_size, Hvl.out]; rfl) (ints_one _ _) ?_)
  refine bodyPost_ret (results_cell_row rfl _ _ w.heap.size 28 (ints .u8 V) (0, 0) _ rfl (setRow_heap _ _ (ints .u8 z32) _ _ _ G1.out) Try.underlying28 rfl (by rw [ints_size, Hvl.out]; exact sizeKey)) rfl ⟨rfl, ?_⟩
  exact Below.setRow B1.out (Nat.le_refl _) _
set_option maxRecDepth 100000 in
set_option maxHeartbeats 2000000 in
theorem listkey_spec (a : Option Addr) (n cap : Nat) (fl : List Int) (hn : n ≤ 1048576) (hc : n ≤ cap) (hm : cap ≤ maxLen) (fb : ∀ z ∈ fl, 0 ≤ z ∧ z ≤ 255) (w : World) (hr : RdK w a n fl) :
    Calls Try.prog 41 #[.slice a n cap] w fun x w' => x = .returned (.tuple #[.agg (ints .u8 (lkeyV fl n)), .int .i64 (lkeyE n)]) ∧ Below w.heap.size w w' := by
  have Hz := Lib.hid z32_ints
  have Hvl := Lib.hid (lkeyV_len hr.1)
  have BW := Lib.hid ((Below.refl w.heap.size w).alloc (Nat.le_refl _) (.cells (ints .u8 z32) 28))
  have GK := Lib.hid (heap_alloc_last w (.cells (ints .u8 z32) 28))
  obtain ⟨W0, hW0⟩ : ∃ W0, w.alloc (.cells (ints .u8 z32) 28) = W0 := ⟨_, rfl⟩
  rw [hW0] at BW GK
  by_cases h1 : 256 < n
  · have e1 : lkeyV fl n = z32 := by unfold lkeyV; rw [if_pos h1]
    have e2 : lkeyE n = 3 := by unfold lkeyE; rw [if_pos h1]
    rw [e1, e2]
    clear e1 e2 hr fb
    have c0 : (256 : Int) < (n : Int) := by omega
    rw [Hz.out] at hW0
    go_enter Try.func41, Try.ntmps41
    go_wp2_with (refine wpList_store_row rfl 28 (.tmp 2) _ rfl w.heap.size (ints .u8 z32) rfl (by rw [Hz.out]; rfl) 28 (ints .u8 z32) GK.out (by kernel_rfl) rfl (ints_one _ _) ?_)
    refine bodyPost_ret (results_cell2_row rfl _ _ w.heap.size 28 (ints .u8 z32) (0, 0) _ rfl (setRow_heap _ _ (ints .u8 z32) _ _ _ GK.out) Try.underlying28 rfl (by kernel_rfl)) rfl ⟨rfl, ?_⟩
    exact Below.setRow BW.out (Nat.le_refl _) _
  · have c0 : (n : Int) ≤ 256 := by omega
    have e2 : lkeyE n = 0 := by unfold lkeyE; rw [if_neg h1]
    rw [e2]
    by_cases h0 : n = 0
    · subst h0
      have e1 : lkeyV fl 0 = hashK 3 [] := by unfold lkeyV; rw [if_neg (by omega), if_pos rfl]
      rw [e1] at Hvl ⊢
      have Hh := Lib.hid (fun W => key_spec0 a cap fl W)
      clear e1 e2 hr fb
      generalize hashK 3 [] = V at Hh Hvl ⊢
      rw [Hz.out] at hW0
      go_enter Try.func41, Try.ntmps41
      go_wp2_with fail
      clear hW0
      refine (Hh.out _).mono ?_
      rintro x w1 ⟨rfl, hb⟩
      have G1 := Lib.hid (keep_block GK.out hb)
      have B1 := Lib.hid (below_call BW.out BW.out.size hb)
      clear hb
      go_wp2_with (refine wpList_store_row rfl 28 (.tmp 2) _ rfl w.heap.size (ints .u8 V) rfl rfl 28 (ints .u8 z32) G1.out (by rw [ints_size, Hvl.out]; exact sizeKey) (by rw [ints_size, ints_size, Hvl.out]; rfl) (ints_one _ _) ?_)
      refine bodyPost_ret (results_cell2_row rfl _ _ w.heap.size 28 (ints .u8 V) (0, 0) _ rfl (setRow_heap _ _ (ints .u8 z32) _ _ _ G1.out) Try.underlying28 rfl (by rw [ints_size, Hvl.out]; exact sizeKey)) rfl ⟨rfl, ?_⟩
      exact Below.setRow B1.out (Nat.le_refl _) _
    · have e1 : lkeyV fl n = tkey (keyAt fl) 0 n := by unfold lkeyV; rw [if_neg h1, if_neg h0]
      rw [e1] at Hvl ⊢
      obtain ⟨blk, off, rfl⟩ := hr.form (by omega)
      have Hl := Lib.hid (fun W hW => key_spec n blk off cap fl W (by omega) hn hc hm fb hW)
      have Hr := Lib.hid (hr.below BW.out)
      have c1 : (0 : Int) < (n : Int) := by omega
      clear e1 e2 hr fb
      generalize tkey (keyAt fl) 0 n = V at Hl Hvl ⊢
      rw [Hz.out] at hW0
      go_enter Try.func41, Try.ntmps41
      go_wp2_with fail
      clear hW0
      refine (Hl.out _ Hr.out).mono ?_
      rintro x w1 ⟨rfl, hb⟩
      have G1 := Lib.hid (keep_block GK.out hb)
      have B1 := Lib.hid (below_call BW.out BW.out.size hb)
      clear hb
      go_wp2_with (refine wpList_store_row rfl 28 (.tmp 2) _ rfl w.heap.size (ints .u8 V) rfl rfl 28 (ints .u8 z32) G1.out (by rw [ints_size, Hvl.out]; exact sizeKey) (by rw [ints_size, ints_size, Hvl.out]; rfl) (ints_one _ _) ?_)
      refine bodyPost_ret (results_cell2_row rfl _ _ w.heap.size 28 (ints .u8 V) (0, 0) _ rfl (setRow_heap _ _ (ints .u8 z32) _ _ _ G1.out) Try.underlying28 rfl (by rw [ints_size, Hvl.out]; exact sizeKey)) rfl ⟨rfl, ?_⟩
      exact Below.setRow B1.out (Nat.le_refl _) _
end Go.Proofs.Ytjijgckljjcfiaa
