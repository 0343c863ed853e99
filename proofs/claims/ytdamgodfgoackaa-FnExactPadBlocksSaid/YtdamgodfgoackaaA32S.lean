/- Slices of arrays of 32 bytes: held against each other, marked, and looked at again. -/
import Derived.Test.YtdamgodfgoackaaPadS
import Derived.Test.YtdamgodfgoackaaMarkO
namespace Go.Proofs.Ytdamgodfgoackaa
open Go.ChangeShapes Go.WideShapes Go.ChangeAt Go.RowKit
set_option linter.unusedVariables false
set_option maxHeartbeats 1000000 in
theorem eqA32 (l : List Int) (hl : l.length = 32) (w : World) :
    Calls Try.prog 83 #[.agg (ints .u8 l), .agg (ints .u8 l)] w fun e w' => e = .returned (.bool true) ∧ Below w.heap.size w w' := by
  have Hl := Lib.hid hl
  clear hl
  go_enter Try.func83, Try.ntmps83
  go_wp2
  go_loopw [5] (fun i wr => ∃ k : Nat, k ≤ 32 ∧ i = .int .i64 k ∧ Below w.heap.size w wr ∧ wr.heap[w.heap.size]? = some (.cells (ints .u8 l) 23) ∧ wr.heap[w.heap.size + 1]? = some (.cells (ints .u8 l) 23)) (fun i _ => 32 - (intOf i).toNat)
  case atStart => exact ⟨0, by omega, rfl, ((Below.refl _ _).alloc (by simp) _).alloc (by simp) _, heap_alloc2_old _ _ _, heap_alloc2_new _ _ _⟩
  case round =>
    obtain ⟨k, hk, rfl, hb, h1, h2⟩ := hrel
    have H1 := Lib.hid h1
    have H2 := Lib.hid h2
    have Hb := Lib.hid hb
    clear hb
    by_cases hlt : k < 32
    · have hg := ints_get .u8 l k (by rw [Hl.out]; exact hlt)
      have c1 := cell_of_row wr w.heap.size k _ _ _ h1
      have c2 := cell_of_row wr (w.heap.size + 1) k _ _ _ h2
      rw [hg] at c1 c2
      clear h1 h2 hg
      go_wp2
      go_quiet (fail)
      go_wp2
      go_roundw
      case rel => exact ⟨k + 1, by omega, by go_num, below_drewN Hb.out _, H1.out, H2.out⟩
      case measure => simp [intOf]; omega
    · obtain rfl : k = 32 := by omega
      clear h1 h2
      go_wp2
      go_ret
      exact ⟨rfl, Hb.out⟩
set_option maxHeartbeats 1000000 in
theorem eqA0 (a b : Option Addr) (ca cb : Nat) (w : World) :
    Calls Try.prog 32 #[.slice a 0 ca, .slice b 0 cb] w fun e w' => e = .returned (.bool true) ∧ Below w.heap.size w w' := by
  go_enter Try.func32, Try.ntmps32
  go_wp2
  refine wp_loop_rounds 1 ?_
  rw [rounds_succ]
  go_wp2
  go_ret
  exact ⟨rfl, Below.refl _ _⟩
set_option maxRecDepth 100000 in
set_option maxHeartbeats 2000000 in
theorem eqA32S (a b : Option Addr) (n ca cb : Nat) (L : List Int) (hn : n ≤ 1048576) (w : World) (hr : RdK w a n L) (hs : RdK w b n L) :
    Calls Try.prog 32 #[.slice a n ca, .slice b n cb] w fun e w' => e = .returned (.bool true) ∧ Below w.heap.size w w' := by
  obtain ⟨hl, hr⟩ := hr
  obtain ⟨_, hs⟩ := hs
  by_cases hz : n = 0
  · subst hz
    exact eqA0 a b ca cb w
  obtain ⟨b1, o1, rfl, hb1, hc1⟩ := hr.resolve_left hz
  obtain ⟨b2, o2, rfl, hb2, hc2⟩ := hs.resolve_left hz
  have Hl := Lib.hid hl
  have Hc1 := Lib.hid hc1
  have Hc2 := Lib.hid hc2
  have Hb1 := Lib.hid hb1
  have Hb2 := Lib.hid hb2
  clear hl hc1 hc2 hr hs hb1 hb2
  go_enter Try.func32, Try.ntmps32
  go_wp2
  go_loopw [5] (fun i wr => ∃ k : Nat, k ≤ n ∧ i = .int .i64 k ∧ Below w.heap.size w wr) (fun i _ => n - (intOf i).toNat)
  case atStart => exact ⟨0, by omega, rfl, Below.refl _ _⟩
  case round =>
    obtain ⟨k, hk, rfl, hbl⟩ := hrel
    have Hbl := Lib.hid hbl
    clear hbl
    by_cases hlt : k < n
    · have H1 := Lib.hid (keyAt_rangeAt (w := wr) (b := b1) (off := o1) Hl.out (fun j hj => by rw [Hbl.out.cell (p := ⟨b1, o1 + j, none⟩) Hb1.out]; exact Hc1.out j hj) k hlt)
      have H2 := Lib.hid (keyAt_rangeAt (w := wr) (b := b2) (off := o2) Hl.out (fun j hj => by rw [Hbl.out.cell (p := ⟨b2, o2 + j, none⟩) Hb2.out]; exact Hc2.out j hj) k hlt)
      have Hkl := Lib.hid (keyAt_len Hl.out hlt)
      generalize keyAt L k = K at H1 H2 Hkl
      have b0 : (0 : Int) ≤ (k : Int) := by omega
      have b1' : (k : Int) < (n : Int) := by omega
      go_wp2_with fail
      refine wp_region_held_drew (S := Below wr.heap.size wr) (by kernel_rfl) ((Below.refl _ _).drew) (fun hS => ?_)
      refine wpAnyH_take (i := 0) (v := .slice (some ⟨b1, o1, none⟩) n ca) rfl (by kernel_rfl) (by kernel_rfl) (by kernel_rfl) (fun _ _ _ h => h) (Or.inl ⟨by rfl, fun W hW => by go_simp⟩) hS ?_
      simp only [Act.put]
      refine wpAnyH_take (i := 1) (v := .int .i64 (k : Int)) rfl (by kernel_rfl) (by kernel_rfl) (by kernel_rfl) (fun _ _ _ h => h) (Or.inl ⟨by rfl, fun W hW => by go_simp⟩) hS ?_
      simp only [Act.put]
      refine wpAnyH_take (i := 2) (v := .pointer (some ⟨b1, o1 + k * 32, none⟩)) rfl (by kernel_rfl) (by kernel_rfl) (by kernel_rfl) (fun _ _ _ h => h) (Or.inl ⟨by rfl, fun W hW => by go_simp⟩) hS ?_
      simp only [Act.put]
      refine wpAnyH_take (i := 3) (v := _) rfl (by kernel_rfl) (by kernel_rfl) (by kernel_rfl) (fun _ _ _ h => h) (yieldsIf_load_mid (by rfl) 23 _ rfl b1 (o1 + k * 32) rfl (K.map (Value.int .u8)) _ (fun W hW => rangeAt_below H1.out hW) Try.underlying23 rfl (by rw [List.length_map, Hkl.out]; exact sizeA32)) hS ?_
      simp only [Act.put]
      refine wpAnyH_take (i := 4) (v := .slice (some ⟨b2, o2, none⟩) n cb) rfl (by kernel_rfl) (by kernel_rfl) (by kernel_rfl) (fun _ _ _ h => h) (Or.inl ⟨by rfl, fun W hW => by go_simp⟩) hS ?_
      simp only [Act.put]
      refine wpAnyH_take (i := 5) (v := .int .i64 (k : Int)) rfl (by kernel_rfl) (by kernel_rfl) (by kernel_rfl) (fun _ _ _ h => h) (Or.inl ⟨by rfl, fun W hW => by go_simp⟩) hS ?_
      simp only [Act.put]
      refine wpAnyH_take (i := 6) (v := .pointer (some ⟨b2, o2 + k * 32, none⟩)) rfl (by kernel_rfl) (by kernel_rfl) (by kernel_rfl) (fun _ _ _ h => h) (Or.inl ⟨by rfl, fun W hW => by go_simp⟩) hS ?_
      simp only [Act.put]
      refine wpAnyH_take (i := 7) (v := _) rfl (by kernel_rfl) (by kernel_rfl) (by kernel_rfl) (fun _ _ _ h => h) (yieldsIf_load_mid (by rfl) 23 _ rfl b2 (o2 + k * 32) rfl (K.map (Value.int .u8)) _ (fun W hW => rangeAt_below H2.out hW) Try.underlying23 rfl (by rw [List.length_map, Hkl.out]; exact sizeA32)) hS ?_
      simp only [Act.put]
      refine wpAnyH_ready (rs := [8]) (by kernel_rfl) (by simp) ?_
      refine AllReadyH.cons rfl (fun K' hK => ?_) AllReadyH.nil
      rw [if_pos (by rfl)]
      go_simp
      refine (eqA32 K Hkl.out _).mono ?_
      rintro e w1 ⟨rfl, hb⟩
      refine hK.out _ _ (below_call hS hS.size hb) (fun hS => ?_)
      clear hb hK
      refine wpAnyH_ready (rs := [9]) (by kernel_rfl) (by simp) ?_
      refine AllReadyH.cons rfl (fun K' hK => ?_) AllReadyH.nil
      rw [if_pos (by rfl)]
      go_simp
      refine hK.out _ _ hS (fun hS => ?_)
      refine wpAnyH_done (by kernel_rfl) ?_ _
      have HS := Lib.hid (Hbl.out.trans (hS.mono Hbl.out.size))
      clear hS hK
      go_wp2_with fail
      go_roundw
      case rel => exact ⟨k + 1, by omega, by go_num, HS.out⟩
      case measure => simp [intOf]; omega
    · obtain rfl : k = n := by omega
      go_wp2
      go_ret
      exact ⟨rfl, Hbl.out⟩
set_option maxHeartbeats 1000000 in
theorem markA0 (a : Option Addr) (cap : Nat) (k0 : Int) (w : World) :
    Calls Try.prog 34 #[.slice a 0 cap, .int .i64 k0] w fun e w' => e = .returned (.int .i64 k0) ∧ w' = w := by
  go_enter Try.func34, Try.ntmps34
  go_wp2
  refine wp_loop_rounds 1 ?_
  rw [rounds_succ]
  go_wp2
  go_ret
  exact ⟨rfl, rfl⟩
set_option maxHeartbeats 1000000 in
theorem heldA0 (a : Option Addr) (cap : Nat) (k0 : Int) (w : World) :
    Calls Try.prog 35 #[.slice a 0 cap, .int .i64 k0] w fun e w' => e = .returned (.int .i64 k0) ∧ w' = w := by
  go_enter Try.func35, Try.ntmps35
  go_wp2
  refine wp_loop_rounds 1 ?_
  rw [rounds_succ]
  go_wp2
  go_ret
  exact ⟨rfl, rfl⟩
set_option maxRecDepth 100000 in
set_option maxHeartbeats 2000000 in
theorem markA (g n cap : Nat) (cur : Array Value) (k0 : Int) (h0 : 0 ≤ k0) (h1 : k0 ≤ 1099511627776) (hn : n ≤ 1048576) (hs : 32 * n ≤ cur.size) (w : World) (hg : w.heap[g]? = some (.cells cur 23)) :
    Calls Try.prog 34 #[.slice (some ⟨g, 0, none⟩) n cap, .int .i64 k0] w fun e w' => e = .returned (.int .i64 (k0 + (32 * n : Nat))) ∧ RdK w' (some ⟨g, 0, none⟩) n (markL k0 (32 * n)) ∧ Below g w w' := by
  have Hg := Lib.hid hg
  clear hg
  go_enter Try.func34, Try.ntmps34
  go_wp2
  go_loopw [1, 5] (fun m i wr => ∃ k : Nat, k ≤ n ∧ i = .int .i64 k ∧ m = .int .i64 (k0 + (32 * k : Nat)) ∧ (∃ ck : Array Value, wr.heap[g]? = some (.cells ck 23) ∧ ck.size = cur.size ∧ ∀ j, j < 32 * k → ck[j]? = some (.int .u8 ((markL k0 (32 * n))[j]?.getD 0))) ∧ Below g w wr) (fun _ i _ => n - (intOf i).toNat)
  case atStart => exact ⟨0, by omega, rfl, by simp, ⟨cur, Hg.out, rfl, fun j hj => by omega⟩, Below.refl _ _⟩
  case round =>
    obtain ⟨k, hk, rfl, rfl, ⟨ck, hh, hsz, hck⟩, hb⟩ := hrel
    have HB := Lib.hid hb
    have HK := Lib.hid hck
    have HH := Lib.hid hh
    clear hb hck hh
    by_cases hlt : k < n
    · go_wp2
      go_loopw [1, 6] (fun m i wr => ∃ q : Nat, q ≤ 32 ∧ i = .int .i64 q ∧ m = .int .i64 (k0 + (32 * k + q : Nat)) ∧ (∃ ck : Array Value, wr.heap[g]? = some (.cells ck 23) ∧ ck.size = cur.size ∧ ∀ j, j < 32 * k + q → ck[j]? = some (.int .u8 ((markL k0 (32 * n))[j]?.getD 0))) ∧ Below g w wr) (fun _ i _ => 32 - (intOf i).toNat)
      case atStart => exact ⟨0, by omega, rfl, rfl, ⟨ck, HH.out, hsz, HK.out⟩, HB.out⟩
      case round =>
        obtain ⟨q, hq, rfl, rfl, ⟨ck2, hh2, hsz2, hck2⟩, hb2⟩ := hrel
        have HB2 := Lib.hid hb2
        have HK2 := Lib.hid hck2
        have HH2 := Lib.hid hh2
        clear hb2 hck2 HK HH HB
        by_cases hlt2 : q < 32
        · have c1 := cell_of_row _ g (k * 32 + q) _ _ _ hh2
          have f1 := frozen_of_row _ g (k * 32 + q) _ _ hh2
          rw [Array.getElem?_eq_getElem (by omega)] at c1
          generalize ck2[k * 32 + q]'(by omega) = old at c1
          clear hh2
          have HM := Lib.hid (markL_at k0 (32 * n) (k * 32 + q) (by omega))
          generalize hm : k0 + ((k * 32 + q : Nat) : Int) = m at HM
          have hmm : k0 + ((32 * k + q : Nat) : Int) = m := by omega
          have HN := Lib.hid hmm
          rw [hmm]
          have hm0 : 0 ≤ m := by omega
          have hm1 : m ≤ 1099545182208 := by omega
          have b0 : (0 : Int) ≤ (k : Int) := by omega
          have b1 : (k : Int) < (n : Int) := by omega
          have b2 : (0 : Int) ≤ (q : Int) := by omega
          have b3 : (q : Int) < 32 := by omega
          clear hm hmm
          go_wp2
          go_roundw
          case rel =>
            refine ⟨q + 1, by omega, by go_num, by rw [← HN.out]; congr 1; push_cast; omega, ⟨ck2.setIfInBounds (k * 32 + q) (.int .u8 (m % 256)), ?_, by simp; exact hsz2, fun j hj => ?_⟩, HB2.out.setCell (by simp) _⟩
            · exact heap_setCell_same _ _ _ _ _ _ HH2.out
            · by_cases hjk : j = k * 32 + q
              · subst hjk
                rw [Array.getElem?_setIfInBounds_self_of_lt (by omega), HM.out]
              · rw [Array.getElem?_setIfInBounds_ne (by omega)]
                exact HK2.out j (by omega)
          case measure => simp [intOf]; omega
        · obtain rfl : q = 32 := by omega
          have b0 : (0 : Int) ≤ (k : Int) := by omega
          have b1 : (k : Int) < (n : Int) := by omega
          have hm0 : 0 ≤ k0 + ((32 * k + 32 : Nat) : Int) := by omega
          generalize hm : k0 + ((32 * k + 32 : Nat) : Int) = m at hm0
          have HQ := Lib.hid hm
          clear hm
          go_wp2
          go_roundw
          case rel => exact ⟨k + 1, by omega, by go_num, by congr 1; have := HQ.out; omega, ⟨ck2, HH2.out, hsz2, fun j hj => HK2.out j (by omega)⟩, HB2.out⟩
          case measure => simp [intOf]; omega
    · obtain rfl : k = n := by omega
      have hm0 : 0 ≤ k0 + ((32 * k : Nat) : Int) := by omega
      generalize hm : k0 + ((32 * k : Nat) : Int) = m at hm0
      go_wp2
      go_ret
      exact ⟨by show Ending.returned (Value.int .i64 m) = _; rw [← hm], ⟨by rw [markL_len], Or.inr ⟨g, 0, rfl, (Array.getElem?_eq_some_iff.1 HH.out).1, fun j hj => by rw [Nat.zero_add, cell_of_row _ g j _ _ _ HH.out]; exact HK.out j hj⟩⟩, HB.out⟩
set_option maxRecDepth 100000 in
set_option maxHeartbeats 2000000 in
theorem heldA (a : Option Addr) (n cap : Nat) (k0 : Int) (h0 : 0 ≤ k0) (h1 : k0 ≤ 1099511627776) (hn : n ≤ 1048576) (w : World) (hr : RdK w a n (markL k0 (32 * n))) :
    Calls Try.prog 35 #[.slice a n cap, .int .i64 k0] w fun e w' => e = .returned (.int .i64 (k0 + (32 * n : Nat))) ∧ w' = w := by
  by_cases hz : n = 0
  · subst hz
    simpa using heldA0 a cap k0 w
  obtain ⟨_, hr⟩ := hr
  obtain ⟨g, off, rfl, hb, hc⟩ := hr.resolve_left hz
  have HC := Lib.hid hc
  clear hc hr
  go_enter Try.func35, Try.ntmps35
  go_wp2
  go_loopw [1, 5] (fun m i wr => ∃ k : Nat, k ≤ n ∧ i = .int .i64 k ∧ m = .int .i64 (k0 + (32 * k : Nat)) ∧ wr = w) (fun _ i _ => n - (intOf i).toNat)
  case atStart => exact ⟨0, by omega, rfl, by simp, rfl⟩
  case round =>
    obtain ⟨k, hk, rfl, rfl, hw⟩ := hrel
    have HW := Lib.hid hw
    clear hw
    by_cases hlt : k < n
    · go_wp2
      go_loopw [1, 6] (fun m i wr => ∃ q : Nat, q ≤ 32 ∧ i = .int .i64 q ∧ m = .int .i64 (k0 + (32 * k + q : Nat)) ∧ wr = w) (fun _ i _ => 32 - (intOf i).toNat)
      case atStart => exact ⟨0, by omega, rfl, rfl, HW.out⟩
      case round =>
        obtain ⟨q, hq, rfl, rfl, hw⟩ := hrel
        have HW2 := Lib.hid hw
        by_cases hlt2 : q < 32
        · have c1 := HC.out (k * 32 + q) (by omega)
          rw [markL_at k0 (32 * n) (k * 32 + q) (by omega), ← hw, ← Nat.add_assoc] at c1
          generalize hm : k0 + ((k * 32 + q : Nat) : Int) = m at c1
          have hmm : k0 + ((32 * k + q : Nat) : Int) = m := by omega
          have HN := Lib.hid hmm
          rw [hmm]
          have hm0 : 0 ≤ m := by omega
          have hm1 : m ≤ 1099545182208 := by omega
          have b0 : (0 : Int) ≤ (k : Int) := by omega
          have b1 : (k : Int) < (n : Int) := by omega
          have b2 : (0 : Int) ≤ (q : Int) := by omega
          have b3 : (q : Int) < 32 := by omega
          clear hm hmm hw
          go_wp2
          trace_state
          go_roundw
          case rel => exact ⟨q + 1, by omega, by go_num, by rw [← HN.out]; congr 1; push_cast; omega, HW2.out⟩
          case measure => simp [intOf]; omega
        · obtain rfl : q = 32 := by omega
          have b0 : (0 : Int) ≤ (k : Int) := by omega
          have b1 : (k : Int) < (n : Int) := by omega
          have hm0 : 0 ≤ k0 + ((32 * k + 32 : Nat) : Int) := by omega
          generalize hm : k0 + ((32 * k + 32 : Nat) : Int) = m at hm0
          have HQ := Lib.hid hm
          clear hm hw
          go_wp2
          go_roundw
          case rel => exact ⟨k + 1, by omega, by go_num, by congr 1; have := HQ.out; omega, HW2.out⟩
          case measure => simp [intOf]; omega
    · obtain rfl : k = n := by omega
      have hm0 : 0 ≤ k0 + ((32 * k : Nat) : Int) := by omega
      generalize hm : k0 + ((32 * k : Nat) : Int) = m at hm0
      go_wp2
      go_ret
      exact ⟨by show Ending.returned (Value.int .i64 m) = _; rw [← hm], HW.out⟩
end Go.Proofs.Ytdamgodfgoackaa
