/- The source of choices from which the statements draw: its steps. -/
import Derived.BigQuiet
import Derived.Laws.Bits64b
import Derived.Test.YtfnmmpnmbommeaaWalk
import Derived.Test.YtfnmmpnmbommeaaRd
namespace Go.Proofs.Ytfnmmpnmbommeaa
open Go.ChangeShapes Go.WideShapes Go.ChangeAt Go.RowKit
set_option linter.unusedVariables false
set_option linter.unusedSimpArgs false
/-- Bytes that can be read, in a block below g. -/
def SrcR (g n : Nat) (a : Option Addr) (W : World) : Prop := 0 < n → ∃ b o, a = some ⟨b, o, none⟩ ∧ b < g ∧ ∀ j, j < n → ∃ z : Int, 0 ≤ z ∧ z ≤ 255 ∧ W.cell? ⟨b, o + j, none⟩ = some (.int .u8 z)
/-- A source, at a place. -/
def Src (g at' : Nat) (W : World) : Prop := ∃ a n c s, W.heap[g]? = some (.cells #[.slice a n c, .int .i64 (at' : Int), .int .u64 s] 114) ∧ n ≤ 1048576 ∧ 0 ≤ s ∧ s ≤ 18446744073709551615 ∧ SrcR g n a W
theorem cell_same {w w' : World} {b o : Nat} (h : w'.heap[b]? = w.heap[b]?) : w'.cell? ⟨b, o, none⟩ = w.cell? ⟨b, o, none⟩ := by
  unfold World.cell?
  simp only [h]
theorem SrcR.keep {g n B : Nat} {a : Option Addr} {w w' : World} (h : SrcR g n a w) (hg : g ≤ B) (k : Keep B (· = g) w w') : SrcR g n a w' := fun hn => by
  obtain ⟨b, o, e, hb, hz⟩ := h hn
  exact ⟨b, o, e, hb, fun j hj => by
    obtain ⟨z, h0, h1, hc⟩ := hz j hj
    exact ⟨z, h0, h1, (cell_same (k.block b (by omega) (by omega))).trans hc⟩⟩
theorem Keep.cellS {B : Nat} {X : Nat → Prop} {w : World} {p : Addr} {v : Value} (hx : X p.block) : Keep B X w (w.setCell p v) :=
  ⟨rfl, rfl, rfl, by simp [World.setCell], fun k _ hk => heap_setCell_other w p k v (fun h => hk (h ▸ hx))⟩
theorem Src.lt {g at' : Nat} {w : World} (h : Src g at' w) : g < w.heap.size := by
  obtain ⟨a, n, c, s, hb, _⟩ := h
  exact (Array.getElem?_eq_some_iff.1 hb).1
theorem Src.below {g at' B : Nat} {w w' : World} (h : Src g at' w) (hB : g < B) (hb : Below B w w') : Src g at' w' := by
  obtain ⟨a, n, c, s, hx, h1, h2, h3, h4⟩ := h
  exact ⟨a, n, c, s, (hb.block g hB).trans hx, h1, h2, h3, h4.keep (Nat.le_of_lt hB) (Keep.of _ hb)⟩
theorem wrap_u64_range (n : Int) : 0 ≤ IntKind.u64.wrap n ∧ IntKind.u64.wrap n ≤ 18446744073709551615 := by
  simp [IntKind.wrap, IntKind.signed, IntKind.bits]
  omega
theorem low_byte (x : Int) (h0 : 0 ≤ x) (h1 : x ≤ 18446744073709551615) : 0 ≤ wrap64 (bits BinOp.and IntKind.u64 x 255) ∧ wrap64 (bits BinOp.and IntKind.u64 x 255) ≤ 255 := by
  have h := bits_and_u64_nat x.toNat 255 (by omega) (by omega)
  rw [Int.toNat_of_nonneg h0] at h
  have e : bits BinOp.and IntKind.u64 x 255 = ((x.toNat &&& 255 : Nat) : Int) := h
  have hl : x.toNat &&& 255 ≤ 255 := Nat.and_le_right
  rw [e]
  unfold wrap64
  omega
theorem src_after {g at' n c : Nat} {a : Option Addr} {s s' : Int} {W : World} (k k2 : Nat) (hb : W.heap[g]? = some (.cells #[.slice a n c, .int .i64 (at' : Int), .int .u64 s] 114)) (hn : n ≤ 1048576) (hr : SrcR g n a W) (h0 : 0 ≤ s') (h1 : s' ≤ 18446744073709551615) :
    Src g (at' + 1) ((((W.drewN k).setCell ⟨g, 1, none⟩ (.int .i64 ((at' : Int) + 1))).setCell ⟨g, 2, none⟩ (.int .u64 s')).drewN k2) ∧ Keep W.heap.size (· = g) W ((((W.drewN k).setCell ⟨g, 1, none⟩ (.int .i64 ((at' : Int) + 1))).setCell ⟨g, 2, none⟩ (.int .u64 s')).drewN k2) := by
  have d1 : (W.drewN k).heap[g]? = some (.cells #[.slice a n c, .int .i64 (at' : Int), .int .u64 s] 114) := hb
  have d2 := heap_setCell_same (W.drewN k) g 1 _ _ (.int .i64 ((at' : Int) + 1)) d1
  have d3 := heap_setCell_same _ g 2 _ _ (.int .u64 s') d2
  have K : Keep W.heap.size (· = g) W ((((W.drewN k).setCell ⟨g, 1, none⟩ (.int .i64 ((at' : Int) + 1))).setCell ⟨g, 2, none⟩ (.int .u64 s')).drewN k2) :=
    (((Keep.of _ (below_drewN (Below.refl _ _) k)).trans (Keep.cellS (X := (· = g)) (p := ⟨g, 1, none⟩) (v := .int .i64 ((at' : Int) + 1)) rfl)).trans (Keep.cellS (X := (· = g)) (p := ⟨g, 2, none⟩) (v := .int .u64 s') rfl)).trans (Keep.of _ (below_drewN (Below.refl _ _) k2))
  refine ⟨⟨a, n, c, s', ?_, hn, h0, h1, hr.keep (Nat.le_of_lt (Array.getElem?_eq_some_iff.1 hb).1) K⟩, K⟩
  have e : ((at' + 1 : Nat) : Int) = (at' : Int) + 1 := by omega
  rw [e]
  exact d3
set_option maxRecDepth 100000 in
set_option maxHeartbeats 2000000 in
theorem next_src (g at' : Nat) (hat : at' ≤ 1000000) (W : World) (hs : Src g at' W) :
    Calls Try.prog 92 #[.pointer (some ⟨g, 0, none⟩)] W fun x w' => ∃ b : Int, x = .returned (.int .i64 b) ∧ 0 ≤ b ∧ b ≤ 255 ∧ Src g (at' + 1) w' ∧ Keep W.heap.size (· = g) W w' := by
  have hlt := hs.lt
  obtain ⟨a, n, c, s, hb, hn, s0, s1, hr⟩ := hs
  have c0 : W.cell? ⟨g, 0, none⟩ = some (.slice a n c) := (cell_of_row W g 0 _ _ _ hb).trans rfl
  have c1 : W.cell? ⟨g, 1, none⟩ = some (.int .i64 (at' : Int)) := (cell_of_row W g 1 _ _ _ hb).trans rfl
  have c2 : W.cell? ⟨g, 2, none⟩ = some (.int .u64 s) := (cell_of_row W g 2 _ _ _ hb).trans rfl
  have f1 : W.frozen? ⟨g, 1, none⟩ = false := frozen_of_row W g 1 _ _ hb
  have f2 : W.frozen? ⟨g, 2, none⟩ = false := frozen_of_row W g 2 _ _ hb
  have HB := Lib.hid hb
  have HR := Lib.hid hr
  clear hb hr
  by_cases h : at' < n
  · obtain ⟨b, o, rfl, hbg, hz⟩ := HR.out (by omega)
    obtain ⟨z, z0, z1, hc⟩ := hz at' h
    have k1 : (at' : Int) < (n : Int) := by omega
    have k2 : (0 : Int) ≤ (at' : Int) := by omega
    have k3 : (at' : Int) + 1 ≤ (n : Int) := by omega
    go_enter Try.func92, Try.ntmps92
    go_wp2
    go_quiet (fail)
    go_wp2
    go_quiet (fail)
    go_wp2
    go_quiet (fail)
    go_wp2
    go_ret
    exact ⟨z, rfl, z0, z1, src_after _ _ HB.out hn HR.out (wrap_u64_range _).1 (wrap_u64_range _).2⟩
  · have k1 : ¬ (at' : Int) < (n : Int) := by omega
    have k2 : (0 : Int) ≤ (at' : Int) := by omega
    have k3 : ¬ (at' : Int) + 1 ≤ (n : Int) := by omega
    go_enter Try.func92, Try.ntmps92
    go_wp2
    go_quiet (fail)
    go_wp2
    go_quiet (fail)
    go_wp2
    go_ret
    have hw := wrap_u64_range (IntKind.u64.wrap (IntKind.u64.wrap (s * 6364136223846793005)) + 1442695040888963407)
    have hl := low_byte (IntKind.u64.wrap (IntKind.u64.wrap (IntKind.u64.wrap (s * 6364136223846793005)) + 1442695040888963407) / 1099511627776) (by omega) (by omega)
    exact ⟨_, rfl, hl.1, hl.2, src_after _ _ HB.out hn HR.out hw.1 hw.2⟩
set_option maxHeartbeats 2000000 in
theorem from_src (a : Option Addr) (n c : Nat) (l : List Int) (hn : n ≤ 1048576) (hl : ∀ z ∈ l, 0 ≤ z ∧ z ≤ 255) (w : World) (hr : Rd .u8 w a n l) :
    Calls Try.prog 52 #[.slice a n c] w fun x w' => x = .returned (.pointer (some ⟨w.heap.size, 0, none⟩)) ∧ Src w.heap.size 0 w' ∧ Below w.heap.size w w' := by
  have B := Lib.hid ((Below.refl w.heap.size w).alloc (Nat.le_refl _) (.cells #[.slice a n c, .int .i64 0, .int .u64 0] 114))
  have G := Lib.hid (heap_alloc_last w (.cells #[.slice a n c, .int .i64 0, .int .u64 0] 114))
  have R : Hid (SrcR w.heap.size n a w) := Lib.hid (fun h0 => by
    obtain ⟨h1, h2⟩ := hr
    rcases h2 with h2 | ⟨b, o, e, hb, hc⟩
    · omega
    · refine ⟨b, o, e, hb, fun j hj => ⟨l[j]'(by omega), (hl _ (List.getElem_mem _)).1, (hl _ (List.getElem_mem _)).2, ?_⟩⟩
      rw [hc j hj]
      simp [List.getElem?_eq_getElem (show j < l.length by omega)])
  clear hr
  go_enter Try.func52, Try.ntmps52
  go_wp2
  go_ret
  exact ⟨rfl, ⟨a, n, c, 0, G.out, hn, by omega, by omega, R.out.keep (Nat.le_refl _) (Keep.of _ B.out)⟩, B.out⟩
set_option maxRecDepth 100000 in
set_option maxHeartbeats 2000000 in
theorem pick_src (g at' : Nat) (n : Int) (h1 : 1 ≤ n) (h2 : n ≤ 1000000) (hat : at' ≤ 999000) (W : World) (hs : Src g at' W) :
    Calls Try.prog 53 #[.pointer (some ⟨g, 0, none⟩), .int .i64 n] W fun x w' => ∃ (r : Int) (at2 : Nat), x = .returned (.int .i64 r) ∧ 0 ≤ r ∧ r < n ∧ at2 ≤ at' + 2 ∧ Src g at2 w' ∧ Keep W.heap.size (· = g) W w' := by
  have HS := Lib.hid hs
  have Hn := Lib.hid (next_src g at' (by omega) W hs)
  have Hn2 := Lib.hid (fun U h => next_src g (at' + 1) (by omega) U h)
  clear hs
  by_cases k1 : n ≤ 1
  · go_enter Try.func53, Try.ntmps53
    go_wp2_with fail
    go_ret
    exact ⟨0, at', rfl, by omega, by omega, by omega, HS.out, Keep.refl _ _ _⟩
  · have k3 : (n == 0) = false := by rw [beq_eq_false_iff_ne]; omega
    have k4 : n ≠ 0 := by omega
    by_cases k2 : 200 < n
    · go_enter Try.func53, Try.ntmps53
      go_wp2_with fail
      refine Hn.out.mono ?_
      rintro x w1 ⟨b, rfl, b0, b1, hs1, hk1⟩
      have S1 := Lib.hid hs1
      have K1 := Lib.hid hk1
      clear hs1 hk1
      go_wp2_with fail
      refine (Hn2.out _ S1.out).mono ?_
      rintro x w2 ⟨d, rfl, d0, d1, hs2, hk2⟩
      have S2 := Lib.hid hs2
      have K2 := Lib.hid (K1.out.trans (hk2.mono K1.out.size))
      clear hs2 hk2
      go_wp2_with fail
      go_ret
      refine ⟨_, at' + 1 + 1, rfl, ?_, ?_, by omega, S2.out, K2.out⟩
      · exact Int.emod_nonneg _ k4
      · exact Int.emod_lt_of_pos _ (by omega)
    · go_enter Try.func53, Try.ntmps53
      go_wp2_with fail
      refine Hn.out.mono ?_
      rintro x w1 ⟨b, rfl, b0, b1, hs1, hk1⟩
      have S1 := Lib.hid hs1
      have K1 := Lib.hid hk1
      clear hs1 hk1
      go_wp2_with fail
      go_ret
      refine ⟨_, at' + 1, rfl, ?_, ?_, by omega, S1.out, K1.out⟩
      · exact Int.emod_nonneg _ k4
      · exact Int.emod_lt_of_pos _ (by omega)
set_option maxHeartbeats 2000000 in
theorem one_src (g at' : Nat) (n : Int) (h1 : 1 ≤ n) (h2 : n ≤ 1000000) (hat : at' ≤ 999000) (W : World) (hs : Src g at' W) :
    Calls Try.prog 117 #[.pointer (some ⟨g, 0, none⟩), .int .i64 n] W fun x w' => ∃ (r : Bool) (at2 : Nat), x = .returned (.bool r) ∧ at2 ≤ at' + 2 ∧ Src g at2 w' ∧ Keep W.heap.size (· = g) W w' := by
  have Hp := Lib.hid (pick_src g at' n h1 h2 hat W hs)
  clear hs
  go_enter Try.func117, Try.ntmps117
  go_wp2_with fail
  refine Hp.out.mono ?_
  rintro x w1 ⟨r, at2, rfl, r0, r1, ha, hs1, hk1⟩
  go_wp2_with fail
  go_ret
  exact ⟨_, at2, rfl, ha, hs1, hk1⟩
end Go.Proofs.Ytfnmmpnmbommeaa
