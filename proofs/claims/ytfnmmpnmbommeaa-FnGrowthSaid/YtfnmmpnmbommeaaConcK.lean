/- slices.Concat of lists of keys, in two rounds at most or more. -/
import Derived.Test.YtfnmmpnmbommeaaRangeM
namespace Go.Proofs.Ytfnmmpnmbommeaa
open Go.ChangeShapes Go.WideShapes Go.ChangeAt Go.RowKit
set_option linter.unusedVariables false
set_option linter.unusedSimpArgs false
theorem rdk_cells {w : World} {b off n : Nat} {fl : List Int} (hr : RdK w (some ⟨b, off, none⟩) n fl) (h0 : 0 < n) : ∀ (j : Nat) (u : Value), (fl.map (Value.int .u8))[j]? = some u → w.cell? ((⟨b, off, none⟩ : Addr).add j) = some u := by
  intro j u hu
  obtain ⟨h1, h2⟩ := hr
  rcases h2 with h2 | ⟨b', o', e, _, hc⟩
  · omega
  · cases e
    have hj : j < fl.length := by
      have := (List.getElem?_eq_some_iff.1 hu).1
      simpa using this
    rw [List.getElem?_map, List.getElem?_eq_getElem hj] at hu
    have := hc j (by omega)
    rw [List.getElem?_eq_getElem hj] at this
    rw [show (⟨b, off, none⟩ : Addr).add j = ⟨b, off + j, none⟩ from addr_at _ _ _]
    exact this.trans hu
/-- Keys put behind a slice of one's own. -/
theorem wpList_append_rdk {ops : Array Oper} {rest : List Oper} {o : Oper} {a : Act} {w : World} {Q : Exit → Act → World → Prop} (hgd : o.guard = none) (s x : Operand)
    (ho : o.op = .call { callee := .builtin .append, args := #[s, x], argTypes := #[24, 24] }) (base : Nat)
    (v : Value) (n : Nat) (xs : List Value) (hs : a.eval s = v) (hown : w.ownsRow base 29 32 v n xs)
    (ad : Option Addr) (m c : Nat) (l : List Int) (hx : a.eval x = .slice ad m c) (hr : RdK w ad m l) (hn : n + m ≤ 1073741824) (hbase : base ≤ w.heap.size)
    (h : ∀ v' w', w'.ownsRow base 29 32 v' (n + m) (xs ++ l.map (Value.int .u8)) → Below base w w' → wpList Try.prog ops Q rest (a.put o.dst v') w') : wpList Try.prog ops Q (o :: rest) a w := by
  obtain ⟨i0, z0, hi, hz0, hz1, hz2, hzs, hzc⟩ := keyParts
  by_cases h0 : m = 0
  · subst h0
    obtain rfl : l = [] := List.eq_nil_of_length_eq_zero hr.1
    refine wpList_append_ran hgd s x 24 24 ho v _ hs hx (run_append_zero 24 _ 29 i0 32 Try.underlying24 hi v n xs hown ad c) ?_
    exact h v w (by simpa using hown) (Below.refl _ _)
  · obtain ⟨b, off, rfl⟩ := hr.form (by omega)
    refine wpList_append_own w hgd s x 24 ho base 29 i0 z0 32 32 Try.underlying24 hi hz0 hz1 hz2 hzs (by decide) v n xs hs hown ⟨b, off, none⟩ m c (l.map (Value.int .u8)) hx (by rw [List.length_map, hr.1, Nat.mul_comm]) (rdk_cells hr (by omega)) (fun u hu => ?_) (by simp only [maxLen]; omega) (by omega) hbase (fun v' w' h1 h2 _ => ?_)
    · obtain ⟨z, _, rfl⟩ := List.mem_map.1 hu
      rfl
    · exact h v' w' h1 ((Below.refl base w).grown h2 hbase (fun k e => (hown.lt k e).1))
set_option maxRecDepth 100000 in
set_option maxHeartbeats 1000000 in
theorem growK_impl (n : Nat) (hn : n ≤ 1073741824) (w : World) :
    Calls Try.prog 102 #[.slice none 0 0, .int .i64 (n : Int)] w fun e w' => ∃ v, e = .returned v ∧ w'.ownsRow w.heap.size 29 32 v 0 [] ∧ Below w.heap.size w w' := by
  obtain ⟨i, z, hi, hz, hsz, hby, hzs, hzc⟩ := keyParts
  by_cases h0 : n = 0
  · subst h0
    go_enter Try.func102, Try.ntmps102
    go_wp2
    go_ret
    exact ⟨_, rfl, World.ownsRow_nil _ _ _ _, Below.refl _ _⟩
  · have hr := run_append_zeros (P := Try.prog) w 24 24 29 3 i z .i64 Try.underlying24 Try.underlying3 hi hz n (by omega) (by omega) (by omega) (by rw [hby]; omega) (by rw [nextslicecap_zero (by omega), hby]; omega)
    have hge := grownCap_ge w n 0 29
    have hle := grownCap_le_maxLen w n 0 29 (by simp only [maxLen]; omega)
    have b0 : (0 : Int) < (n : Int) := by omega
    generalize grownCap w n 0 29 = C at hr hge hle
    have HZ := Lib.hid (fun m => show (Builtin.zeroCells z.cells m).size = m * 32 by rw [size_zeroCells, hzs])
    generalize Builtin.zeroCells z.cells = ZC at hr HZ
    clear hzs hzc hz
    go_enter Try.func102, Try.ntmps102
    go_wp2_with (refine wpList_append_ran rfl _ _ 24 3 rfl _ _ rfl rfl hr ?_)
    go_ret
    refine ⟨_, rfl, ⟨rfl, Or.inr ⟨w.heap.size, C, _, rfl, Nat.le_refl _, heap_alloc_last w.drew _, Nat.zero_le _, hle, ?_, rfl⟩⟩, (Below.refl _ w).drew.alloc (by simp) _⟩
    simp only [Array.size_append, HZ.out]
    omega
/-- Keys of several lists, each with its number. -/
def catK (ls : List (Nat × List Int)) (k : Nat) : List Int := ((ls.take k).map (·.2)).flatten
def cntK (ls : List (Nat × List Int)) (k : Nat) : Nat := ((ls.take k).map (·.1)).sum
theorem catK_succ {ls : List (Nat × List Int)} {j : Nat} (h : j < ls.length) : catK ls (j + 1) = catK ls j ++ ls[j].2 := by
  unfold catK
  rw [List.take_succ_eq_append_getElem h, List.map_append, List.flatten_append]
  simp
theorem cntK_succ {ls : List (Nat × List Int)} {j : Nat} (h : j < ls.length) : cntK ls (j + 1) = cntK ls j + ls[j].1 := by
  unfold cntK
  rw [List.take_succ_eq_append_getElem h, List.map_append, List.sum_append]
  simp
theorem cntK_le (ls : List (Nat × List Int)) (j : Nat) : cntK ls j ≤ cntK ls ls.length := by
  unfold cntK
  rw [List.take_length]
  have h : (ls.map (·.1)).sum = ((ls.take j).map (·.1)).sum + ((ls.drop j).map (·.1)).sum := by rw [← List.sum_append, ← List.map_append, List.take_append_drop]
  omega
/-- A slice of lists of keys. -/
def RdSK (w : World) (a : Option Addr) (k : Nat) (ls : List (Nat × List Int)) : Prop :=
  ls.length = k ∧ (k = 0 ∨ ∃ b off, a = some ⟨b, off, none⟩ ∧ b < w.heap.size ∧ ∀ j (h : j < ls.length), ∃ x c, w.cell? ⟨b, off + j, none⟩ = some (.slice x ls[j].1 c) ∧ RdK w x ls[j].1 ls[j].2)
set_option maxRecDepth 100000 in
set_option maxHeartbeats 1000000 in
theorem concatK_impl (a : Option Addr) (k cap : Nat) (ls : List (Nat × List Int)) (hk : k ≤ 1073741824) (ht : cntK ls ls.length ≤ 1048576) (w : World) (hr : RdSK w a k ls) :
    Calls Try.prog 63 #[.slice a k cap] w fun e w' => ∃ v, e = .returned v ∧ w'.ownsRow w.heap.size 29 32 v (cntK ls k) ((catK ls k).map (Value.int .u8)) ∧ Below w.heap.size w w' := by
  have HR := Lib.hid hr
  have Hl := Lib.hid hr.1
  have Hle := Lib.hid (fun j => Nat.le_trans (cntK_le ls j) ht)
  have Hg := Lib.hid (fun (n : Nat) h => growK_impl n h w)
  clear hr ht
  go_enter Try.func63, Try.ntmps63
  go_wp2_with fail
  go_loopw [3, 11] (fun s i wr => ∃ j : Nat, j ≤ k ∧ i = .int .i64 j ∧ s = .int .i64 (cntK ls j : Nat) ∧ w = wr) (fun _ i _ => k - (intOf i).toNat)
  case atStart => exact ⟨0, by omega, rfl, rfl, rfl⟩
  case round =>
    obtain ⟨j, hj, rfl, rfl, rfl⟩ := hrel
    by_cases hlt : j < k
    · have hll : j < ls.length := by rw [Hl.out]; exact hlt
      have Hsu := Lib.hid (cntK_succ hll)
      have Hb := Lib.hid (Hle.out (j + 1))
      rw [Hsu.out] at Hb
      obtain ⟨b, off, rfl, hb, hc⟩ : ∃ b off, a = some ⟨b, off, none⟩ ∧ b < w.heap.size ∧ ∀ j (h : j < ls.length), ∃ x c, w.cell? ⟨b, off + j, none⟩ = some (.slice x ls[j].1 c) ∧ RdK w x ls[j].1 ls[j].2 := by
        rcases HR.out.2 with h0 | h
        · omega
        · exact h
      obtain ⟨x, c, hcell, hrd⟩ := hc j hll
      clear hc hrd
      generalize ls[j].1 = n at Hsu Hb hcell
      generalize hcj : cntK ls j = cj at Hsu Hb
      have Hcj := Lib.hid hcj
      clear hcj
      have Hb' := Hb.out
      have b0 : (0 : Int) ≤ (j : Int) := by omega
      have b1 : (j : Int) < (k : Int) := by omega
      go_wp2_with fail
      exact ⟨⟨j + 1, by omega, by go_num, by rw [Hsu.out]; push_cast; rfl, trivial⟩, by simp [intOf]; omega⟩
    · obtain rfl : j = k := by omega
      have Hft := Lib.hid (show cntK ls j ≤ 1073741824 by have := Hle.out j; omega)
      have Hle2 := Lib.hid (Hle.out j)
      generalize hcj : cntK ls j = cj at Hft Hle2
      have Hcj := Lib.hid hcj
      clear hcj
      go_wp2_with fail
      refine (Hg.out _ Hft.out).mono ?_
      rintro e w1 ⟨v0, rfl, hown, hb⟩
      have HO := Lib.hid hown
      have HB := Lib.hid hb
      clear hown hb
      go_wp2_with fail
      go_loopw [6, 27] (fun v i wr => ∃ q : Nat, q ≤ j ∧ i = .int .i64 q ∧ wr.ownsRow w.heap.size 29 32 v (cntK ls q) ((catK ls q).map (Value.int .u8)) ∧ Below w.heap.size w wr) (fun _ i _ => j - (intOf i).toNat)
      case atStart => exact ⟨0, by omega, rfl, HO.out, HB.out⟩
      case round =>
        obtain ⟨q, hq, rfl, hown, hbw⟩ := hrel
        have HO2 := Lib.hid hown
        have HB2 := Lib.hid hbw
        clear hown hbw
        by_cases hlt : q < j
        · have hll : q < ls.length := by rw [Hl.out]; exact hlt
          have Hsu := Lib.hid (cntK_succ hll)
          have Hsk := Lib.hid (catK_succ hll)
          have Hb := Lib.hid (Hle.out (q + 1))
          rw [Hsu.out] at Hb
          obtain ⟨b, off, rfl, hb, hc⟩ : ∃ b off, a = some ⟨b, off, none⟩ ∧ b < w.heap.size ∧ ∀ j (h : j < ls.length), ∃ x c, w.cell? ⟨b, off + j, none⟩ = some (.slice x ls[j].1 c) ∧ RdK w x ls[j].1 ls[j].2 := by
            rcases HR.out.2 with h0 | h
            · omega
            · exact h
          obtain ⟨x, c, hcell, hrd⟩ := hc q hll
          have hcell2 : wr.cell? ⟨b, off + q, none⟩ = some (.slice x ls[q].1 c) := by rw [HB2.out.cell (p := ⟨b, off + q, none⟩) hb]; exact hcell
          have HRd := Lib.hid (hrd.below HB2.out)
          clear hc hcell hrd
          generalize ls[q].2 = l at Hsk HRd
          generalize ls[q].1 = n at Hsu Hb HRd hcell2
          generalize hcj : cntK ls q = cq at Hsu Hb HO2
          generalize hck : catK ls q = kq at Hsk HO2
          clear hcj hck
          have b0 : (0 : Int) ≤ (q : Int) := by omega
          have b1 : (q : Int) < (j : Int) := by omega
          go_wp2_with (refine wpList_append_rdk rfl _ _ rfl w.heap.size _ cq _ rfl HO2.out x n c l rfl HRd.out (by have := Hb.out; omega) HB2.out.size ?_; intro v1 w2 hown2 hb2)
          refine ⟨⟨q + 1, by omega, by go_num, ?_, HB2.out.trans hb2⟩, by simp [intOf]; omega⟩
          rw [Hsu.out, Hsk.out, List.map_append]
          exact hown2
        · obtain rfl : q = j := by omega
          go_wp2_with fail
          go_ret
          exact ⟨_, rfl, by rw [← Hcj.out]; exact HO2.out, HB2.out⟩
end Go.Proofs.Ytfnmmpnmbommeaa
