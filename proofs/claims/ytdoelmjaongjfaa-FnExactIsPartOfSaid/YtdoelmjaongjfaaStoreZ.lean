/- Stores: measured. Written by hand. -/
import Derived.Test.YtdoelmjaongjfaaStore
namespace Go.Proofs.Ytdoelmjaongjfaa
open Go.ChangeShapes Go.WideShapes Go.ChangeAt Go.RowKit
set_option linter.unusedVariables false
set_option linter.unusedSimpArgs false
theorem BlC.below {w w1 : World} {b off i : Nat} {x : BlV} (h : BlC w b off i x) (hb : Below w.heap.size w w1) : BlC w1 b off i x := by
  obtain ⟨h1, h2, h3⟩ := h
  refine ⟨?_, ?_, h3.below hb⟩
  · rw [hb.cell (p := ⟨b, off + i * 2, none⟩) (World.block_lt_of_cell? w _ h1)]; exact h1
  · rw [hb.cell (p := ⟨b, off + (i * 2 + 1), none⟩) (World.block_lt_of_cell? w _ h2)]; exact h2
theorem IsBls.below {w w1 : World} {a : Option Addr} {n : Nat} {bs : List BlV} (h : IsBls w a n bs) (hb : Below w.heap.size w w1) : IsBls w1 a n bs := by
  obtain ⟨h1, h2, h3⟩ := h
  refine ⟨h1, h2, ?_⟩
  rcases h3 with h3 | ⟨b, off, e, hlt, hc⟩
  · exact Or.inl h3
  · exact Or.inr ⟨b, off, e, Nat.lt_of_lt_of_le hlt hb.size, fun i x hx => ⟨(hc i x hx).1.below hb, (hc i x hx).2⟩⟩
def szS (bs : List BlV) : Nat := (bs.map (·.n)).sum
theorem szS_take {bs : List BlV} {k : Nat} {x : BlV} (h : bs[k]? = some x) : szS (bs.take (k + 1)) = szS (bs.take k) + x.n := by
  unfold szS
  rw [List.take_add_one, h]
  simp
set_option maxRecDepth 100000 in
set_option maxHeartbeats 2000000 in
theorem szBlS (a : Option Addr) (n cap : Nat) (bs : List BlV) (left : Int) (h0 : 0 ≤ left) (h1 : left ≤ 1099511627776) (w : World) (hB : IsBls w a n bs) :
    Calls Try.prog 56 #[.slice a n cap, .int .i64 left] w fun e w' => (∃ r, e = .returned (.int .i64 r) ∧ (r = -1 ∨ (0 ≤ r ∧ r = left - n - szS bs))) ∧ Below w.heap.size w w' := by
  have hn := hB.1
  have hbl := hB.2.1
  unfold maxLen at hn
  by_cases k0 : left - (n : Int) < 0
  · go_enter Try.func56, Try.ntmps56
    go_wp2
    go_ret
    exact ⟨⟨_, rfl, Or.inl rfl⟩, Below.refl _ _⟩
  have n0 : 0 ≤ left - (n : Int) := by omega
  have n1 : (0 : Int) ≤ (n : Int) := by omega
  have n2 : (n : Int) ≤ 1099511627776 := by omega
  have HB := Lib.hid hB
  clear hB
  go_enter Try.func56, Try.ntmps56
  go_wp2_with fail
  go_loopw [1, 5] (fun l i wr => ∃ k : Nat, k ≤ n ∧ i = .int .i64 k ∧ l = .int .i64 (left - n - szS (bs.take k)) ∧ (szS (bs.take k) : Int) ≤ left - n ∧ Below w.heap.size w wr) (fun _ i _ => n - (intOf i).toNat)
  case atStart => exact ⟨0, by omega, rfl, by simp [szS], by simp [szS]; omega, Below.refl _ _⟩
  case round =>
    obtain ⟨k, hk, rfl, rfl, hle, hb⟩ := hrel
    have B1 := Lib.hid hb
    clear hb
    by_cases hlt : k < n
    · have b0 : (0 : Int) ≤ (k : Int) := by omega
      have b1 : (k : Int) < (n : Int) := by omega
      obtain ⟨x, hx⟩ : ∃ x, bs[k]? = some x := ⟨bs[k]'(by omega), List.getElem?_eq_getElem (by omega)⟩
      rcases HB.out.2.2 with h3 | ⟨b, off, rfl, hblt, hc⟩
      · omega
      · obtain ⟨hcx, _, _, hxm⟩ := hc k x hx
        obtain ⟨c0, c1, _⟩ := hcx.below B1.out
        rw [← Nat.add_assoc] at c1
        have e2 := szS_take hx
        have E2 := Lib.hid e2
        have HLE := Lib.hid hle
        by_cases hq : left - (n : Int) - (szS (bs.take k) : Int) < (x.n : Int)
        · have Hs := Lib.hid (fun U => szBl_out x.t x.a x.n x.cap (left - n - szS (bs.take k)) (by omega) (by omega) (by unfold maxLen at hxm; omega) hq U)
          clear hc e2 hxm hq hle hcx HB hx
          obtain ⟨xt, xa, xn, xc, xl⟩ := x
          go_wp2_with fail
          refine (Hs.out _).mono ?_
          rintro e w1 ⟨rfl, hb1⟩
          have HB1 := Lib.hid (below_call B1.out B1.out.size hb1)
          clear hb1 c0 c1
          go_wp2_with fail
          go_ret
          exact ⟨⟨_, rfl, Or.inl rfl⟩, HB1.out⟩
        · have Hs := Lib.hid (fun U => szBl_in x.t x.a x.n x.cap (left - n - szS (bs.take k)) (by omega) (by omega) (by omega) U)
          have q0 : 0 ≤ left - (n : Int) - (szS (bs.take k) : Int) - (x.n : Int) := by omega
          have q1 : ¬ left - (n : Int) - (szS (bs.take k) : Int) - (x.n : Int) < 0 := by omega
          have HQ := Lib.hid (show (szS (bs.take (k + 1)) : Int) ≤ left - n by rw [e2]; omega)
          clear hc e2 hxm hq hle hcx HB hx
          obtain ⟨xt, xa, xn, xc, xl⟩ := x
          go_wp2_with fail
          refine (Hs.out _).mono ?_
          rintro e w1 ⟨rfl, hb1⟩
          have HB1 := Lib.hid (below_call B1.out B1.out.size hb1)
          clear hb1 c0 c1
          go_wp2_with fail
          go_roundw
          case rel => exact ⟨k + 1, by omega, by go_num, by rw [E2.out]; congr 1; omega, HQ.out, HB1.out⟩
          case measure => simp [intOf]; omega
    · obtain rfl : k = n := by omega
      have e3 : bs.take k = bs := List.take_of_length_le (by omega)
      rw [e3] at hle
      have HE := Lib.hid e3
      have HLE := Lib.hid hle
      clear e3 hle HB
      go_wp2_with fail
      go_ret
      exact ⟨⟨_, rfl, Or.inr ⟨by rw [HE.out]; have := HLE.out; omega, by rw [HE.out]⟩⟩, B1.out⟩
end Go.Proofs.Ytdoelmjaongjfaa
