/- Rules: opened, brought over, compared; which are valid. -/
import Derived.Test.YtdamgodfgoackaaOpen
import Derived.Handy
import Derived.Test.YtdamgodfgoackaaRow
namespace Go.Proofs.Ytdamgodfgoackaa
open Go.ChangeShapes Go.WideShapes Go.ChangeAt Go.RowKit
set_option linter.unusedVariables false
theorem list3 {α : Type} {l : List α} (h : l.length = 3) : ∃ a b c : α, l = [a, b, c] := by
  match l, h with
  | [a, b, c], _ => exact ⟨a, b, c, rfl⟩
theorem trod_rule {H : Type} {enc : TypeId × Value → H} {w : World} {fuel : Nat} {cs : List Value} {x : DataW H × List MemPlace} (h : DataW.trod enc Try.prog w 0 (fun _ => true) true fuel 57 cs = some x) :
    ∃ l m b : Int, cs = [.int .i64 l, .int .i64 m, .int .i64 b] ∧ (Lit.int .i64 l).wf = true ∧ (Lit.int .i64 m).wf = true ∧ (Lit.int .i64 b).wf = true := by
  obtain ⟨xs, m, _, _, hlen, hxl, hfl⟩ := DataW.trod_struct Try.underlying57 h
  have h3 : xs.length = 3 := hxl
  have e2 : Try.prog.cellsOf 2 = 1 := by kernel_rfl
  have h30 : Try.prog.cellsOf 57 = 3 := by kernel_rfl
  rw [h30] at hlen
  have k0 := hfl 0 _ rfl
  have k1 := hfl 1 _ rfl
  have k2 := hfl 2 _ rfl
  rw [List.getElem?_eq_getElem (by omega)] at k0 k1 k2
  obtain ⟨a, ha, _, wa⟩ := DataW.trod_int Try.underlying2 k0
  obtain ⟨b, hb, _, wb⟩ := DataW.trod_int Try.underlying2 k1
  obtain ⟨c, hc, _, wc⟩ := DataW.trod_int Try.underlying2 k2
  replace ha : (cs.drop 0).take (Try.prog.cellsOf 2) = [Value.int .i64 a] := ha
  replace hb : (cs.drop 1).take (Try.prog.cellsOf 2) = [Value.int .i64 b] := hb
  replace hc : (cs.drop 2).take (Try.prog.cellsOf 2) = [Value.int .i64 c] := hc
  obtain ⟨u, v, z, rfl⟩ := list3 hlen
  rw [e2] at ha hb hc
  simp at ha hb hc
  subst ha hb hc
  exact ⟨a, b, c, rfl, wa, wb, wc⟩
set_option maxRecDepth 100000 in
theorem open_rule {H : Type} {enc : TypeId × Value → H} {w : World} {b0 : Nat} {r : Reach} {v : Value} {d : DataW H} {p : List MemPlace}
    (hv : Value.okWide Try.prog w r b0 57 v) (h : DataW.Trod enc Try.prog w 0 (fun _ => true) true 57 v d p) :
    ∃ l m b : Int, v = .agg #[.int .i64 l, .int .i64 m, .int .i64 b] ∧ (Lit.int .i64 l).wf = true ∧ (Lit.int .i64 m).wf = true ∧ (Lit.int .i64 b).wf = true := by
  obtain ⟨cs, rfl, hsz⟩ := okWide_struct Try.underlying57 hv
  obtain ⟨fuel, hf⟩ := h
  simp only [Value.cells] at hf
  obtain ⟨l, m, b, hc, w1, w2, w3⟩ := trod_rule hf
  refine ⟨l, m, b, ?_, w1, w2, w3⟩
  obtain ⟨cs⟩ := cs
  replace hc : cs = _ := hc
  rw [hc]
theorem sizeRi : (Try.prog.info? 62).map (·.size) = some 3 := by kernel_rfl
theorem sizeRl : (Try.prog.info? 57).map (·.size) = some 3 := by kernel_rfl
theorem ret_bool' {a b : Bool} (h : b = a) : Ending.returned (.bool a) = .returned (.bool b) := by rw [h]
theorem in_any (c lo hi : Int) (w : World) : Calls Try.prog 113 #[.int .i64 c, .int .i64 lo, .int .i64 hi] w fun e w' => e = .returned (.bool (decide (lo ≤ c) && decide (c ≤ hi))) ∧ w' = w := by
  by_cases h : lo ≤ c
  · have h1 : decide (lo ≤ c) = true := by simp; omega
    go_enter Try.func113, Try.ntmps113
    go_wp2
    go_ret
    exact ⟨ret_bool' (by first | rfl | (rw [h1]; rfl)), rfl⟩
  · have h1 : decide (lo ≤ c) = false := by simp; omega
    go_enter Try.func113, Try.ntmps113
    go_wp2
    go_ret
    exact ⟨ret_bool' (by first | rfl | (rw [h1]; rfl)), rfl⟩
/-- A callee that leaves every world as it is, met behind draws. -/
theorem quiet_more {P : Program} {f : FuncId} {args : Array Value} {w : World} {a n : Nat} {v : Value} (h : ∀ W, Calls P f args W fun e w' => e = .returned v ∧ w' = W) :
    Calls P f args (w.drewN (a + n)) fun e w'' => e = .returned v ∧ ∃ m, w'' = w.drewN (a + m) :=
  (h _).mono fun _ _ q => ⟨q.1, n, q.2⟩
def vR (l m b : Int) : Bool := (decide (1 ≤ l) && decide (l ≤ 64)) && ((decide (l ≤ m) && decide (m ≤ 256)) && (decide (0 ≤ b) && decide (b ≤ 8)))
set_option maxRecDepth 100000 in
set_option maxHeartbeats 2000000 in
theorem toR (l m b : Int) (w : World) : Calls Try.prog 65 #[.agg #[.int .i64 l, .int .i64 m, .int .i64 b]] w fun e w' => e = .returned (.agg #[.int .i64 l, .int .i64 m, .int .i64 b]) ∧ w' = ((w.alloc (.cells #[.int .i64 l, .int .i64 m, .int .i64 b] 57)).alloc (.cells #[.int .i64 l, .int .i64 m, .int .i64 b] 62)).alloc (.cells #[.int .i64 l, .int .i64 m, .int .i64 b] 62) := by
  go_enter Try.func65, Try.ntmps65
  go_wp2
  go_returns
  exact ⟨rfl, rfl⟩
set_option maxRecDepth 100000 in
set_option maxHeartbeats 2000000 in
theorem validR_impl (l m b : Int) (w : World) : Calls Try.prog 120 #[.agg #[.int .i64 l, .int .i64 m, .int .i64 b]] w fun e w' => e = .returned (.bool (vR l m b)) ∧ Below w.heap.size w w' := by
  by_cases h1 : 1 ≤ l
  · by_cases h2 : l ≤ 64
    · by_cases h3 : l ≤ m
      · by_cases h4 : m ≤ 256
        · by_cases h5 : 0 ≤ b
          · have Hv := Lib.hid (show vR l m b = decide (b ≤ 8) by simp [vR, h1, h2, h3, h4, h5])
            have d1 : decide (1 ≤ l) = true := by simp; omega
            have d2 : decide (l ≤ 64) = true := by simp; omega
            have d3 : decide (l ≤ m) = true := by simp; omega
            have d4 : decide (m ≤ 256) = true := by simp; omega
            have d5 : decide (0 ≤ b) = true := by simp; omega
            go_enter Try.func120, Try.ntmps120
            go_wp2
            go_ret
            exact ⟨ret_bool' (by rw [Hv.out]), (Below.refl _ _).alloc (by simp) _⟩
          · have Hv := Lib.hid (show vR l m b = false by simp [vR, h5])
            have d1 : decide (1 ≤ l) = true := by simp; omega
            have d2 : decide (l ≤ 64) = true := by simp; omega
            have d3 : decide (l ≤ m) = true := by simp; omega
            have d4 : decide (m ≤ 256) = true := by simp; omega
            have d5 : decide (0 ≤ b) = false := by simp; omega
            go_enter Try.func120, Try.ntmps120
            go_wp2
            go_ret
            exact ⟨ret_bool' (by rw [Hv.out]), (Below.refl _ _).alloc (by simp) _⟩
        · have Hv := Lib.hid (show vR l m b = false by simp [vR, h4])
          have d1 : decide (1 ≤ l) = true := by simp; omega
          have d2 : decide (l ≤ 64) = true := by simp; omega
          have d3 : decide (l ≤ m) = true := by simp; omega
          have d4 : decide (m ≤ 256) = false := by simp; omega
          go_enter Try.func120, Try.ntmps120
          go_wp2
          go_ret
          exact ⟨ret_bool' (by rw [Hv.out]), (Below.refl _ _).alloc (by simp) _⟩
      · have Hv := Lib.hid (show vR l m b = false by simp [vR, h3])
        have d1 : decide (1 ≤ l) = true := by simp; omega
        have d2 : decide (l ≤ 64) = true := by simp; omega
        have d3 : decide (l ≤ m) = false := by simp; omega
        go_enter Try.func120, Try.ntmps120
        go_wp2
        go_ret
        exact ⟨ret_bool' (by rw [Hv.out]), (Below.refl _ _).alloc (by simp) _⟩
    · have Hv := Lib.hid (show vR l m b = false by simp [vR, h2])
      have d1 : decide (1 ≤ l) = true := by simp; omega
      have d2 : decide (l ≤ 64) = false := by simp; omega
      go_enter Try.func120, Try.ntmps120
      go_wp2
      go_ret
      exact ⟨ret_bool' (by rw [Hv.out]), (Below.refl _ _).alloc (by simp) _⟩
  · have Hv := Lib.hid (show vR l m b = false by simp [vR, h1])
    have d1 : decide (1 ≤ l) = false := by simp; omega
    go_enter Try.func120, Try.ntmps120
    go_wp2
    go_ret
    exact ⟨ret_bool' (by rw [Hv.out]), (Below.refl _ _).alloc (by simp) _⟩
set_option maxRecDepth 100000 in
set_option maxHeartbeats 2000000 in
theorem okR_spec (p : Nat) (l m b : Int) (w : World) (c0 : w.cell? ⟨p, 0, none⟩ = some (.int .i64 l)) (c1 : w.cell? ⟨p, 1, none⟩ = some (.int .i64 m)) (c2 : w.cell? ⟨p, 2, none⟩ = some (.int .i64 b)) :
    Calls Try.prog 117 #[.pointer (some ⟨p, 0, none⟩)] w fun e w' => e = .returned (.bool (vR l m b)) ∧ ∃ n, w' = w.drewN n := by
  by_cases h1 : (decide (1 ≤ l) && decide (l ≤ 64)) = true
  · have i1 := fun W => in_any l 1 64 W
    rw [h1] at i1
    by_cases h2 : (decide (l ≤ m) && decide (m ≤ 256)) = true
    · have Hv := Lib.hid (show vR l m b = (decide (0 ≤ b) && decide (b ≤ 8)) by unfold vR; rw [h1, h2]; simp)
      have i2 := fun W => in_any m l 256 W
      rw [h2] at i2
      have i3 := fun W => in_any b 0 8 W
      generalize (decide (0 ≤ b) && decide (b ≤ 8)) = V at i3 Hv
      clear h1 h2
      go_enter Try.func117, Try.ntmps117
      go_wp2_with fail
      go_quiet ((go_at_call 113; first | with_reducible exact Calls.quiet_of_same (i1 _) | with_reducible exact Calls.quiet_of_same (i2 _) | with_reducible exact Calls.quiet_of_same (i3 _)))
      go_wp2
      go_ret
      exact ⟨ret_bool' (by rw [Hv.out]), ⟨_, rfl⟩⟩
    · rw [Bool.not_eq_true] at h2
      have Hv := Lib.hid (show vR l m b = false by unfold vR; rw [h2]; simp)
      have i2 := fun W => in_any m l 256 W
      rw [h2] at i2
      clear h1 h2
      go_enter Try.func117, Try.ntmps117
      go_wp2_with fail
      go_quiet ((go_at_call 113; first | with_reducible exact Calls.quiet_of_same (i1 _) | with_reducible exact Calls.quiet_of_same (i2 _)))
      go_wp2
      go_ret
      exact ⟨ret_bool' (by rw [Hv.out]), ⟨_, rfl⟩⟩
  · rw [Bool.not_eq_true] at h1
    have Hv := Lib.hid (show vR l m b = false by unfold vR; rw [h1]; simp)
    have i1 := fun W => in_any l 1 64 W
    rw [h1] at i1
    clear h1
    go_enter Try.func117, Try.ntmps117
    go_wp2_with fail
    go_quiet ((go_at_call 113; with_reducible exact Calls.quiet_of_same (i1 _)))
    go_wp2
    go_ret
    exact ⟨ret_bool' (by rw [Hv.out]), ⟨_, rfl⟩⟩
end Go.Proofs.Ytdamgodfgoackaa
