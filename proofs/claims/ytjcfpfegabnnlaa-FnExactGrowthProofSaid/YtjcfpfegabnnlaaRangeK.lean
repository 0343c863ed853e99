/- RangeProof: both programs. Written by wip/gen/rangek.py. -/
import Derived.Test.YtjcfpfegabnnlaaRangeI
namespace Go.Proofs.Ytjcfpfegabnnlaa
open Go.ChangeShapes Go.WideShapes Go.ChangeAt Go.RowKit
set_option linter.unusedVariables false
set_option linter.unusedSimpArgs false
def rpE (n : Nat) (i j : Int) : Int := if 256 < n then 3 else if 0 ≤ i ∧ i < j ∧ j ≤ (n : Int) then 0 else 2
def rpN (n : Nat) (i j : Int) : Nat := if 256 < n then 0 else if 0 ≤ i ∧ i < j ∧ j ≤ (n : Int) then rgN n i j else 0
def rpV (fl : List Int) (n : Nat) (i j : Int) : List Int := if 256 < n then [] else if 0 ≤ i ∧ i < j ∧ j ≤ (n : Int) then rg (keyAt fl) 0 n i j else []
theorem rpN_le (n : Nat) (i j : Int) : rpN n i j ≤ 256 := by
  unfold rpN
  split
  · omega
  · split
    · have := rgN_le n i j (by omega); omega
    · omega
theorem rpV_len {fl : List Int} {n : Nat} {i j : Int} (h : fl.length = 32 * n) : (rpV fl n i j).length = 32 * rpN n i j := by
  unfold rpV rpN
  split
  · rfl
  · split
    · rename_i h2
      exact rg_len n 0 i j (by omega) (fun k hk => by rw [Nat.zero_add]; exact keyAt_len h hk)
    · rfl
set_option maxRecDepth 100000 in
set_option maxHeartbeats 2000000 in
theorem rp_spec (a : Option Addr) (n cap : Nat) (fl : List Int) (i j : Int) (hn : n ≤ 1048576) (hc : n ≤ cap) (hm : cap ≤ maxLen) (fb : ∀ z ∈ fl, 0 ≤ z ∧ z ≤ 255) (w : World) (hr : RdK w a n fl) :
    Calls Try.prog 40 #[.slice a n cap, .int .i64 i, .int .i64 j] w fun e w' => ∃ v, e = .returned (.tuple #[v, .int .i64 (rpE n i j)]) ∧ w'.ownsRow w.heap.size 23 32 v (rpN n i j) ((rpV fl n i j).map (Value.int .u8)) ∧ Below w.heap.size w w' := by
  unfold rpE rpN rpV
  have O1 := Lib.hid (owns_empty w 23 32)
  have B1 := Lib.hid ((Below.refl w.heap.size w).alloc (Nat.le_refl _) (.cells #[] 23))
  by_cases h : 256 < n
  · rw [if_pos h, if_pos h, if_pos h]
    have h1 : (256 : Int) < (n : Int) := by omega
    go_enter Try.func40, Try.ntmps40
    go_wp2_with fail
    go_ret2
    exact ⟨_, rfl, O1.out, B1.out⟩
  · rw [if_neg h, if_neg h, if_neg h]
    have h1 : (n : Int) ≤ (256 : Int) := by omega
    have h0 : (0 : Int) ≤ (n : Int) := by omega
    by_cases h2 : 0 ≤ i ∧ i < j ∧ j ≤ (n : Int)
    · rw [if_pos h2, if_pos h2, if_pos h2]
      obtain ⟨h3, h4, h5⟩ := h2
      obtain ⟨b, o, rfl⟩ := hr.form (by omega)
      have Hp := Lib.hid (range_spec n b o cap i j fl w (by omega) hn hc hm (by omega) (by omega) (by omega) (by omega) fb hr)
      clear hr fb
      have k1 : ¬ i < 0 := by omega
      have k2 : ¬ j ≤ i := by omega
      have k3 : ¬ (n : Int) < j := by omega
      generalize rgN n i j = N at Hp ⊢
      generalize rg (keyAt fl) 0 n i j = V at Hp ⊢
      go_enter Try.func40, Try.ntmps40
      go_wp2_with fail
      refine Hp.out.mono ?_
      rintro e w1 ⟨v, rfl, ho, hb⟩
      have O1 := Lib.hid ho
      have B1 := Lib.hid hb
      clear ho hb
      go_wp2_with fail
      go_ret2
      exact ⟨_, rfl, O1.out, B1.out⟩
    · rw [if_neg h2, if_neg h2, if_neg h2]
      clear hr fb
      by_cases h3 : i < 0
      · go_enter Try.func40, Try.ntmps40
        go_wp2_with fail
        go_ret2
        exact ⟨_, rfl, O1.out, B1.out⟩
      · by_cases h4 : j ≤ i
        · go_enter Try.func40, Try.ntmps40
          go_wp2_with fail
          go_ret2
          exact ⟨_, rfl, O1.out, B1.out⟩
        · have h5 : (n : Int) < j := by omega
          go_enter Try.func40, Try.ntmps40
          go_wp2_with fail
          go_ret2
          exact ⟨_, rfl, O1.out, B1.out⟩
set_option maxRecDepth 100000 in
set_option maxHeartbeats 4000000 in
theorem rp_impl (a : Option Addr) (n cap : Nat) (fl : List Int) (i j : Int) (hn : n ≤ 1048576) (hc : n ≤ cap) (hm : cap ≤ maxLen) (fb : ∀ z ∈ fl, 0 ≤ z ∧ z ≤ 255) (w : World) (hr : RdK w a n fl) :
    Calls Try.prog 41 #[.slice a n cap, .int .i64 i, .int .i64 j] w fun e w' => ∃ v, e = .returned (.tuple #[v, .int .i64 (rpE n i j)]) ∧ w'.ownsRow w.heap.size 23 32 v (rpN n i j) ((rpV fl n i j).map (Value.int .u8)) ∧ Below w.heap.size w w' := by
  unfold rpE rpN rpV
  have A0 := Lib.hid (heap3_0 w (.cells #[.slice a n cap] 35) (.cells #[.int .i64 i] 2) (.cells #[.int .i64 j] 2))
  have A1 := Lib.hid (heap3_1 w (.cells #[.slice a n cap] 35) (.cells #[.int .i64 i] 2) (.cells #[.int .i64 j] 2))
  have A2 := Lib.hid (heap3_2 w (.cells #[.slice a n cap] 35) (.cells #[.int .i64 i] 2) (.cells #[.int .i64 j] 2))
  have B3 := Lib.hid ((((Below.refl w.heap.size w).alloc (Nat.le_refl _) (.cells #[.slice a n cap] 35)).alloc (by simp) (.cells #[.int .i64 i] 2)).alloc (by simp; omega) (.cells #[.int .i64 j] 2))
  obtain ⟨W3, hW3⟩ : ∃ W3, ((w.alloc (.cells #[.slice a n cap] 35)).alloc (.cells #[.int .i64 i] 2)).alloc (.cells #[.int .i64 j] 2) = W3 := ⟨_, rfl⟩
  have HSZ : Hid (W3.heap.size = w.heap.size + 1 + 1 + 1) := Lib.hid (by rw [← hW3]; simp)
  rw [hW3] at A0 A1 A2 B3
  have cl := cell_of_one A0.out
  have ci := cell_of_one A1.out
  have cj := cell_of_one A2.out
  by_cases h : 256 < n
  · rw [if_pos h, if_pos h, if_pos h]
    have h1 : (256 : Int) < (n : Int) := by omega
    go_enter Try.func41, Try.ntmps41
    go_wp2_with fail
    go_ret2
    exact ⟨_, rfl, World.ownsRow_nil _ _ _ _, B3.out⟩
  · rw [if_neg h, if_neg h, if_neg h]
    have h1 : (n : Int) ≤ (256 : Int) := by omega
    have h0 : (0 : Int) ≤ (n : Int) := by omega
    by_cases h2 : 0 ≤ i ∧ i < j ∧ j ≤ (n : Int)
    · rw [if_pos h2, if_pos h2, if_pos h2]
      obtain ⟨h3, h4, h5⟩ := h2
      obtain ⟨b, o, rfl⟩ := hr.form (by omega)
      obtain ⟨i', rfl⟩ := Int.eq_ofNat_of_zero_le h3
      obtain ⟨j', rfl⟩ := Int.eq_ofNat_of_zero_le (show 0 ≤ j by omega)
      have Hw := Lib.hid (fun W => walkR_impl w (w.heap.size + 1) (w.heap.size + 1 + 1) W3.heap.size w.heap.size (W3.heap.size + 1) b o n cap i' j' fl (by omega) hc hm fb (by omega) (by omega) hr (by have := HSZ.out; omega) (by have := HSZ.out; omega) (by have := HSZ.out; omega) (by omega) (by have := HSZ.out; omega) n 0 0 (.slice none 0 0) [] W (by omega) (by omega) (by omega))
      simp only [Nat.zero_add, List.nil_append, Int.natCast_zero, Int.ofNat_zero, Int.sub_zero] at Hw
      rw [show spanA 0 n = #[.int .i64 0, .int .i64 (n : Int)] by simp [spanA]] at Hw
      have A4 := Lib.hid (heap_alloc2_old W3 (.cells #[.slice none 0 0] 35) (.cells #[.func (.func 87) #[] #[.pointer (some ⟨w.heap.size + 1, 0, none⟩), .pointer (some ⟨w.heap.size + 1 + 1, 0, none⟩), .pointer (some ⟨W3.heap.size, 0, none⟩), .pointer (some ⟨w.heap.size, 0, none⟩), .pointer (some ⟨W3.heap.size + 1, 0, none⟩)]] 109))
      have A5 := Lib.hid (heap_alloc2_new W3 (.cells #[.slice none 0 0] 35) (.cells #[.func (.func 87) #[] #[.pointer (some ⟨w.heap.size + 1, 0, none⟩), .pointer (some ⟨w.heap.size + 1 + 1, 0, none⟩), .pointer (some ⟨W3.heap.size, 0, none⟩), .pointer (some ⟨w.heap.size, 0, none⟩), .pointer (some ⟨W3.heap.size + 1, 0, none⟩)]] 109))
      have B5 := Lib.hid (((Below.refl W3.heap.size W3).alloc (Nat.le_refl _) (.cells #[.slice none 0 0] 35)).alloc (by simp) (.cells #[.func (.func 87) #[] #[.pointer (some ⟨w.heap.size + 1, 0, none⟩), .pointer (some ⟨w.heap.size + 1 + 1, 0, none⟩), .pointer (some ⟨W3.heap.size, 0, none⟩), .pointer (some ⟨w.heap.size, 0, none⟩), .pointer (some ⟨W3.heap.size + 1, 0, none⟩)]] 109))
      have cw := cell_of_one A5.out
      have cl5 := cell_of_one (keep_block A0.out B5.out)
      clear hr fb
      have k1 : ¬ (i' : Int) < 0 := by omega
      have k2 : ¬ (j' : Int) ≤ (i' : Int) := by omega
      have k3 : ¬ (n : Int) < (j' : Int) := by omega
      generalize rgN n (i' : Int) (j' : Int) = N at Hw ⊢
      generalize rg (keyAt fl) 0 n (i' : Int) (j' : Int) = V at Hw ⊢
      go_enter Try.func41, Try.ntmps41
      go_wp2_with fail
      clear hW3 cw cl ci cj cl5
      generalize (W3.alloc (.cells #[.slice none 0 0] 35)).alloc (.cells #[.func (.func 87) #[] #[.pointer (some ⟨w.heap.size + 1, 0, none⟩), .pointer (some ⟨w.heap.size + 1 + 1, 0, none⟩), .pointer (some ⟨W3.heap.size, 0, none⟩), .pointer (some ⟨w.heap.size, 0, none⟩), .pointer (some ⟨W3.heap.size + 1, 0, none⟩)]] 109) = W5 at A4 A5 B5 ⊢
      have B6 := Lib.hid (B3.out.trans (B5.out.mono B3.out.size))
      refine (Hw.out W5 B6.out.size ⟨keep_block A1.out B5.out, keep_block A2.out B5.out, keep_block A0.out B5.out, A5.out, B6.out⟩ A4.out (World.ownsRow_nil _ _ _ _)).mono ?_
      rintro e w1 ⟨rfl, s1, v1, p1, o1⟩
      have B7 := Lib.hid (B6.out.trans s1.below)
      have O7 := Lib.hid o1
      have cp := cell_of_one p1
      clear s1 p1 o1
      go_wp2_with fail
      go_ret2
      exact ⟨_, rfl, O7.out, B7.out⟩
    · rw [if_neg h2, if_neg h2, if_neg h2]
      clear hr fb
      by_cases h3 : i < 0
      · go_enter Try.func41, Try.ntmps41
        go_wp2_with fail
        go_ret2
        exact ⟨_, rfl, World.ownsRow_nil _ _ _ _, B3.out⟩
      · by_cases h4 : j ≤ i
        · go_enter Try.func41, Try.ntmps41
          go_wp2_with fail
          go_ret2
          exact ⟨_, rfl, World.ownsRow_nil _ _ _ _, B3.out⟩
        · have h5 : (n : Int) < j := by omega
          go_enter Try.func41, Try.ntmps41
          go_wp2_with fail
          go_ret2
          exact ⟨_, rfl, World.ownsRow_nil _ _ _ _, B3.out⟩
end Go.Proofs.Ytjcfpfegabnnlaa
