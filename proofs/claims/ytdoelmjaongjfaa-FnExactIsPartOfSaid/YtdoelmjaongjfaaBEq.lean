/- Bytes compared, by program and specification. Written by wip/gen/src.py. -/
import Derived.Test.YtdoelmjaongjfaaBytes
import Derived.Test.YtdoelmjaongjfaaRd
import Derived.Laws.BytesArg
import Derived.Lib.Strings
namespace Go.Proofs.Ytdoelmjaongjfaa
open Go.ChangeShapes Go.WideShapes Go.ChangeAt Go.RowKit
set_option linter.unusedVariables false
set_option linter.unusedSimpArgs false
theorem ret_b {a b : Bool} (h : b = a) : Ending.returned (.bool a) = .returned (.bool b) := by rw [h]
theorem nums_inj : ∀ (l k : List Int), (∀ z ∈ l, 0 ≤ z ∧ z ≤ 255) → (∀ z ∈ k, 0 ≤ z ∧ z ≤ 255) → (l.map fun n => UInt8.ofNat n.toNat) = (k.map fun n => UInt8.ofNat n.toNat) → l = k
  | [], [], _, _, _ => rfl
  | [], _ :: _, _, _, h => by simp at h
  | _ :: _, [], _, _, h => by simp at h
  | x :: l, y :: k, hl, hk, h => by
    simp only [List.map_cons, List.cons.injEq] at h
    have hx := hl x (by simp)
    have hy := hk y (by simp)
    have e : x = y := by
      have := congrArg UInt8.toNat h.1
      simp at this
      omega
    rw [e, nums_inj l k (fun z hz => hl z (by simp [hz])) (fun z hz => hk z (by simp [hz])) h.2]
theorem str_eq (l k : List Int) (fl : ∀ z ∈ l, 0 ≤ z ∧ z ≤ 255) (fk : ∀ z ∈ k, 0 ≤ z ∧ z ≤ 255) : ((strOfNums l).toList == (strOfNums k).toList) = decide (l = k) := by
  rw [Lib.toList_data, Lib.toList_data, strOfNums_data, strOfNums_data, Bool.eq_iff_iff]
  simp only [beq_iff_eq, decide_eq_true_eq]
  exact ⟨nums_inj l k fl fk, fun e => by rw [e]⟩
set_option maxHeartbeats 1000000 in
theorem bytes_equal (g h n m : Nat) (l k : List Int) (w : World) (hn : n ≤ 1048576) (hm : m ≤ 1048576) (hl : l.length = n) (hk : k.length = m) (fl : ∀ z ∈ l, 0 ≤ z ∧ z ≤ 255) (fk : ∀ z ∈ k, 0 ≤ z ∧ z ≤ 255)
    (hg : w.heap[g]? = some (.cells (ints .u8 l) 5)) (hh : w.heap[h]? = some (.cells (ints .u8 k) 5)) :
    Calls Try.prog 98 #[.slice (some ⟨g, 0, none⟩) n n, .slice (some ⟨h, 0, none⟩) m m] w fun e w' => e = .returned (.bool (decide (l = k))) ∧ Below w.heap.size w w' := by
  have c1 := run_convert_bytes_arg (P := Try.prog) (w := w) 41 5 Try.underlying41 Try.underlying5 g 0 n n l hl (fun i hi => by
    rw [cell_of_row w g (0 + i) _ _ _ hg, Nat.zero_add, ints_get .u8 l i (by omega)]; simp) 9 Try.underlying9
  have c2 := run_convert_bytes_arg (P := Try.prog) (w := w) 41 5 Try.underlying41 Try.underlying5 h 0 m m k hk (fun i hi => by
    rw [cell_of_row w h (0 + i) _ _ _ hh, Nat.zero_add, ints_get .u8 k i (by omega)]; simp) 9 Try.underlying9
  have S := Lib.hid (str_eq l k fl fk)
  clear hl hk fl fk hg hh
  generalize strOfNums l = s at c1 S
  generalize strOfNums k = t at c2 S
  go_enter Try.func98, Try.ntmps98
  go_wp2
  go_ret
  exact ⟨ret_b S.out.symm, Below.refl _ _⟩
set_option maxHeartbeats 2000000 in
theorem bytes_spec (g h n m : Nat) (l k : List Int) (w : World) (hn : n ≤ 1048576) (hm : m ≤ 1048576) (hl : l.length = n) (hk : k.length = m) (fl : ∀ z ∈ l, 0 ≤ z ∧ z ≤ 255) (fk : ∀ z ∈ k, 0 ≤ z ∧ z ≤ 255)
    (hg : w.heap[g]? = some (.cells (ints .u8 l) 5)) (hh : w.heap[h]? = some (.cells (ints .u8 k) 5)) :
    Calls Try.prog 97 #[.slice (some ⟨g, 0, none⟩) n n, .slice (some ⟨h, 0, none⟩) m m] w fun e w' => e = .returned (.bool (decide (l = k))) ∧ Below w.heap.size w w' := by
  clear fl fk
  have Hl := Lib.hid hl
  have Hk := Lib.hid hk
  have Hg := Lib.hid hg
  have Hh := Lib.hid hh
  clear hl hk hg hh
  by_cases hnm : n = m
  · subst hnm
    go_enter Try.func97, Try.ntmps97
    go_wp2
    go_loopw [5] (fun i wr => ∃ j : Nat, j ≤ n ∧ i = .int .i64 j ∧ Hid (∀ s, s < j → l[s]?.getD 0 = k[s]?.getD 0) ∧ Below w.heap.size w wr) (fun i _ => n - (intOf i).toNat)
    case atStart => exact ⟨0, by omega, rfl, Lib.hid (fun s hs => by omega), Below.refl _ _⟩
    case round =>
      obtain ⟨j, hj, rfl, hp, hb⟩ := hrel
      have Hw := Lib.hid hb
      by_cases hlt : j < n
      · have c1 := cell_of_row wr g j _ _ _ ((hb.block g (Array.getElem?_eq_some_iff.1 Hg.out).1).trans Hg.out)
        have c2 := cell_of_row wr h j _ _ _ ((hb.block h (Array.getElem?_eq_some_iff.1 Hh.out).1).trans Hh.out)
        rw [ints_get .u8 l j (by rw [Hl.out]; exact hlt)] at c1
        rw [ints_get .u8 k j (by rw [Hk.out]; exact hlt)] at c2
        clear hb
        by_cases hxy : l[j]?.getD 0 = k[j]?.getD 0
        · have Hxy := Lib.hid hxy
          rw [hxy] at c1
          clear hxy
          generalize k[j]?.getD 0 = x at c1 c2
          go_wp2
          go_quiet (fail)
          go_wp2
          go_roundw
          case rel => exact ⟨j + 1, by omega, by go_num, Lib.hid (fun s hs => by
            by_cases h : s = j
            · subst h; exact Hxy.out
            · exact hp.out s (by omega)), below_drewN Hw.out _⟩
          case measure => simp [intOf]; omega
        · have fin := Lib.hid (show decide (l = k) = false from decide_eq_false (fun e => hxy (by rw [e])))
          have hne : (l[j]?.getD 0 != k[j]?.getD 0) = true := by simpa using hxy
          clear hxy
          generalize l[j]?.getD 0 = x at c1 hne
          generalize k[j]?.getD 0 = y at c2 hne
          go_wp2
          go_quiet (fail)
          go_wp2
          go_ret
          exact ⟨ret_b fin.out, below_drewN Hw.out _⟩
      · obtain rfl : j = n := by omega
        have fin := Lib.hid (show decide (l = k) = true from decide_eq_true (by
          apply List.ext_getElem (by rw [Hl.out, Hk.out])
          intro i h1 h2
          have := hp.out i (by rw [← Hl.out]; exact h1)
          rw [List.getElem?_eq_getElem h1, List.getElem?_eq_getElem h2] at this
          exact this))
        clear hb
        go_wp2
        go_ret
        exact ⟨ret_b fin.out, Hw.out⟩
  · have fin := Lib.hid (show decide (l = k) = false from decide_eq_false (fun e => hnm (by rw [← Hl.out, ← Hk.out, e])))
    have hne : ((n : Int) != (m : Int)) = true := by simp; omega
    go_enter Try.func97, Try.ntmps97
    go_wp2
    go_ret
    exact ⟨ret_b fin.out, Below.refl _ _⟩
end Go.Proofs.Ytdoelmjaongjfaa
