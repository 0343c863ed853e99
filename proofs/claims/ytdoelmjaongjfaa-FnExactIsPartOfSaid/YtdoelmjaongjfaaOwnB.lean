/- Bytes that a result owns, in a block that may have more of them. Written by wip/gen/src.py. -/
import Derived.Test.YtdoelmjaongjfaaBytes
import Derived.Test.YtdoelmjaongjfaaRd
import Derived.Test.YtdoelmjaongjfaaFill
import Derived.Test.YtdoelmjaongjfaaConcat
namespace Go.Proofs.Ytdoelmjaongjfaa
open Go.ChangeShapes Go.WideShapes Go.ChangeAt Go.RowKit
set_option linter.unusedVariables false
set_option linter.unusedSimpArgs false
/-- The slice v has n bytes, xs, at the beginning of a block from base on. -/
def OwnB (w : World) (base : Nat) (v : Value) (n : Nat) (xs : List Int) : Prop :=
  ∃ a cap, v = .slice a n cap ∧ Rd .u8 w a n xs ∧ (n = 0 ∨ ∃ g T L, a = some ⟨g, 0, none⟩ ∧ base ≤ g ∧ w.heap[g]? = some (.cells (ints .u8 (xs ++ L)) T))
theorem OwnB.below {w w1 : World} {base n : Nat} {v : Value} {xs : List Int} (h : OwnB w base v n xs) (hb : Below w.heap.size w w1) : OwnB w1 base v n xs := by
  obtain ⟨a, cap, hv, hr, ho⟩ := h
  refine ⟨a, cap, hv, hr.below hb, ?_⟩
  rcases ho with h0 | ⟨g, T, L, ha, hg, hh⟩
  · exact Or.inl h0
  · exact Or.inr ⟨g, T, L, ha, hg, keep_block hh hb⟩
theorem OwnB.mono {w : World} {base base' n : Nat} {v : Value} {xs : List Int} (h : OwnB w base v n xs) (hb : base' ≤ base) : OwnB w base' v n xs := by
  obtain ⟨a, cap, hv, hr, ho⟩ := h
  refine ⟨a, cap, hv, hr, ?_⟩
  rcases ho with h0 | ⟨g, T, L, ha, hg, hh⟩
  · exact Or.inl h0
  · exact Or.inr ⟨g, T, L, ha, by omega, hh⟩
theorem OwnB.read {w : World} {base n : Nat} {v : Value} {xs : List Int} (h : OwnB w base v n xs) : ∃ a cap, v = .slice a n cap ∧ Rd .u8 w a n xs ∧ OwnB w base (.slice a n cap) n xs := by
  have h' := h
  obtain ⟨a, cap, hv, hr, ho⟩ := h
  exact ⟨a, cap, hv, hr, by rw [← hv]; exact h'⟩
theorem OwnB.of_block {w : World} {base n g cap : Nat} {xs L : List Int} {T : TypeId} (hl : xs.length = n) (hb : base ≤ g) (hg : w.heap[g]? = some (.cells (ints .u8 (xs ++ L)) T)) : OwnB w base (.slice (some ⟨g, 0, none⟩) n cap) n xs := by
  refine ⟨_, cap, rfl, ⟨hl, Or.inr ⟨g, 0, rfl, (Array.getElem?_eq_some_iff.1 hg).1, fun j hj => ?_⟩⟩, Or.inr ⟨g, T, L, rfl, hb, hg⟩⟩
  rw [Nat.zero_add, cell_of_row w g j _ _ _ hg, ints_get _ _ _ (by simp; omega), List.getElem?_append_left (by omega)]
theorem OwnB.nil (w : World) (base cap : Nat) (a : Option Addr) : OwnB w base (.slice a 0 cap) 0 [] := ⟨a, cap, rfl, ⟨rfl, Or.inl rfl⟩, Or.inl rfl⟩
theorem cells_ints {c : Array Value} {xs : List Int} {n : Nat} (hx : xs.length = n) (hn : n ≤ c.size) (ht : c.toList.take n = xs.map (Value.int .u8)) (h8 : ∀ v ∈ c.toList, ∃ z, v = Value.int .u8 z) : ∃ L, c = ints .u8 (xs ++ L) := by
  have hd : ∃ L : List Int, c.toList.drop n = L.map (Value.int .u8) := by
    have : ∀ l : List Value, (∀ v ∈ l, ∃ z, v = Value.int .u8 z) → ∃ L : List Int, l = L.map (Value.int .u8) := by
      intro l
      induction l with
      | nil => exact fun _ => ⟨[], rfl⟩
      | cons v r ih =>
        intro h
        obtain ⟨z, rfl⟩ := h v (by simp)
        obtain ⟨L, hL⟩ := ih (fun u hu => h u (by simp [hu]))
        exact ⟨z :: L, by rw [hL]; rfl⟩
    exact this _ (fun v hv => h8 v (List.mem_of_mem_drop hv))
  obtain ⟨L, hL⟩ := hd
  refine ⟨L, ?_⟩
  have : c.toList = (xs ++ L).map (Value.int .u8) := by rw [List.map_append, ← ht, ← hL, List.take_append_drop]
  unfold ints
  rw [← this]
set_option maxHeartbeats 1000000 in
theorem markBS' (g n cap : Nat) (l : List Int) (t : TypeId) (k0 : Int) (h0 : 0 ≤ k0) (h1 : k0 ≤ 1099511627776) (hn : n ≤ 1099511627776) (hl : n ≤ l.length) (w : World) (hg : w.heap[g]? = some (.cells (ints .u8 l) t)) :
    Calls Try.prog 68 #[.slice (some ⟨g, 0, none⟩) n cap, .int .i64 k0] w fun e w' => e = .returned (.int .i64 (k0 + n)) ∧ w' = w.setRow g (ints .u8 (markL k0 n ++ l.drop n)) := by
  have Hl := Lib.hid (show l.length = (markL k0 n ++ l.drop n).length by simp [markL_len]; omega)
  have Hn := Lib.hid (show ∀ k, k < n → (markL k0 n ++ l.drop n)[k]?.getD 0 = (k0 + (k : Int)) % 256 from fun k hk => by rw [List.getElem?_append_left (by rw [markL_len]; exact hk), markL_at k0 n k hk])
  have HN := Lib.hid (show n ≤ (markL k0 n ++ l.drop n).length by simp [markL_len])
  have HE := Lib.hid (show upTo l (markL k0 n ++ l.drop n) n = markL k0 n ++ l.drop n from by unfold upTo; rw [List.take_left' (markL_len k0 n)])
  have Hg := Lib.hid hg
  clear hl hg
  generalize markL k0 n ++ l.drop n = new at Hl Hn HN HE ⊢
  go_enter Try.func68, Try.ntmps68
  go_wp2
  go_loopw [1, 5] (fun m i wr => ∃ k : Nat, k ≤ n ∧ i = .int .i64 k ∧ m = .int .i64 (k0 + k) ∧ wr = w.setRow g (ints .u8 (upTo l new k))) (fun _ i _ => n - (intOf i).toNat)
  case atStart => exact ⟨0, by omega, rfl, by simp, by rw [upTo_zero, setRow_same w g _ _ _ Hg.out]⟩
  case round =>
    obtain ⟨k, hk, rfl, rfl, hw⟩ := hrel
    have Hw := Lib.hid hw
    by_cases hlt : k < n
    · have hh : wr.heap[g]? = some (.cells (ints .u8 (upTo l new k)) t) := by rw [Hw.out]; exact setRow_heap _ _ _ _ _ _ Hg.out
      have c1 := cell_of_row wr g k _ _ _ hh
      have f1 := frozen_of_row wr g k _ _ hh
      rw [upTo_get .u8 (k := k) (old := l) (new := new) Hl.out (Nat.lt_of_lt_of_le hlt HN.out)] at c1
      have Hh := Lib.hid hh
      clear hh hw
      go_wp2
      go_roundw
      case rel =>
        refine ⟨k + 1, by omega, by go_num, by congr 1; push_cast; omega, ?_⟩
        rw [setCell_eq_setRow _ _ _ _ _ _ _ Hh.out, Hw.out, setRow_twice, upTo_set .u8 Hl.out (Nat.lt_of_lt_of_le hlt HN.out) (Hn.out k hlt)]
      case measure => simp [intOf]; omega
    · obtain rfl : k = n := by omega
      clear hw
      go_wp2
      go_ret
      exact ⟨rfl, by rw [Hw.out, HE.out]⟩
theorem markOwn (v : Value) (n base : Nat) (xs : List Int) (k0 : Int) (h0 : 0 ≤ k0) (h1 : k0 ≤ 1099511627776) (hn : n ≤ 1048576) (w : World) (ho : OwnB w base v n xs) :
    ∃ a cap, v = .slice a n cap ∧ Calls Try.prog 68 #[.slice a n cap, .int .i64 k0] w fun e w' => e = .returned (.int .i64 (k0 + n)) ∧ OwnB w' base (.slice a n cap) n (markL k0 n) ∧ Below base w w' := by
  obtain ⟨a, cap, rfl, hr, h⟩ := ho
  refine ⟨a, cap, rfl, ?_⟩
  rcases h with rfl | ⟨g, T, L, rfl, hb, hg⟩
  · refine (markBS0 a cap k0 w).mono fun e w' ⟨he, hw⟩ => ⟨by rw [he]; simp, ?_, by rw [hw]; exact Below.refl _ _⟩
    exact OwnB.nil _ _ _ _
  · refine (markBS' g n cap (xs ++ L) T k0 h0 h1 (by omega) (by rw [List.length_append, hr.1]; omega) w hg).mono fun e w' ⟨he, hw⟩ => ⟨he, ?_, by rw [hw]; exact Below.setRow (Below.refl _ _) hb _⟩
    rw [hw]
    exact OwnB.of_block (markL_len _ _) hb (setRow_heap _ _ _ _ _ _ hg)
end Go.Proofs.Ytdoelmjaongjfaa
