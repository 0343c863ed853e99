/- Rows of one's own, marked; a slice of bytes, cloned. -/
import Derived.Test.YtabepfdononppaaConcat
import Derived.Test.YtabepfdononppaaBytes
import Derived.Test.YtabepfdononppaaPad
import Derived.Laws.Cover3
namespace Go.Proofs.Ytabepfdononppaa
open Go.ChangeShapes Go.WideShapes Go.ChangeAt Go.RowKit
set_option linter.unusedVariables false
set_option maxHeartbeats 1000000 in
theorem markO (g n cap : Nat) (cur : Array Value) (k0 : Int) (h0 : 0 ≤ k0) (h1 : k0 ≤ 1099511627776) (hn : n ≤ 1099511627776) (hs : n ≤ cur.size) (w : World) (hg : w.heap[g]? = some (.cells cur 5)) :
    Calls Try.prog 54 #[.slice (some ⟨g, 0, none⟩) n cap, .int .i64 k0] w fun e w' => e = .returned (.int .i64 (k0 + n)) ∧ Rd .u8 w' (some ⟨g, 0, none⟩) n (markL k0 n) ∧ Below g w w' := by
  have Hg := Lib.hid hg
  clear hg
  go_enter Try.func54, Try.ntmps54
  go_wp2
  go_loopw [1, 5] (fun m i wr => ∃ k : Nat, k ≤ n ∧ i = .int .i64 k ∧ m = .int .i64 (k0 + k) ∧ (∃ ck : Array Value, wr.heap[g]? = some (.cells ck 5) ∧ ck.size = cur.size ∧ ∀ j, j < k → ck[j]? = some (.int .u8 ((markL k0 n)[j]?.getD 0))) ∧ Below g w wr) (fun _ i _ => n - (intOf i).toNat)
  case atStart => exact ⟨0, by omega, rfl, by simp, ⟨cur, Hg.out, rfl, fun j hj => by omega⟩, Below.refl _ _⟩
  case round =>
    obtain ⟨k, hk, rfl, rfl, ⟨ck, hh, hsz, hck⟩, hb⟩ := hrel
    have HB := Lib.hid hb
    have HK := Lib.hid hck
    clear hb hck
    by_cases hlt : k < n
    · have c1 := cell_of_row wr g k _ _ _ hh
      have f1 := frozen_of_row wr g k _ _ hh
      rw [Array.getElem?_eq_getElem (by omega)] at c1
      have Hh := Lib.hid hh
      generalize ck[k]'(by omega) = old at c1
      clear hh
      have hm := markL_at k0 n k hlt
      have HM := Lib.hid hm
      clear hm
      go_wp2
      go_roundw
      case rel =>
        refine ⟨k + 1, by omega, by go_num, by congr 1; push_cast; omega, ⟨ck.setIfInBounds k (.int .u8 ((k0 + (k : Int)) % 256)), ?_, by simp; exact hsz, fun j hj => ?_⟩, HB.out.setCell (by simp) _⟩
        · exact heap_setCell_same _ _ _ _ _ _ Hh.out
        · by_cases hjk : j = k
          · subst hjk
            rw [Array.getElem?_setIfInBounds_self_of_lt (by omega), HM.out]
          · rw [Array.getElem?_setIfInBounds_ne (by omega)]
            exact HK.out j (by omega)
      case measure => simp [intOf]; omega
    · obtain rfl : k = n := by omega
      have Hh := Lib.hid hh
      clear hh
      go_wp2
      go_ret
      exact ⟨rfl, ⟨markL_len k0 k, Or.inr ⟨g, 0, rfl, (Array.getElem?_eq_some_iff.1 Hh.out).1, fun j hj => by rw [Nat.zero_add, cell_of_row wr g j _ _ _ Hh.out]; exact HK.out j hj⟩⟩, HB.out⟩
/-- What a slice owns, marked. -/
theorem markV (v : Value) (n base : Nat) (l : List Int) (k0 : Int) (h0 : 0 ≤ k0) (h1 : k0 ≤ 1099511627776) (hn : n ≤ 1099511627776) (w : World) (ho : w.ownsRow base 5 1 v n (l.map (Value.int .u8))) :
    ∃ a cap, v = .slice a n cap ∧ Calls Try.prog 54 #[.slice a n cap, .int .i64 k0] w fun e w' => e = .returned (.int .i64 (k0 + n)) ∧ Rd .u8 w' a n (markL k0 n) ∧ Below base w w' := by
  rcases ho.2 with ⟨rfl, rfl⟩ | ⟨g, cap, cur, rfl, hb, hg, hc, hm, hs, ht⟩
  · exact ⟨none, 0, rfl, (markBS0 none 0 k0 w).mono fun e w' ⟨he, hw⟩ => ⟨by rw [he]; simp, by rw [hw]; exact ⟨markL_len k0 0, Or.inl rfl⟩, by rw [hw]; exact Below.refl _ _⟩⟩
  · exact ⟨_, cap, rfl, (markO g n cap cur k0 h0 h1 hn (by omega) w hg).mono fun e w' ⟨he, hr, hb'⟩ => ⟨he, hr, hb'.mono hb⟩⟩
set_option maxRecDepth 100000 in
set_option maxHeartbeats 1000000 in
theorem clone_impl (b off n cap : Nat) (l : List Int) (hn : n ≤ 1048576) (w : World) (hr : Rd .u8 w (some ⟨b, off, none⟩) n l) :
    Calls Try.prog 122 #[.slice (some ⟨b, off, none⟩) n cap] w fun e w' => ∃ v, e = .returned v ∧ w'.ownsRow w.heap.size 5 1 v n (l.map (Value.int .u8)) ∧ Below w.heap.size w w' := by
  have Hr := Lib.hid hr
  clear hr
  have O0 := Lib.hid (show (w.alloc (.cells #[] 5)).ownsRow w.heap.size 5 1 (.slice (some ⟨w.heap.size, 0, none⟩) 0 0) 0 [] from ⟨rfl, Or.inr ⟨w.heap.size, 0, #[], rfl, Nat.le_refl _, heap_alloc_last _ _, by omega, by unfold maxLen; omega, rfl, rfl⟩⟩)
  have B0 := Lib.hid ((Below.refl w.heap.size w).alloc (Nat.le_refl _) (.cells #[] 5))
  have heq : ∀ W, (binOp .eql 41 (.slice (some ⟨b, off, none⟩) n cap) (.slice none 0 0)).run Try.prog W = .ok (.bool false) W := fun W => by
    simp [binOp, go_sem, run_equal_slice_nil W 41 5 (some ⟨b, off, none⟩) n cap Try.underlying41]
  go_enter Try.func122, Try.ntmps122
  go_wp2_with (refine wpList_append_rd rfl _ _ rfl w.heap.size _ 0 [] rfl O0.out (some ⟨b, off, none⟩) n cap l rfl (Hr.out.below B0.out) (by omega) B0.out.size ?_; intro v1 w1 hown hb)
  go_ret
  refine ⟨_, rfl, ?_, B0.out.trans hb⟩
  have := hown
  rw [Nat.zero_add, List.nil_append] at this
  exact this
end Go.Proofs.Ytabepfdononppaa
