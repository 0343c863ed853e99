/- The key of two keys: the specification. -/
import Derived.Test.YtjijgckljjcfiaaPairI
namespace Go.Proofs.Ytjijgckljjcfiaa
open Go.ChangeShapes Go.WideShapes Go.ChangeAt Go.RowKit
set_option linter.unusedVariables false
theorem take_next {a : List Int} {k : Nat} (h : k < a.length) : a.take (k + 1) = a.take k ++ [a[k]?.getD 0] := by
  rw [List.take_succ_eq_append_getElem h, List.getElem?_eq_getElem h]
  rfl
set_option maxRecDepth 100000 in
set_option maxHeartbeats 2000000 in
theorem pair_spec (t : Int) (a b : List Int) (t0 : 0 ≤ t) (t1 : t ≤ 255) (ha : a.length = 32) (fa : ∀ z ∈ a, 0 ≤ z ∧ z ≤ 255) (hb : b.length = 32) (fb : ∀ z ∈ b, 0 ≤ z ∧ z ≤ 255) (w : World) :
    Calls Try.prog 113 #[.int .u8 t, .agg (ints .u8 a), .agg (ints .u8 b)] w fun e w' => e = .returned (.agg (ints .u8 (pairK t a b))) ∧ Below w.heap.size w w' := by
  obtain ⟨i0, hi, hz0, hz1, hz2⟩ := info_parts infoU8
  have Hi := Lib.hid hi
  have Hz := Lib.hid z32_ints
  have Ha := Lib.hid ha
  have Hb := Lib.hid hb
  have Hh := Lib.hid (fun W g c h1 h2 => hash_spec t g 0 64 c (a ++ b) t0 t1 (fun z hz => by rcases List.mem_append.1 hz with h | h; (· exact fa z h); (· exact fb z h)) (by omega) W (by simp [ha, hb]) h1 h2)
  have hv : hashK t (a ++ b) = pairK t a b := rfl
  rw [hv] at Hh
  have Hvl := Lib.hid (pairK_len t a b)
  clear ha hb fa fb hv hi
  generalize pairK t a b = V at Hh Hvl
  go_enter Try.func113, Try.ntmps113
  obtain ⟨W0, hW0⟩ : ∃ W0, ((w.alloc (.cells (ints .u8 a) 28)).alloc (.cells (ints .u8 b) 28)).alloc (.cells (ints .u8 z32) 28) = W0 := ⟨_, rfl⟩
  have BW := Lib.hid ((((Below.refl w.heap.size w).alloc (by simp) (.cells (ints .u8 a) 28)).alloc (by simp) (.cells (ints .u8 b) 28)).alloc (by simp; omega) (.cells (ints .u8 z32) 28))
  have GA := Lib.hid (heap3_0 w (.cells (ints .u8 a) 28) (.cells (ints .u8 b) 28) (.cells (ints .u8 z32) 28))
  have GB := Lib.hid (heap3_1 w (.cells (ints .u8 a) 28) (.cells (ints .u8 b) 28) (.cells (ints .u8 z32) 28))
  have G6 := Lib.hid (heap3_2 w (.cells (ints .u8 a) 28) (.cells (ints .u8 b) 28) (.cells (ints .u8 z32) 28))
  have HSZ : Hid (W0.heap.size = w.heap.size + 1 + 1 + 1) := Lib.hid (by rw [← hW0]; simp)
  have O0 := Lib.hid (show (W0.alloc (.cells #[] 5)).ownsRow W0.heap.size 5 1 (.slice (some ⟨W0.heap.size, 0, none⟩) 0 0) 0 [] from ⟨rfl, Or.inr ⟨W0.heap.size, 0, #[], rfl, Nat.le_refl _, heap_alloc_last _ _, by omega, by unfold maxLen; omega, rfl, rfl⟩⟩)
  have B0 := Lib.hid ((Below.refl W0.heap.size W0).alloc (Nat.le_refl _) (.cells #[] 5))
  rw [hW0] at BW GA GB G6
  rw [Hz.out] at hW0
  go_wp2_with fail
  clear hW0
  go_loopw [7, 8] (fun v i wr => ∃ g cp k : Nat, k ≤ 32 ∧ v = .slice (some ⟨g, 0, none⟩) (k) cp ∧ i = .int .i64 k ∧ wr.ownsRow W0.heap.size 5 1 v (k) ((a.take k).map (Value.int .u8)) ∧ Below W0.heap.size W0 wr) (fun _ i _ => 32 - (intOf i).toNat)
  case atStart => exact ⟨_, _, 0, by omega, rfl, rfl, by simpa using O0.out, B0.out⟩
  case round =>
    obtain ⟨g, cp, k, hk, rfl, rfl, hown, hb⟩ := hrel
    have B := Lib.hid hb
    have c0 := cell_of_row wr (w.heap.size) k _ _ _ ((hb.block (w.heap.size) (by have := HSZ.out; omega)).trans GA.out)
    clear hb
    by_cases hlt : k < 32
    · have HN := Lib.hid (take_next (a := a) (k := k) (by rw [Ha.out]; exact hlt))
      rw [ints_get .u8 _ _ (by rw [Ha.out]; exact hlt)] at c0
      generalize a[k]?.getD 0 = x at HN c0
      generalize hxs : (a.take k).map (Value.int .u8) = xs at hown
      have HX := Lib.hid hxs
      have O := Lib.hid hown
      clear hown hxs
      have b0 : (0 : Int) ≤ (k : Int) := by omega
      have b1 : (k : Int) < 32 := by omega
      go_wp2_with (at_builtin; refine wpList_append_own _ rfl _ _ 22 rfl W0.heap.size 5 i0 (.int .u8 0) 1 1 Try.underlying22 Hi.out hz0 hz1 hz2 rfl (by decide) _ k _ rfl (O.out.alloc _) ⟨wr.heap.size, 0, none⟩ 1 1 [.int .u8 x] rfl rfl ?c1 ?c2 ?c3 ?c4 ?c5 ?_)
      case c1 => exact new_cell _ _ _
      case c2 => simp [Value.oneCell']
      case c3 => unfold maxLen; omega
      case c4 => omega
      case c5 => have := B.out.size; simp; omega
      intro v' w4 hown4 hgrow4 hnil4
      have B4 := Lib.hid (below_append B.out O.out hgrow4)
      have O4 := Lib.hid (show w4.ownsRow W0.heap.size 5 1 v' (k + 1) ((a.take (k + 1)).map (Value.int .u8)) by
        rw [HN.out, List.map_append, HX.out]
        exact hown4)
      clear hown4 hgrow4 hnil4
      obtain ⟨g4, cp4, rfl⟩ := owns_form O4.out (by omega)
      go_wp2_with fail
      go_roundw
      case rel => exact ⟨g4, cp4, k + 1, by omega, rfl, by go_num, O4.out, B4.out⟩
      case measure => simp [intOf]; omega
    · obtain rfl : k = 32 := by omega
      have ht : a.take 32 = a := List.take_of_length_le (by rw [Ha.out]; exact Nat.le_refl _)
      rw [ht] at hown
      have OA := Lib.hid hown
      clear hown ht c0
      have BA := B
      clear B
      rw [show ((32 : Nat) : Int) = 32 from rfl]
      go_wp2_with fail
      go_loopw [7, 9] (fun v i wr => ∃ g cp k : Nat, k ≤ 32 ∧ v = .slice (some ⟨g, 0, none⟩) (32 + k) cp ∧ i = .int .i64 k ∧ wr.ownsRow W0.heap.size 5 1 v (32 + k) ((a ++ b.take k).map (Value.int .u8)) ∧ Below W0.heap.size W0 wr) (fun _ i _ => 32 - (intOf i).toNat)
      case atStart => exact ⟨g, cp, 0, by omega, rfl, rfl, by simpa using OA.out, BA.out⟩
      case round =>
        obtain ⟨g, cp, k, hk, rfl, rfl, hown, hb⟩ := hrel
        have B := Lib.hid hb
        have c0 := cell_of_row wr (w.heap.size + 1) k _ _ _ ((hb.block (w.heap.size + 1) (by have := HSZ.out; omega)).trans GB.out)
        clear hb
        by_cases hlt : k < 32
        · have HN := Lib.hid (take_next (a := b) (k := k) (by rw [Hb.out]; exact hlt))
          rw [ints_get .u8 _ _ (by rw [Hb.out]; exact hlt)] at c0
          generalize b[k]?.getD 0 = x at HN c0
          generalize hxs : (a ++ b.take k).map (Value.int .u8) = xs at hown
          have HX := Lib.hid hxs
          have O := Lib.hid hown
          clear hown hxs
          have b0 : (0 : Int) ≤ (k : Int) := by omega
          have b1 : (k : Int) < 32 := by omega
          go_wp2_with (at_builtin; refine wpList_append_own _ rfl _ _ 22 rfl W0.heap.size 5 i0 (.int .u8 0) 1 1 Try.underlying22 Hi.out hz0 hz1 hz2 rfl (by decide) _ (32 + k) _ rfl (O.out.alloc _) ⟨wr.heap.size, 0, none⟩ 1 1 [.int .u8 x] rfl rfl ?c1 ?c2 ?c3 ?c4 ?c5 ?_)
          case c1 => exact new_cell _ _ _
          case c2 => simp [Value.oneCell']
          case c3 => unfold maxLen; omega
          case c4 => omega
          case c5 => have := B.out.size; simp; omega
          intro v' w4 hown4 hgrow4 hnil4
          have B4 := Lib.hid (below_append B.out O.out hgrow4)
          have O4 := Lib.hid (show w4.ownsRow W0.heap.size 5 1 v' (32 + (k + 1)) ((a ++ b.take (k + 1)).map (Value.int .u8)) by
            rw [HN.out, ← List.append_assoc, List.map_append, HX.out]
            exact hown4)
          clear hown4 hgrow4 hnil4
          obtain ⟨g4, cp4, rfl⟩ := owns_form O4.out (by omega)
          go_wp2_with fail
          go_roundw
          case rel => exact ⟨g4, cp4, k + 1, by omega, rfl, by go_num, O4.out, B4.out⟩
          case measure => simp [intOf]; omega
        · obtain rfl : k = 32 := by omega
          have ht : b.take 32 = b := List.take_of_length_le (by rw [Hb.out]; exact Nat.le_refl _)
          rw [ht] at hown
          have OB := Lib.hid hown
          clear hown ht c0
          obtain ⟨_, h2⟩ := OB.out
          rcases h2 with ⟨e, _⟩ | ⟨g', cp', cur, hv, hgb, hh, _, _, _, htk⟩
          · cases e
          · cases hv
            have hlt2 := (Array.getElem?_eq_some_iff.1 hh).1
            have Hx := Lib.hid (Hh.out wr g cp hlt2 (fun j hj => by
              rw [Nat.zero_add, cell_of_row wr g j _ _ _ hh]
              have := congrArg (fun L : List Value => L[j]?) htk
              simp only [Nat.mul_one] at this
              have hl64 : (a ++ b).length = 64 := by simp [Ha.out, Hb.out]
              rw [List.getElem?_take_of_lt (by omega), List.getElem?_map, List.getElem?_eq_getElem (l := a ++ b) (by omega)] at this
              rw [List.getElem?_eq_getElem (l := a ++ b) (by omega)]
              simpa using this))
            clear hh htk hlt2
            go_wp2_with fail
            refine Hx.out.mono ?_
            rintro e w8 ⟨rfl, hb8⟩
            have C8 := Lib.hid (below_call B.out B.out.size hb8)
            have G8 := Lib.hid ((C8.out.block (w.heap.size + 1 + 1) (by have := HSZ.out; omega)).trans G6.out)
            clear hb8
            go_wp2_with (refine wpList_store_row rfl 28 _ _ rfl (w.heap.size + 1 + 1) (ints .u8 V) rfl rfl 28 (ints .u8 z32) G8.out (by rw [ints_size, Hvl.out]; exact sizeKey) (by rw [ints_size, ints_size, Hvl.out]; rfl) (ints_one _ _) ?_)
            refine bodyPost_ret (results_cell_row rfl _ _ (w.heap.size + 1 + 1) 28 (ints .u8 V) (0, 0) _ rfl (setRow_heap _ _ (ints .u8 z32) _ _ _ G8.out) Try.underlying28 rfl (by rw [ints_size, Hvl.out]; exact sizeKey)) rfl ⟨rfl, ?_⟩
            exact Below.setRow (BW.out.trans (C8.out.mono BW.out.size)) (by omega) _
end Go.Proofs.Ytjijgckljjcfiaa
