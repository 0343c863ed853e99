/- StoreBytes, by program and specification. Written by hand. -/
import Derived.Test.YtdoelmjaongjfaaVs
namespace Go.Proofs.Ytdoelmjaongjfaa
open Go.ChangeShapes Go.WideShapes Go.ChangeAt Go.RowKit
set_option linter.unusedVariables false
set_option linter.unusedSimpArgs false
noncomputable def sbyV (bs : List BlV) : Int := if stV bs = true then (szS bs : Int) else 0
noncomputable def sbyE (bs : List BlV) : Int := if stV bs = true then 0 else 1
theorem sby_yes {bs : List BlV} (h : stP bs) : sbyV bs = szS bs ∧ sbyE bs = 0 := by unfold sbyV sbyE; rw [stV_yes h]; exact ⟨rfl, rfl⟩
theorem sby_no {bs : List BlV} (h : ¬ stP bs) : sbyV bs = 0 ∧ sbyE bs = 1 := by unfold sbyV sbyE; rw [stV_no h]; exact ⟨rfl, rfl⟩
theorem szS_bound {bs : List BlV} (h : stP bs) (k : Nat) : szS (bs.take k) ≤ 131072 := by
  have h1 : ∀ l : List BlV, (∀ x ∈ l, x.n ≤ 1024) → szS l ≤ 1024 * l.length := by
    intro l
    induction l with
    | nil => intro _; simp [szS]
    | cons x r ih =>
      intro hx
      have h2 := ih (fun y hy => hx y (by simp [hy]))
      have h3 := hx x (by simp)
      unfold szS at *
      rw [List.map_cons, List.sum_cons, List.length_cons]
      omega
  have h4 := h1 (bs.take k) (fun x hx => by
    obtain ⟨i, hi⟩ := List.getElem?_of_mem (List.mem_of_mem_take hx)
    exact h.2.1 i x hi)
  have h5 := h.1
  rw [List.length_take] at h4
  omega
set_option maxRecDepth 100000 in
set_option maxHeartbeats 4000000 in
theorem sby_spec (g n : Nat) (bs : List BlV) (hn : n ≤ 1048576) (hl : bs.length = n) (hf : ∀ (i : Nat) (x : BlV), bs[i]? = some x → BlG x) (w : World) (ha : OutB w g n n bs) :
    Calls Try.prog 45 #[.agg #[.slice (some ⟨g, 0, none⟩) n n]] w fun e w' => e = .returned (.tuple #[.int .i64 (sbyV bs), .int .i64 (sbyE bs)]) ∧ Below w.heap.size w w' := by
  have HO := Lib.hid (open_spec w.heap.size g n bs hn hl hf (w.alloc (.cells #[.slice (some ⟨g, 0, none⟩) n n] 29)) (heap_alloc_last _ _) (ha.below ((Below.refl _ _).alloc (Nat.le_refl _) _)))
  have HL := Lib.hid hl
  clear ha hf hl
  go_enter Try.func45, Try.ntmps45
  go_wp2_with fail
  refine HO.out.mono ?_
  rintro e w1 ⟨h, hb⟩
  have HB := Lib.hid (show Below w.heap.size w w1 from ((Below.refl _ _).alloc (Nat.le_refl _) _).trans (hb.mono (by simp)))
  clear hb
  rcases h with ⟨hP, rfl, v1, v2, ys, hop⟩ | ⟨hP, rfl⟩
  · have HS := Lib.hid (sby_yes hP)
    have HK := Lib.hid (szS_bound hP)
    have h128 := hP.1
    rw [HL.out] at h128
    have OP := Lib.hid hop
    clear hP hop
    obtain ⟨g1, c1, hv1⟩ : ∃ p c1, v1 = .slice p n c1 := by
      rcases OP.out.row1.2 with ⟨h0, h1⟩ | ⟨gg, cc, _, h0, _⟩
      · exact ⟨none, 0, by rw [h0]; rw [HL.out] at h1; rw [h1]⟩
      · exact ⟨_, _, by rw [h0, HL.out]⟩
    subst hv1
    rw [World.size_alloc] at OP
    go_wp2_with fail
    go_loopw [6, 7] (fun s i wr => ∃ k : Nat, k ≤ n ∧ i = .int .i64 k ∧ s = .int .i64 (szS (bs.take k)) ∧ wr = w1) (fun _ i _ => n - (intOf i).toNat)
    case atStart => exact ⟨0, by omega, rfl, by simp [szS], rfl⟩
    case round =>
      obtain ⟨k, hk, rfl, rfl, rfl⟩ := hrel
      have q0 := cell_of_row _ (w.heap.size + 1) 0 _ _ _ OP.out.box
      have hb2 := HK.out k
      by_cases hlt : k < n
      · have b0 : (0 : Int) ≤ (k : Int) := by omega
        have b1 : (k : Int) < (n : Int) := by omega
        obtain ⟨x, hx⟩ := get_of HL.out hlt
        have e2 := szS_take hx
        have hb3 := HK.out (k + 1)
        have E2 := Lib.hid e2
        obtain ⟨gg, cc, cur, hv, hcell⟩ : ∃ gg cc cur, g1 = some ⟨gg, 0, none⟩ ∧ wr.heap[gg]? = some (.cells cur 43) ∧ ∃ y, cur[k * 2 + 1]? = some (.slice (some ⟨y, 0, none⟩) x.n x.n) := by
          rcases OP.out.row1.2 with ⟨h0, h1⟩ | ⟨gg, cc, cur, h0, _, hg, _, _, _, ht⟩
          · rw [HL.out] at h1
            omega
          · injection h0 with h00
            obtain ⟨y, hy⟩ : ∃ y, ys[k]? = some y := ⟨ys[k]'(by rw [OP.out.len, HL.out]; exact hlt), List.getElem?_eq_getElem _⟩
            have h3 := (blC_at bs ys k x y hx hy).2
            rw [← ht, List.getElem?_take_of_lt (by rw [HL.out]; omega)] at h3
            exact ⟨gg, cc, cur, h00, hg, y, by simpa using h3⟩
        obtain ⟨hgc, y, hy⟩ := hcell
        subst hv
        have q1 : wr.cell? ⟨gg, k * 2 + 1, none⟩ = some (.slice (some ⟨y, 0, none⟩) x.n x.n) := by rw [cell_of_row _ gg (k * 2 + 1) _ _ _ hgc]; exact hy
        have hxn : (x.n : Int) ≤ 131072 := by omega
        have hxs : (szS (bs.take k) : Int) + (x.n : Int) ≤ 131072 := by omega
        have hs0 : (0 : Int) ≤ (szS (bs.take k) : Int) := by omega
        clear e2 hb2 hb3 hx hgc hy
        obtain ⟨xt, xa, xn, xc, xl⟩ := x
        dsimp only at q1 hxn hxs E2
        generalize hacc : (szS (bs.take k) : Int) = acc at hxs hs0 ⊢
        have HACC := Lib.hid hacc
        clear hacc
        go_wp2_with fail
        go_roundw
        case rel => exact ⟨k + 1, by omega, by go_num, by rw [E2.out]; push_cast; congr 1; have := HACC.out; omega, by trivial⟩
        case measure => simp [intOf]; omega
      · obtain rfl : k = n := by omega
        have e3 : bs.take k = bs := List.take_of_length_le (by rw [HL.out]; omega)
        rw [e3]
        clear e3
        go_wp2_with fail
        go_returns
        exact ⟨by rw [HS.out.1, HS.out.2]; rfl, HB.out⟩
  · have HS := Lib.hid (sby_no hP)
    clear hP
    go_wp2_with fail
    go_returns
    exact ⟨by rw [HS.out.1, HS.out.2]; rfl, HB.out⟩
set_option maxRecDepth 100000 in
set_option maxHeartbeats 4000000 in
theorem by_impl (g n : Nat) (bs : List BlV) (hP : stP bs) (hl : bs.length = n) (w : World) (ha : OutB w g n n bs) :
    Calls Try.prog 86 #[.slice (some ⟨g, 0, none⟩) n n] w fun e w' => e = .returned (.int .i64 (szS bs)) ∧ Below w.heap.size w w' := by
  have HL := Lib.hid hl
  have HA := Lib.hid ha
  have HK := Lib.hid (szS_bound hP)
  have h128 := hP.1
  rw [HL.out] at h128
  clear hP ha hl
  go_enter Try.func86, Try.ntmps86
  go_wp2_with fail
  go_loopw [3, 8] (fun s i wr => ∃ k : Nat, k ≤ n ∧ i = .int .i64 k ∧ s = .int .i64 (szS (bs.take k)) ∧ Below w.heap.size w wr) (fun _ i _ => n - (intOf i).toNat)
  case atStart => exact ⟨0, by omega, rfl, by simp [szS], Below.refl _ _⟩
  case round =>
    obtain ⟨k, hk, rfl, rfl, hb⟩ := hrel
    have B1 := Lib.hid hb
    clear hb
    have hb2 := HK.out k
    by_cases hlt : k < n
    · have b0 : (0 : Int) ≤ (k : Int) := by omega
      have b1 : (k : Int) < (n : Int) := by omega
      obtain ⟨x, hx⟩ := get_of HL.out hlt
      have e2 := szS_take hx
      have hb3 := HK.out (k + 1)
      have E2 := Lib.hid e2
      obtain ⟨y, hya⟩ := (HA.out.below B1.out).at hlt hx
      obtain ⟨c0, c1⟩ := hya.keep (Below.refl wr.heap.size wr)
      have hxn : (x.n : Int) ≤ 131072 := by omega
      have hxs : (szS (bs.take k) : Int) + (x.n : Int) ≤ 131072 := by omega
      have hs0 : (0 : Int) ≤ (szS (bs.take k) : Int) := by omega
      have B2 := Lib.hid (B1.out.alloc B1.out.size (.cells #[.int .u8 x.t, .slice (some ⟨y, 0, none⟩) x.n x.n] 43))
      clear e2 hb2 hb3 hx hya
      obtain ⟨xt, xa, xn, xc, xl⟩ := x
      dsimp only at c0 c1 hxn hxs E2 B2
      generalize hacc : (szS (bs.take k) : Int) = acc at hxs hs0 ⊢
      have HACC := Lib.hid hacc
      clear hacc
      go_wp2_with fail
      go_roundw
      case rel => exact ⟨k + 1, by omega, by go_num, by rw [E2.out]; push_cast; congr 1; have := HACC.out; omega, B2.out⟩
      case measure => simp [intOf]; omega
    · obtain rfl : k = n := by omega
      have e3 : bs.take k = bs := List.take_of_length_le (by rw [HL.out]; omega)
      rw [e3]
      clear e3
      go_wp2_with fail
      go_returns
      exact ⟨rfl, B1.out⟩
set_option maxRecDepth 100000 in
set_option maxHeartbeats 4000000 in
theorem sby_impl (g n : Nat) (bs : List BlV) (hn : n ≤ 1048576) (hl : bs.length = n) (hf : ∀ (i : Nat) (x : BlV), bs[i]? = some x → BlG x) (w : World) (ha : OutB w g n n bs) :
    Calls Try.prog 46 #[.agg #[.slice (some ⟨g, 0, none⟩) n n]] w fun e w' => e = .returned (.tuple #[.int .i64 (sbyV bs), .int .i64 (sbyE bs)]) ∧ Below w.heap.size w w' := by
  have HO := Lib.hid (vs_impl g n bs hn hl hf (w.alloc (.cells #[.slice (some ⟨g, 0, none⟩) n n] 29)) (ha.below ((Below.refl _ _).alloc (Nat.le_refl _) _)))
  have HX := Lib.hid (heap_alloc_last w (.cells #[.slice (some ⟨g, 0, none⟩) n n] 29))
  by_cases hP : stP bs
  · have HS := Lib.hid (sby_yes hP)
    have HBY := Lib.hid (fun U (hU : Below w.heap.size w U) => by_impl g n bs hP hl U (ha.below hU))
    rw [stV_yes hP] at HO
    clear hP ha hf hl
    go_enter Try.func46, Try.ntmps46
    go_wp2_with fail
    refine HO.out.mono ?_
    rintro e w1 ⟨rfl, hb⟩
    have HB := Lib.hid (show Below w.heap.size w w1 from ((Below.refl _ _).alloc (Nat.le_refl _) _).trans (hb.mono (by simp)))
    have X1 := Lib.hid (keep_block HX.out hb)
    clear hb
    have HC := Lib.hid (HBY.out w1 HB.out)
    have q0 := cell_of_row _ w.heap.size 0 _ _ _ X1.out
    go_wp2_with fail
    clear q0
    refine HC.out.mono ?_
    rintro e w2 ⟨rfl, hb⟩
    go_wp2_with fail
    go_returns
    exact ⟨by rw [HS.out.1, HS.out.2]; rfl, below_call HB.out HB.out.size hb⟩
  · have HS := Lib.hid (sby_no hP)
    rw [stV_no hP] at HO
    clear hP ha hf hl
    go_enter Try.func46, Try.ntmps46
    go_wp2_with fail
    refine HO.out.mono ?_
    rintro e w1 ⟨rfl, hb⟩
    have HB := Lib.hid (show Below w.heap.size w w1 from ((Below.refl _ _).alloc (Nat.le_refl _) _).trans (hb.mono (by simp)))
    clear hb
    go_wp2_with fail
    go_returns
    exact ⟨by rw [HS.out.1, HS.out.2]; rfl, HB.out⟩
end Go.Proofs.Ytdoelmjaongjfaa
