/- What the specification feeds into a cutter: how many chunks end, and the rolling value. -/
import Derived.Test.YtdamgodfgoackaaCuts
import Derived.Test.YtdamgodfgoackaaConcat
import Derived.Test.YtdamgodfgoackaaPad
namespace Go.Proofs.Ytdamgodfgoackaa
open Go.ChangeShapes Go.WideShapes Go.ChangeAt Go.RowKit
set_option linter.unusedVariables false
theorem owns_slice {w : World} {base size n : Nat} {e : TypeId} {v : Value} {xs : List Value} (h : w.ownsRow base e size v n xs) : ∃ a cap, v = .slice a n cap := by
  rcases h.2 with ⟨rfl, rfl⟩ | ⟨g, cap, cur, rfl, _⟩
  · exact ⟨none, 0, rfl⟩
  · exact ⟨_, cap, rfl⟩
theorem owns_other {W W1 W' : World} {b1 b2 n m s1 s2 : Nat} {e f : TypeId} {v u : Value} {xs ys : List Value} (hef : e ≠ f) (h : W.ownsRow b1 e s1 v n xs) (h2 : W.ownsRow b2 f s2 u m ys) (hg : W.grownBy W' u.ownBlock) : W'.ownsRow b1 e s1 v n xs := by
  obtain ⟨q1, q2⟩ := h
  refine ⟨q1, ?_⟩
  rcases q2 with h0 | ⟨g, cap, cur, hv, hb, hh, r⟩
  · exact Or.inl h0
  · refine Or.inr ⟨g, cap, cur, hv, hb, (hg.block g (Array.getElem?_eq_some_iff.1 hh).1 (fun hE => ?_)).trans hh, r⟩
    rcases h2.2 with ⟨rfl, _⟩ | ⟨g2, cap2, cur2, rfl, _, hh2, _⟩
    · simp [Value.ownBlock] at hE
    · obtain rfl : g = g2 := by simpa [Value.ownBlock] using hE
      rw [hh] at hh2
      simp at hh2
      exact hef hh2.2
theorem infoTD : (Try.prog.info? 22).map (fun i => (i.zero, i.size, i.bytes)) = some (some (.slice none 0 0), 1, 24) := by kernel_rfl
set_option maxRecDepth 100000 in
set_option maxHeartbeats 2000000 in
theorem feed_spec (p x : Nat) (a : Option Addr) (N cap : Nat) (lo mo bi : Int) (L : List Int) (b0 : 0 ≤ bi) (b1 : bi ≤ 8) (fl : ∀ z ∈ L, 0 ≤ z ∧ z ≤ 255) (hN : N ≤ 1048576) (w : World) (c0 : w.cell? ⟨p, 0, none⟩ = some (.int .i64 lo)) (c1 : w.cell? ⟨p, 1, none⟩ = some (.int .i64 mo)) (c2 : w.cell? ⟨p, 2, none⟩ = some (.int .i64 bi)) (hr : Rd .u8 w a N L) :
    Calls Try.prog 118 #[.pointer (some ⟨p, 0, none⟩), .int .u32 0, .slice (some ⟨x, 0, none⟩) 0 0, .slice a N cap] w fun e w' => ∃ a1 k1 v2, e = .returned (.tuple #[.slice a1 (cutS lo mo bi L N).2.2.length k1, .int .u32 (cutS lo mo bi L N).2.1, v2]) ∧ Below w.heap.size w w' := by
  obtain ⟨i0, hi, hz0, hz1, hz2⟩ := info_parts infoU8
  obtain ⟨j0, hj, hy0, hy1', hy2⟩ := info_parts infoTD
  have Hi := Lib.hid hi
  have Hj := Lib.hid hj
  have HR := Lib.hid hr
  have Fl := Lib.hid fl
  have C0 := Lib.hid c0
  have C1 := Lib.hid c1
  have C2 := Lib.hid c2
  have Hye := Lib.hid (fun j h => cut_yes lo mo bi L j h)
  have Hno := Lib.hid (fun j h => cut_no lo mo bi L j h)
  have Hfa := Lib.hid (fun j => cut_facts lo mo bi L j)
  have hp := World.block_lt_of_cell? w _ c0
  have O0 := Lib.hid (show (w.alloc (.cells #[] 22)).ownsRow w.heap.size 22 1 (.slice (some ⟨w.heap.size, 0, none⟩) 0 0) 0 [] from ⟨rfl, Or.inr ⟨w.heap.size, 0, #[], rfl, Nat.le_refl _, heap_alloc_last _ _, by omega, by unfold maxLen; omega, rfl, rfl⟩⟩)
  have P0 := Lib.hid (show ((w.alloc (.cells #[] 22)).alloc (.cells #[] 5)).ownsRow w.heap.size 5 1 (.slice (some ⟨w.heap.size + 1, 0, none⟩) 0 0) 0 [] from ⟨rfl, Or.inr ⟨w.heap.size + 1, 0, #[], rfl, by omega, heap_alloc2_new _ _ _, by omega, by unfold maxLen; omega, rfl, rfl⟩⟩)
  have BB := Lib.hid (((Below.refl w.heap.size w).alloc (Nat.le_refl _) (.cells #[] 22)).alloc (by simp) (.cells #[] 5))
  have Q0 := Lib.hid (O0.out.alloc (.cells #[] 5))
  have hrun := run_append_zero (P := Try.prog) 22 22 5 i0 1 Try.underlying22 hi (.slice (some ⟨w.heap.size + 1, 0, none⟩) 0 0) 0 [] P0.out (some ⟨x, 0, none⟩) 0
  clear hi hj hr fl c0 c1 c2
  go_enter Try.func118, Try.ntmps118
  go_wp2_with (refine wpList_append_ran rfl _ _ 22 22 rfl _ _ rfl rfl hrun ?_)
  clear hrun
  go_loopw [1, 11, 12, 13] (fun r o v i wr => ∃ k m : Nat, k ≤ N ∧ i = .int .i64 k ∧ (cutS lo mo bi L k).1 + m = k ∧ r = .int .u32 (cutS lo mo bi L k).2.1 ∧ (∃ xs, wr.ownsRow w.heap.size 22 1 o (cutS lo mo bi L k).2.2.length xs) ∧ (∃ ys, wr.ownsRow w.heap.size 5 1 v m ys) ∧ Below w.heap.size w wr) (fun _ _ _ i _ => N - (intOf i).toNat)
  case atStart => exact ⟨0, 0, Nat.zero_le _, rfl, rfl, rfl, ⟨_, Q0.out⟩, ⟨_, P0.out⟩, BB.out⟩
  case round =>
    obtain ⟨k, m, hk, rfl, hm, rfl, ⟨xs, hout⟩, ⟨ys, hnow⟩, hb⟩ := hrel
    have HO := Lib.hid hout
    have HNW := Lib.hid hnow
    have HB := Lib.hid hb
    obtain ⟨f1, f2, f3, f4, f5⟩ := Hfa.out k
    clear f5 hout hnow hb
    by_cases hlt : k < N
    · obtain ⟨hl, hr⟩ := HR.out
      obtain ⟨b, off, rfl, hbl, hc⟩ : ∃ b off, a = some ⟨b, off, none⟩ ∧ b < w.heap.size ∧ ∀ j, j < N → w.cell? ⟨b, off + j, none⟩ = some (.int .u8 (L[j]?.getD 0)) := by
        rcases hr with h0 | h
        · omega
        · exact h
      have ex : wr.cell? ⟨b, off + k, none⟩ = some (.int .u8 (L[k]?.getD 0)) := by rw [HB.out.cell (p := ⟨b, off + k, none⟩) hbl]; exact hc k hlt
      have hx : 0 ≤ L[k]?.getD 0 ∧ L[k]?.getD 0 ≤ 255 := by
        rw [List.getElem?_eq_getElem (by rw [hl]; exact hlt)]
        exact Fl.out _ (List.getElem_mem _)
      have hy1 := Hye.out k
      have hn1 := Hno.out k
      clear hc hr hl
      generalize hq : cutS lo mo bi L k = q at hy1 hn1 HO f1 f2 f3 f4 hm ⊢
      clear hq
      obtain ⟨s, r, o⟩ := q
      simp only [] at f1 f2 f3 f4 hm hy1 hn1 HO
      generalize L[k]?.getD 0 = z at ex hx hy1 hn1
      have hlen : (k : Int) + 1 - (s : Int) = (m : Int) + 1 := by omega
      rw [hlen] at hy1 hn1
      have Hro := Lib.hid (fun W => roll_spec r z f2 f3 hx.1 hx.2 W)
      have Hen := Lib.hid (fun W h0 h1 h2 => ends_spec p lo mo bi ((m : Int) + 1) (stepR rollW r z) b0 b1 W h0 h1 h2)
      generalize stepR rollW r z = r2 at Hro Hen hy1 hn1
      have i0' : (0 : Int) ≤ (k : Int) := by omega
      have i1' : (k : Int) < (N : Int) := by omega
      go_wp2_with (at_builtin; refine wpList_append_own _ rfl _ _ 22 rfl w.heap.size 5 i0 (.int .u8 0) 1 1 Try.underlying22 Hi.out hz0 hz1 hz2 rfl (by decide) _ m _ rfl (HNW.out.alloc _) ⟨wr.heap.size, 0, none⟩ 1 1 [.int .u8 z] rfl rfl ?c1 ?c2 ?c3 ?c4 ?c5 ?_)
      case c1 => exact new_cell _ _ _
      case c2 => simp [Value.oneCell']
      case c3 => unfold maxLen; omega
      case c4 => omega
      case c5 => have := HB.out.size; simp; omega
      intro v4 w4 hown4 hgrow4 hnil4
      have B4 := Lib.hid (below_append HB.out HNW.out hgrow4)
      have N4 := Lib.hid hown4
      have O4 := Lib.hid (owns_other (W1 := wr) (by decide) (HO.out.alloc _) (HNW.out.alloc _) hgrow4)
      obtain ⟨g4, cp4, rfl⟩ := owns_form hown4 (by omega)
      clear hown4 hgrow4 hnil4
      have ex4 : w4.cell? ⟨b, off + k, none⟩ = some (.int .u8 z) := by rw [← ex, HB.out.cell (p := ⟨b, off + k, none⟩) hbl, B4.out.cell (p := ⟨b, off + k, none⟩) hbl]
      clear ex
      go_wp2_with fail
      refine (Hro.out _).mono ?_
      rintro e w5 ⟨rfl, hb5⟩
      have B5 := Lib.hid (below_call B4.out B4.out.size hb5)
      have N5 := Lib.hid (owns_below N4.out hb5)
      have O5 := Lib.hid (owns_below O4.out hb5)
      clear hb5 ex4
      go_wp2_with fail
      refine (Hen.out _ (by rw [B5.out.cell (p := ⟨p, 0, none⟩) hp]; exact C0.out) (by rw [B5.out.cell (p := ⟨p, 1, none⟩) hp]; exact C1.out) (by rw [B5.out.cell (p := ⟨p, 2, none⟩) hp]; exact C2.out)).mono ?_
      rintro e w6 ⟨rfl, rfl⟩
      cases he : endsP lo mo bi ((m : Int) + 1) r2
      · have Hq := Lib.hid (hn1 he)
        clear hy1 hn1 he Hen
        go_wp2_with fail
        go_roundw
        case rel => exact ⟨k + 1, m + 1, by omega, by go_num, by rw [Hq.out]; simp only []; omega, by rw [Hq.out], ⟨xs, by rw [Hq.out]; exact O5.out⟩, ⟨_, N5.out⟩, B5.out⟩
        case measure => simp [intOf]; omega
      · have Hq := Lib.hid (hy1 he)
        clear hy1 hn1 he Hen
        go_wp2_with (at_builtin; refine wpList_append_own _ rfl _ _ 68 rfl w.heap.size 22 j0 (.slice none 0 0) 1 24 Try.underlying68 Hj.out hy0 hy1' hy2 rfl (by decide) _ o.length _ rfl (O5.out.alloc _) ⟨w6.heap.size, 0, none⟩ 1 1 [.slice (some ⟨g4, 0, none⟩) (m + 1) cp4] rfl rfl ?c1 ?c2 ?c3 ?c4 ?c5 ?_)
        case c1 => exact new_cell _ _ _
        case c2 => simp [Value.oneCell']
        case c3 => unfold maxLen; omega
        case c4 => omega
        case c5 => have := B5.out.size; simp; omega
        intro v7 w7 hown7 hgrow7 hnil7
        have B7 := Lib.hid (below_append B5.out O5.out hgrow7)
        have O8 := Lib.hid (hown7.alloc (.cells #[] 5))
        clear hown7 hgrow7 hnil7
        have P8 := Lib.hid (show (w7.alloc (.cells #[] 5)).ownsRow w.heap.size 5 1 (.slice (some ⟨w7.heap.size, 0, none⟩) 0 0) 0 [] from ⟨rfl, Or.inr ⟨w7.heap.size, 0, #[], rfl, B7.out.size, heap_alloc_last _ _, by omega, by unfold maxLen; omega, rfl, rfl⟩⟩)
        have B8 := Lib.hid (B7.out.alloc B7.out.size (.cells #[] 5))
        go_wp2_with fail
        go_roundw
        case rel => exact ⟨k + 1, 0, by omega, by go_num, by rw [Hq.out], by rw [Hq.out], ⟨_, by rw [Hq.out, List.length_append]; exact O8.out⟩, ⟨[], P8.out⟩, B8.out⟩
        case measure => simp [intOf]; omega
    · obtain rfl : k = N := by omega
      obtain ⟨a1, k1, rfl⟩ := owns_slice HO.out
      have HQ := Lib.hid (show (cutS lo mo bi L k).2.2.length = (cutS lo mo bi L k).2.2.length from rfl)
      clear f4
      generalize hq : cutS lo mo bi L k = q at *
      obtain ⟨s, r, o⟩ := q
      have Hq := Lib.hid hq
      clear hq
      simp only [] at f1 f2 f3 hm
      go_wp2_with fail
      refine bodyPost_ret (results_tmp3 rfl _ _ _) rfl ?_
      first
        | exact ⟨⟨_, _, _, by rw [Hq.out]; rfl⟩, HB.out⟩
        | exact ⟨_, _, _, by rw [Hq.out]; rfl, HB.out⟩
end Go.Proofs.Ytdamgodfgoackaa
