/- The last blocks of data, as the program makes them. -/
import Derived.Test.YtdoelmjaongjfaaBlocks
import Derived.Test.YtdoelmjaongjfaaConcat
import Derived.Test.YtdoelmjaongjfaaPad
namespace Go.Proofs.Ytdoelmjaongjfaa
open Go.ChangeShapes Go.WideShapes Go.ChangeAt Go.RowKit
set_option linter.unusedVariables false
theorem quoK_pow (c : Int) : ∀ k, quoK c k = c / 2 ^ (8 * k)
  | 0 => by simp [quoK]
  | k + 1 => by
    show quoK c k / 256 = _
    rw [quoK_pow c k, show 8 * (k + 1) = 8 * k + 8 by omega, Int.pow_add, Int.ediv_ediv_of_nonneg (by exact Int.pow_nonneg (by omega))]
    rfl
theorem owns_base {w : World} {base base' n size : Nat} {e : TypeId} {v : Value} {xs : List Value} (h : base ≤ base') (o : w.ownsRow base' e size v n xs) : w.ownsRow base e size v n xs := by
  refine ⟨o.1, ?_⟩
  rcases o.2 with h0 | ⟨g, cap, cur, hv, hb, r⟩
  · exact Or.inl h0
  · exact Or.inr ⟨g, cap, cur, hv, Nat.le_trans h hb, r⟩
theorem pair_owned {w : World} {a : Option Addr} {n cap : Nat} {l : List Int} (h : Rd .u8 w a n l) :
    RdS ((w.alloc (.cells #[.int .u8 128] 5)).alloc (.cells #[.slice a n cap, .slice (some ⟨w.heap.size, 0, none⟩) 1 1] 41)) (some ⟨w.heap.size + 1, 0, none⟩) 2 [l, [128]] := by
  have hg := heap_alloc_last (w.alloc (.cells #[.int .u8 128] 5)) (.cells #[.slice a n cap, .slice (some ⟨w.heap.size, 0, none⟩) 1 1] 41)
  rw [World.size_alloc] at hg
  have h1 := heap_alloc2_old w (.cells #[.int .u8 128] 5) (.cells #[.slice a n cap, .slice (some ⟨w.heap.size, 0, none⟩) 1 1] 41)
  refine ⟨rfl, Or.inr ⟨w.heap.size + 1, 0, rfl, by simp, fun j hj => ?_⟩⟩
  match j, hj with
  | 0, _ => exact ⟨a, n, cap, by rw [cell_of_row _ _ _ _ _ _ hg]; rfl, h.below (((Below.refl w.heap.size w).alloc (Nat.le_refl _) _).alloc (by simp) _)⟩
  | 1, _ =>
    refine ⟨_, 1, 1, by rw [cell_of_row _ _ _ _ _ _ hg]; rfl, rfl, Or.inr ⟨w.heap.size, 0, rfl, by simp; omega, fun i hi => ?_⟩⟩
    obtain rfl : i = 0 := by omega
    rw [cell_of_row _ _ _ _ _ _ h1]
    rfl
  | j + 2, hj => simp at hj; omega
set_option maxRecDepth 100000 in
set_option maxHeartbeats 1000000 in
theorem last_impl (a : Option Addr) (n cap : Nat) (l : List Int) (c : Int) (hn : n ≤ 1048576) (c0 : 0 ≤ c) (c1 : c ≤ 1099511627776) (w : World) (hr : Rd .u8 w a n l) :
    Calls Try.prog 125 #[.slice a n cap, .int .i64 c] w fun e w' => ∃ v, e = .returned v ∧ w'.ownsRow w.heap.size 40 32 v ((padL l c).length / 32) ((padL l c).map (Value.int .u8)) ∧ Below w.heap.size w w' := by
  obtain ⟨i0, hi, hz0, hz1, hz2⟩ := info_parts infoU8
  have Hi := Lib.hid hi
  have Hl := Lib.hid hr.1
  have Hc := Lib.hid (fun W h => concat_impl (some ⟨w.heap.size + 1, 0, none⟩) 2 2 [l, [128]] (by omega) (by simp [hr.1]; omega) W h)
  have Hp := Lib.hid (pair_owned (cap := cap) hr)
  have hf : [l, [128]].flatten = l ++ [128] := by simp
  have hfl : (l ++ [128]).length = n + 1 := by simp [hr.1]
  rw [hf, hfl] at Hc
  clear hi hr hf hfl
  go_enter Try.func125, Try.ntmps125
  go_wp2_with fail
  refine (Hc.out _ Hp.out).mono ?_
  rintro e w2 ⟨v2, rfl, hown2, hb2⟩
  have hsz : ((w.alloc (.cells #[.int .u8 128] 5)).alloc (.cells #[.slice a n cap, .slice (some ⟨w.heap.size, 0, none⟩) 1 1] 41)).heap.size = w.heap.size + 2 := by simp
  rw [hsz] at hown2 hb2
  have B2 := Lib.hid ((((Below.refl w.heap.size w).alloc (Nat.le_refl _) (.cells #[.int .u8 128] 5)).alloc (by simp) (.cells #[.slice a n cap, .slice (some ⟨w.heap.size, 0, none⟩) 1 1] 41)).trans (hb2.mono (by omega)))
  have O2 := Lib.hid (owns_base (show w.heap.size ≤ w.heap.size + 2 by omega) hown2)
  clear hown2 hb2 hsz
  obtain ⟨g2, cp2, rfl⟩ := owns_form O2.out (by omega)
  go_wp2_with fail
  have hp : padN n < 32 := by unfold padN; omega
  go_loopw [5] (fun v wr => ∃ g cp N : Nat, v = .slice (some ⟨g, 0, none⟩) N cp ∧ n + 1 ≤ N ∧ N ≤ n + 1 + padN n ∧ wr.ownsRow w.heap.size 5 1 v N ((l ++ [128] ++ List.replicate (N - (n + 1)) 0).map (Value.int .u8)) ∧ Below w.heap.size w wr) (fun v _ => n + 1 + padN n - lenS v)
  case atStart => exact ⟨g2, cp2, n + 1, rfl, by omega, by omega, by rw [Nat.sub_self]; simpa using O2.out, B2.out⟩
  case round =>
    obtain ⟨g, cp, N, rfl, hN0, hN1, hown, hb⟩ := hrel
    generalize hxs : (l ++ [128] ++ List.replicate (N - (n + 1)) 0).map (Value.int .u8) = xs at hown
    have HX := Lib.hid hxs
    have O3 := Lib.hid hown
    have B3 := Lib.hid hb
    clear hown hb hxs
    by_cases hlt : N < n + 1 + padN n
    · have hd : ((N : Int) % 32 != 24) = true := by
        have := padN_less n (N - (n + 1)) (by omega)
        simp
        omega
      go_wp2_with (at_builtin; refine wpList_append_own _ rfl _ _ 41 rfl w.heap.size 5 i0 (.int .u8 0) 1 1 Try.underlying41 Hi.out hz0 hz1 hz2 rfl (by decide) _ N _ rfl (O3.out.alloc _) ⟨wr.heap.size, 0, none⟩ 1 1 [.int .u8 0] rfl rfl ?c1 ?c2 ?c3 ?c4 ?c5 ?_)
      case c1 => exact new_cell _ _ _
      case c2 => simp [Value.oneCell']
      case c3 => unfold maxLen; omega
      case c4 => omega
      case c5 => have := B3.out.size; simp; omega
      intro v' w4 hown4 hgrow4 hnil4
      have B4 := Lib.hid (below_append B3.out O3.out hgrow4)
      have O4 := Lib.hid (show w4.ownsRow w.heap.size 5 1 v' (N + 1) ((l ++ [128] ++ List.replicate (N + 1 - (n + 1)) 0).map (Value.int .u8)) by
        rw [show N + 1 - (n + 1) = (N - (n + 1)) + 1 by omega, List.replicate_succ', ← List.append_assoc, List.map_append, HX.out]
        exact hown4)
      clear hown4 hgrow4 hnil4
      obtain ⟨g4, cp4, rfl⟩ := owns_form O4.out (by omega)
      go_wp2_with fail
      go_roundw
      case rel => exact ⟨g4, cp4, N + 1, rfl, by omega, by omega, O4.out, B4.out⟩
      case measure => simp [lenS]; omega
    · obtain rfl : N = n + 1 + padN n := by omega
      have O5 := Lib.hid (show wr.ownsRow w.heap.size 5 1 (.slice (some ⟨g, 0, none⟩) (n + 1 + padN n) cp) (n + 1 + padN n) ((l ++ [128] ++ List.replicate (padN n) 0).map (Value.int .u8)) by
        have := O3.out
        rw [← HX.out, show n + 1 + padN n - (n + 1) = padN n by omega] at this
        exact this)
      have hm : ((n + 1 + padN n : Nat) : Int) % 32 = 24 := by have := padN_mod n; omega
      generalize hM : n + 1 + padN n = M at O5 hm
      have HM := Lib.hid hM
      have Hm := Lib.hid hm
      have hM2 : M ≤ 1048640 := by omega
      clear hM O3 hN0 hN1
      have hd : ((M : Int) % 32 != 24) = false := by simp; omega
      obtain ⟨w5, rfl⟩ : ∃ w5 : World, w5 = wr := ⟨_, rfl⟩
      have HE : Hid (padL l c = (l ++ [128] ++ List.replicate (padN n) 0) ++ le8 c 8) := Lib.hid (by unfold padL; rw [Hl.out])
      have HPl : Hid ((l ++ [128] ++ List.replicate (padN n) 0).length = M) := Lib.hid (by simp [Hl.out]; have := HM.out; omega)
      generalize l ++ [128] ++ List.replicate (padN n) 0 = P at O5 HE HPl
      go_wp2_with fail
      clear hd hm
      go_loopw [5, 6] (fun v i wr => ∃ g cp k : Nat, k ≤ 8 ∧ v = .slice (some ⟨g, 0, none⟩) (M + k) cp ∧ i = .int .i64 ((8 * k : Nat) : Int) ∧ wr.ownsRow w.heap.size 5 1 v (M + k) ((P ++ le8 c k).map (Value.int .u8)) ∧ Below w.heap.size w wr) (fun _ i _ => 64 - (intOf i).toNat)
      case atStart => exact ⟨g, cp, 0, by omega, rfl, rfl, by simpa [le8] using O5.out, B3.out⟩
      case round =>
        obtain ⟨g, cp, k, hk, rfl, rfl, hown, hb⟩ := hrel
        have hq := le8_succ c k
        have HQ := Lib.hid hq
        clear hq
        have HQ2 := Lib.hid (quoK_pow c k)
        generalize hxs : (P ++ le8 c k).map (Value.int .u8) = xs at hown
        have HX2 := Lib.hid hxs
        have O6 := Lib.hid hown
        have B6 := Lib.hid hb
        clear hown hb hxs
        by_cases hlt : k < 8
        · go_wp2_with (at_builtin; refine wpList_append_own _ rfl _ _ 41 rfl w.heap.size 5 i0 (.int .u8 0) 1 1 Try.underlying41 Hi.out hz0 hz1 hz2 rfl (by decide) _ (M + k) _ rfl (O6.out.alloc _) ⟨wr.heap.size, 0, none⟩ 1 1 [.int .u8 (c / 2 ^ (8 * k) % 256)] rfl rfl ?c1 ?c2 ?c3 ?c4 ?c5 ?_)
          case c1 => exact new_cell _ _ _
          case c2 => simp [Value.oneCell']
          case c3 => unfold maxLen; omega
          case c4 => omega
          case c5 => have := B6.out.size; simp; omega
          intro v' w7 hown7 hgrow7 hnil7
          have B7 := Lib.hid (below_append B6.out O6.out hgrow7)
          have O7 := Lib.hid (show w7.ownsRow w.heap.size 5 1 v' (M + (k + 1)) ((P ++ le8 c (k + 1)).map (Value.int .u8)) by
            rw [HQ.out, HQ2.out, ← List.append_assoc, List.map_append, HX2.out]
            exact hown7)
          clear hown7 hgrow7 hnil7
          obtain ⟨g7, cp7, rfl⟩ := owns_form O7.out (by omega)
          go_wp2_with fail
          go_roundw
          case rel => exact ⟨g7, cp7, k + 1, by omega, rfl, by rw [show 8 * (k + 1) = 8 * k + 8 by omega]; go_num, O7.out, B7.out⟩
          case measure => simp [intOf]; omega
        · obtain rfl : k = 8 := by omega
          have hlen : (padL l c).length = M + 8 := by rw [HE.out, List.length_append, HPl.out]; rfl
          obtain ⟨m, hm⟩ : ∃ m, M + 8 = 32 * m := ⟨(M + 8) / 32, by have := Hm.out; omega⟩
          have hdiv : (padL l c).length / 32 = m := by rw [hlen, hm]; omega
          have HD := Lib.hid hdiv
          rw [← HX2.out, ← HE.out] at O6
          obtain ⟨_, h2⟩ := O6.out
          rcases h2 with ⟨e, _⟩ | ⟨g', cp', cur, hv, hgb, hh, hnc, hcm, _, htk⟩
          · cases e
          · cases hv
            have HBk := Lib.hid (fun h1 h2 => blocks_impl (some ⟨g, 0, none⟩) g 0 m cp (padL l c) (by omega) (Or.inr rfl) (by omega) hcm (by rw [hlen, hm]) wr (Or.inr h1) h2)
            have Hlt := Lib.hid (Array.getElem?_eq_some_iff.1 hh).1
            have Hce : Hid (∀ j, j < 32 * m → wr.cell? ⟨g, 0 + j, none⟩ = some (.int .u8 ((padL l c)[j]?.getD 0))) := Lib.hid (fun j hj => by
              rw [Nat.zero_add, cell_of_row wr g j _ _ _ hh]
              have := congrArg (fun L : List Value => L[j]?) htk
              simp only [Nat.mul_one] at this
              rw [List.getElem?_take_of_lt (by omega), List.getElem?_map, List.getElem?_eq_getElem (l := padL l c) (by omega)] at this
              rw [List.getElem?_eq_getElem (l := padL l c) (by omega)]
              simpa using this)
            clear hh htk hlen hdiv
            generalize hPL : padL l c = PL at HBk Hce
            have HPL := Lib.hid hPL
            clear hPL
            rw [← hm] at HBk
            have HM8 := Lib.hid hm
            clear hm
            go_wp2_with fail
            refine (HBk.out Hlt.out (by rw [HM8.out]; exact Hce.out)).mono ?_
            rintro e w8 ⟨v8, rfl, hown8, hb8⟩
            have O8 := Lib.hid (owns_base B6.out.size hown8)
            have B8 := Lib.hid (below_call B6.out B6.out.size hb8)
            clear hown8 hb8
            go_wp2_with fail
            go_ret
            exact ⟨_, rfl, by rw [HD.out, HPL.out]; exact O8.out, B8.out⟩
end Go.Proofs.Ytdoelmjaongjfaa
