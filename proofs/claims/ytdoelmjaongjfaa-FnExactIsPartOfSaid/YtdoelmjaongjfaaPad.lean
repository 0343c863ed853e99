/- The bytes behind data, as the specification has them. -/
import Derived.Test.YtdoelmjaongjfaaBlk
import Derived.Laws.AppendOwn
namespace Go.Proofs.Ytdoelmjaongjfaa
open Go.ChangeShapes Go.WideShapes Go.ChangeAt Go.RowKit
set_option linter.unusedVariables false
theorem infoU8 : (Try.prog.info? 5).map (fun i => (i.zero, i.size, i.bytes)) = some (some (.int .u8 0), 1, 1) := by kernel_rfl
theorem owns_form {w : World} {base n : Nat} {e : TypeId} {v : Value} {xs : List Value} (h : w.ownsRow base e 1 v n xs) (hn : 0 < n) : ∃ g cp, v = .slice (some ⟨g, 0, none⟩) n cp := by
  obtain ⟨_, h2⟩ := h
  rcases h2 with ⟨_, h0⟩ | ⟨g, cp, cur, hv, _⟩
  · omega
  · exact ⟨g, cp, hv⟩
theorem new_cell (w : World) (x : Value) (t : TypeId) : ∀ j u, [x][j]? = some u → (w.alloc (.cells #[x] t)).cell? ((⟨w.heap.size, 0, none⟩ : Addr).add j) = some u := by
  intro j u h
  have hj : j = 0 := by
    have := (List.getElem?_eq_some_iff.1 h).1
    simp at this
    exact this
  subst hj
  rw [Addr.add_mid, cell_of_row _ _ _ _ _ _ (heap_alloc_last w _)]
  simpa using h
theorem below_append {w0 w1 w2 : World} {X : Obj} {v : Value} {n : Nat} {e : TypeId} {xs : List Value} (h : Below w0.heap.size w0 w1) (hown : w1.ownsRow w0.heap.size e 1 v n xs) (hg : (w1.alloc X).grownBy w2 v.ownBlock) : Below w0.heap.size w0 w2 :=
  (h.alloc h.size X).grown hg (by have := h.size; simp; omega) (fun g e => (hown.lt g e).1)
def lenS : Value → Nat
  | .slice _ n _ => n
  | _ => 0
set_option maxRecDepth 100000 in
set_option maxHeartbeats 1000000 in
theorem pad_spec (b off n cap : Nat) (l : List Int) (c : Int) (hn : n ≤ 1048576) (c0 : 0 ≤ c) (c1 : c ≤ 1099511627776) (w : World) (hl : l.length = n) (hb : b < w.heap.size) (hc : ∀ j, j < n → w.cell? ⟨b, off + j, none⟩ = some (.int .u8 (l[j]?.getD 0))) :
    Calls Try.prog 122 #[.slice (some ⟨b, off, none⟩) n cap, .int .i64 c] w fun e w' => ∃ g cp cur, e = .returned (.slice (some ⟨g, 0, none⟩) (padL l c).length cp) ∧ w.heap.size ≤ g ∧ w'.heap[g]? = some (.cells cur 5) ∧ cur.toList.take (padL l c).length = (padL l c).map (Value.int .u8) ∧ Below w.heap.size w w' := by
  obtain ⟨i0, hi, hz0, hz1, hz2⟩ := info_parts infoU8
  have Hi := Lib.hid hi
  have Hl := Lib.hid hl
  have HC := Lib.hid hc
  have HL := Lib.hid hb
  clear hi hl hc hb
  go_enter Try.func122, Try.ntmps122
  have O0 := Lib.hid (show (w.alloc (.cells #[] 5)).ownsRow w.heap.size 5 1 (.slice (some ⟨w.heap.size, 0, none⟩) 0 0) 0 [] from ⟨rfl, Or.inr ⟨w.heap.size, 0, #[], rfl, Nat.le_refl _, heap_alloc_last _ _, by omega, by unfold maxLen; omega, rfl, rfl⟩⟩)
  go_wp2_with (at_builtin; refine wpList_append_own _ rfl _ _ 41 rfl w.heap.size 5 i0 (.int .u8 0) 1 1 Try.underlying41 Hi.out hz0 hz1 hz2 rfl (by decide) _ 0 [] rfl O0.out ⟨b, off, none⟩ n cap (l.map (Value.int .u8)) rfl ?c0 ?c1 ?c2 ?c3 ?c4 ?c5 ?_)
  case c0 => simp [Hl.out]
  case c1 =>
    intro j u hj
    have hlt : j < n := by
      have := (List.getElem?_eq_some_iff.1 hj).1
      simpa [Hl.out] using this
    rw [Addr.add_mid, ((Below.refl w.heap.size w).alloc (by simp) _).cell (p := ⟨b, off + j, none⟩) HL.out, HC.out j hlt]
    rw [List.getElem?_map, List.getElem?_eq_getElem (by rw [Hl.out]; exact hlt)] at hj
    rw [List.getElem?_eq_getElem (by rw [Hl.out]; exact hlt)]
    exact hj
  case c2 =>
    intro u hu
    obtain ⟨z, _, rfl⟩ := List.mem_map.1 hu
    rfl
  case c3 => unfold maxLen; omega
  case c4 => omega
  case c5 => simp
  intro v1 w1 hown1 hgrow1 hnil1
  have O1 := Lib.hid hown1
  have B1 := Lib.hid (((Below.refl w.heap.size w).alloc (by simp) (.cells #[] 5)).grown hgrow1 (by simp) (fun g e => by cases e; exact Nat.le_refl _))
  clear hown1 hgrow1 hnil1
  go_wp2_with (at_builtin; refine wpList_append_own _ rfl _ _ 41 rfl w.heap.size 5 i0 (.int .u8 0) 1 1 Try.underlying41 Hi.out hz0 hz1 hz2 rfl (by decide) _ n _ rfl (O1.out.alloc _) ⟨w1.heap.size, 0, none⟩ 1 1 [.int .u8 128] rfl rfl ?c1 ?c2 ?c3 ?c4 ?c5 ?_)
  case c1 => exact new_cell _ _ _
  case c2 => simp [Value.oneCell']
  case c3 => unfold maxLen; omega
  case c4 => omega
  case c5 => have := B1.out.size; simp; omega
  intro v2 w2 hown2 hgrow2 hnil2
  have B2 := Lib.hid (below_append B1.out O1.out hgrow2)
  have O2 := Lib.hid (show w2.ownsRow w.heap.size 5 1 v2 (n + 1) ((l ++ [128]).map (Value.int .u8)) by rw [List.map_append]; exact hown2)
  clear hown2 hgrow2 hnil2 B1 O1 O0
  obtain ⟨g2, cp2, rfl⟩ := owns_form O2.out (by omega)
  go_wp2_with fail
  have hp : padN n < 32 := by unfold padN; omega
  go_loopw [5] (fun v wr => ∃ g cp N : Nat, v = .slice (some ⟨g, 0, none⟩) N cp ∧ n + 1 ≤ N ∧ N ≤ n + 1 + padN n ∧ wr.ownsRow w.heap.size 5 1 v N ((l ++ [128] ++ List.replicate (N - (n + 1)) 0).map (Value.int .u8)) ∧ Below w.heap.size w wr) (fun v _ => n + 1 + padN n - lenS v)
  case atStart => exact ⟨g2, cp2, n + 1, rfl, by omega, by omega, by rw [Nat.sub_self]; simpa using O2.out, B2.out⟩
  case round =>
    obtain ⟨g, cp, N, rfl, hN0, hN1, hown, hb⟩ := hrel
    generalize hxs : (l ++ [128] ++ List.replicate (N - (n + 1)) 0).map (Value.int .u8) = xs at hown
    have HX := Lib.hid hxs
    have O3 := Lib.hid hown
    have B3 := Lib.hid hb
    clear hown hb hxs
    by_cases hlt : N < n + 1 + padN n
    · have hd : ((N : Int) % 32 != 24) = true := by
        have := padN_less n (N - (n + 1)) (by omega)
        simp
        omega
      go_wp2_with (at_builtin; refine wpList_append_own _ rfl _ _ 41 rfl w.heap.size 5 i0 (.int .u8 0) 1 1 Try.underlying41 Hi.out hz0 hz1 hz2 rfl (by decide) _ N _ rfl (O3.out.alloc _) ⟨wr.heap.size, 0, none⟩ 1 1 [.int .u8 0] rfl rfl ?c1 ?c2 ?c3 ?c4 ?c5 ?_)
      case c1 => exact new_cell _ _ _
      case c2 => simp [Value.oneCell']
      case c3 => unfold maxLen; omega
      case c4 => omega
      case c5 => have := B3.out.size; simp; omega
      intro v' w4 hown4 hgrow4 hnil4
      have B4 := Lib.hid (below_append B3.out O3.out hgrow4)
      have O4 := Lib.hid (show w4.ownsRow w.heap.size 5 1 v' (N + 1) ((l ++ [128] ++ List.replicate (N + 1 - (n + 1)) 0).map (Value.int .u8)) by
        rw [show N + 1 - (n + 1) = (N - (n + 1)) + 1 by omega, List.replicate_succ', ← List.append_assoc, List.map_append, HX.out]
        exact hown4)
      clear hown4 hgrow4 hnil4
      obtain ⟨g4, cp4, rfl⟩ := owns_form O4.out (by omega)
      go_wp2_with fail
      go_roundw
      case rel => exact ⟨g4, cp4, N + 1, rfl, by omega, by omega, O4.out, B4.out⟩
      case measure => simp [lenS]; omega
    · obtain rfl : N = n + 1 + padN n := by omega
      have O5 := Lib.hid (show wr.ownsRow w.heap.size 5 1 (.slice (some ⟨g, 0, none⟩) (n + 1 + padN n) cp) (n + 1 + padN n) ((l ++ [128] ++ List.replicate (padN n) 0).map (Value.int .u8)) by
        have := O3.out
        rw [← HX.out, show n + 1 + padN n - (n + 1) = padN n by omega] at this
        exact this)
      have hm : ((n + 1 + padN n : Nat) : Int) % 32 = 24 := by have := padN_mod n; omega
      generalize hM : n + 1 + padN n = M at O5 hm
      have HM := Lib.hid hM
      have hM2 : M ≤ 1048640 := by omega
      clear hM O3 hN0 hN1
      have hd : ((M : Int) % 32 != 24) = false := by simp; omega
      obtain ⟨w5, rfl⟩ : ∃ w5 : World, w5 = wr := ⟨_, rfl⟩
      have HE : Hid (padL l c = (l ++ [128] ++ List.replicate (padN n) 0) ++ le8 c 8) := Lib.hid (by unfold padL; rw [Hl.out])
      have HPl : Hid ((l ++ [128] ++ List.replicate (padN n) 0).length = M) := Lib.hid (by simp [Hl.out]; have := HM.out; omega)
      generalize l ++ [128] ++ List.replicate (padN n) 0 = P at O5 HE HPl
      go_wp2_with fail
      clear hd hm
      go_loopw [1, 5, 6] (fun q v i wr => ∃ g cp k : Nat, k ≤ 8 ∧ v = .slice (some ⟨g, 0, none⟩) (M + k) cp ∧ q = .int .i64 (quoK c k) ∧ i = .int .i64 k ∧ wr.ownsRow w.heap.size 5 1 v (M + k) ((P ++ le8 c k).map (Value.int .u8)) ∧ Below w.heap.size w wr) (fun _ _ i _ => 8 - (intOf i).toNat)
      case atStart => exact ⟨g, cp, 0, by omega, rfl, rfl, rfl, by simpa [le8] using O5.out, B3.out⟩
      case round =>
        obtain ⟨g, cp, k, hk, rfl, rfl, rfl, hown, hb⟩ := hrel
        obtain ⟨q0, q1⟩ := quoK_range c0 k
        replace q1 := Int.le_trans q1 c1
        have hq := le8_succ c k
        have hq2 : quoK c k / 256 = quoK c (k + 1) := rfl
        have HQ := Lib.hid hq
        have HQ2 := Lib.hid hq2
        clear hq hq2
        generalize quoK c k = q at q0 q1 HQ HQ2
        generalize hxs : (P ++ le8 c k).map (Value.int .u8) = xs at hown
        have HX2 := Lib.hid hxs
        have O6 := Lib.hid hown
        have B6 := Lib.hid hb
        clear hown hb hxs
        by_cases hlt : k < 8
        · go_wp2_with (at_builtin; refine wpList_append_own _ rfl _ _ 41 rfl w.heap.size 5 i0 (.int .u8 0) 1 1 Try.underlying41 Hi.out hz0 hz1 hz2 rfl (by decide) _ (M + k) _ rfl (O6.out.alloc _) ⟨wr.heap.size, 0, none⟩ 1 1 [.int .u8 (q % 256)] rfl rfl ?c1 ?c2 ?c3 ?c4 ?c5 ?_)
          case c1 => exact new_cell _ _ _
          case c2 => simp [Value.oneCell']
          case c3 => unfold maxLen; omega
          case c4 => omega
          case c5 => have := B6.out.size; simp; omega
          intro v' w7 hown7 hgrow7 hnil7
          have B7 := Lib.hid (below_append B6.out O6.out hgrow7)
          have O7 := Lib.hid (show w7.ownsRow w.heap.size 5 1 v' (M + (k + 1)) ((P ++ le8 c (k + 1)).map (Value.int .u8)) by
            rw [HQ.out, ← List.append_assoc, List.map_append, HX2.out]
            exact hown7)
          clear hown7 hgrow7 hnil7
          obtain ⟨g7, cp7, rfl⟩ := owns_form O7.out (by omega)
          go_wp2_with fail
          go_roundw
          case rel => exact ⟨g7, cp7, k + 1, by omega, rfl, by rw [← HQ2.out], by go_num, O7.out, B7.out⟩
          case measure => simp [intOf]; omega
        · obtain rfl : k = 8 := by omega
          have hlen : (padL l c).length = M + 8 := by rw [HE.out, List.length_append, HPl.out]; rfl
          obtain ⟨_, h2⟩ := O6.out
          rcases h2 with ⟨e, _⟩ | ⟨g', cp', cur, hv, hgb, hh, _, _, _, htk⟩
          · cases e
          · cases hv
            have HH := Lib.hid hh
            have HT := Lib.hid (show cur.toList.take (padL l c).length = (padL l c).map (Value.int .u8) by rw [hlen, HE.out, HX2.out, ← htk, Nat.mul_one])
            have HLn := Lib.hid hlen
            have HGB := Lib.hid hgb
            clear hh htk hlen hgb
            go_wp2_with fail
            go_ret
            exact ⟨_, _, cur, by rw [HLn.out]; rfl, HGB.out, HH.out, HT.out, B6.out⟩
end Go.Proofs.Ytdoelmjaongjfaa
