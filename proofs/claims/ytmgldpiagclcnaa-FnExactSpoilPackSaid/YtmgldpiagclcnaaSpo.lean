/- SpoilPack, by program and specification. Written by hand. -/
import Derived.Test.YtmgldpiagclcnaaCopyB
import Derived.Test.YtmgldpiagclcnaaOwnB
namespace Go.Proofs.Ytmgldpiagclcnaa
open Go.ChangeShapes Go.WideShapes Go.ChangeAt Go.RowKit
set_option linter.unusedVariables false
set_option linter.unusedSimpArgs false
theorem infoU8P : (Try.prog.info? 5).map (fun i => (i.zero, i.size, i.bytes)) = some (some (.int .u8 0), 1, 1) := by kernel_rfl
theorem rdP {w : World} {g n : Nat} {l : List Int} {t : TypeId} (hl : l.length = n) (h : w.heap[g]? = some (.cells (ints .u8 l) t)) : Rd .u8 w (some ⟨g, 0, none⟩) n l := by
  have := Rd.row h
  rwa [hl] at this
def SpP (n : Nat) (at_ bit : Int) : Prop := n ≤ 140000 ∧ (0 ≤ at_ ∧ at_ < n) ∧ (0 ≤ bit ∧ bit ≤ 7)
def spX (l : List Int) (p : Nat) (bit : Int) : List Int := l.set p (bits .xor .u8 (l[p]?.getD 0) (2 ^ bit.toNat))
open Classical in
noncomputable def spL (l : List Int) (n : Nat) (at_ bit : Int) : List Int := if SpP n at_ bit then spX l at_.toNat bit else []
open Classical in
noncomputable def spE (n : Nat) (at_ bit : Int) : Int := if SpP n at_ bit then 0 else if n ≤ 140000 then 2 else 3
theorem spL_yes {l : List Int} {n p : Nat} {bit : Int} (h : SpP n p bit) : spL l n p bit = spX l p bit := by unfold spL; rw [if_pos h]; simp
theorem spL_no {l : List Int} {n : Nat} {at_ bit : Int} (h : ¬ SpP n at_ bit) : spL l n at_ bit = [] := by unfold spL; rw [if_neg h]
theorem spE_yes {n : Nat} {at_ bit : Int} (h : SpP n at_ bit) : spE n at_ bit = 0 := by unfold spE; rw [if_pos h]
theorem spE_big {n : Nat} {at_ bit : Int} (h : ¬ n ≤ 140000) : spE n at_ bit = 3 := by unfold spE; rw [if_neg (fun q => h q.1), if_neg h]
theorem spE_no {n : Nat} {at_ bit : Int} (h : ¬ SpP n at_ bit) (h2 : n ≤ 140000) : spE n at_ bit = 2 := by unfold spE; rw [if_neg h, if_pos h2]
theorem spX_len (l : List Int) (p : Nat) (bit : Int) : (spX l p bit).length = l.length := by simp [spX]
/-- A byte of a block, written. -/
theorem ints_setP {w : World} {g p : Nat} {l : List Int} {z : Int} {T : TypeId} (hp : p < l.length) (h : w.heap[g]? = some (.cells (ints .u8 l) T)) : (w.setCell ⟨g, p, none⟩ (.int .u8 z)).heap[g]? = some (.cells (ints .u8 (l.set p z)) T) := by
  rw [heap_setCell_same _ _ _ _ _ _ h]
  congr 2
  unfold ints
  rw [List.map_set, List.setIfInBounds_toArray]
def SpR (l : List Int) (n : Nat) (at_ bit : Int) (w : World) (e : Ending) (w' : World) : Prop := ∃ v, e = .returned (.tuple #[v, .int .i64 (spE n at_ bit)]) ∧ OwnB w' w.heap.size v (spL l n at_ bit).length (spL l n at_ bit) ∧ Below w.heap.size w w'
theorem inP_any (n a b : Int) (w : World) : Calls Try.prog 88 #[.int .i64 n, .int .i64 a, .int .i64 b] w fun e w' => e = .returned (.bool (decide (a ≤ n) && decide (n ≤ b))) ∧ w = w' := by
  by_cases h1 : a ≤ n <;> by_cases h2 : n ≤ b
  all_goals
    go_enter Try.func88, Try.ntmps88
    go_wp2
    go_ret
    exact ⟨by simp [h1, h2], rfl⟩
set_option maxRecDepth 100000 in
set_option maxHeartbeats 8000000 in
theorem sp_impl (y n : Nat) (l : List Int) (hl : l.length = n) (hn : n ≤ 1048576) (at_ bit : Int) (w : World) (hy : w.heap[y]? = some (.cells (ints .u8 l) 5)) :
    Calls Try.prog 52 #[.slice (some ⟨y, 0, none⟩) n n, .int .i64 at_, .int .i64 bit] w (SpR l n at_ bit w) := by
  have HC := Lib.hid (copyOf_implP y n l hl hn w hy)
  by_cases h0 : n ≤ 140000
  · have h0' : ¬ 140000 < (n : Int) := by omega
    by_cases hP : SpP n at_ bit
    · obtain ⟨-, ⟨h1, h2⟩, h3, h4⟩ := hP
      obtain ⟨p, rfl⟩ : ∃ p : Nat, at_ = (p : Int) := ⟨at_.toNat, by omega⟩
      have HP := Lib.hid (show SpP n p bit from ⟨h0, ⟨h1, h2⟩, h3, h4⟩)
      have HL := Lib.hid hl
      have HPN := Lib.hid (show p < l.length by omega)
      have h5 : ¬ (p : Int) < 0 := by omega
      have h6 : ¬ (n : Int) ≤ (p : Int) := by omega
      have h7 : ¬ bit < 0 := by omega
      have h8 : ¬ 7 < bit := by omega
      clear hy hl
      go_enter Try.func52, Try.ntmps52
      go_wp2_with fail
      refine HC.out.mono ?_
      rintro e w1 ⟨rfl, hg, hb⟩
      have B1 := Lib.hid hb
      have G1 := Lib.hid hg
      have c1 := cell_of_row _ _ p _ _ _ hg
      rw [ints_get _ _ _ HPN.out] at c1
      have f1 := frozen_of_row _ _ p _ _ hg
      obtain ⟨zz, hzz⟩ : ∃ zz, l[p]?.getD 0 = zz := ⟨_, rfl⟩
      rw [hzz] at c1
      have HZZ := Lib.hid hzz
      clear hb hg hzz HC
      rcases (show bit = 0 ∨ bit = 1 ∨ bit = 2 ∨ bit = 3 ∨ bit = 4 ∨ bit = 5 ∨ bit = 6 ∨ bit = 7 by omega) with rfl | rfl | rfl | rfl | rfl | rfl | rfl | rfl
      all_goals
        clear h3 h4 h7 h8
        go_wp2_with fail
        go_region
        go_wp2_with fail
        go_returns
        refine ⟨_, by rw [spE_yes HP.out]; rfl, ?_, ?_⟩
        · rw [spL_yes HP.out, spX_len, HL.out]
          refine OwnB.of_block (T := 5) (L := []) (by rw [spX_len]; exact HL.out) (Nat.le_refl _) ?_
          rw [List.append_nil]
          unfold spX
          rw [HZZ.out]
          exact ints_setP HPN.out G1.out
        · exact (B1.out.setCell (p := ⟨w.heap.size, p, none⟩) (Nat.le_refl _) _).drew
    · have HO := Lib.hid (spE_no hP h0)
      have HQ := Lib.hid (spL_no (l := l) hP)
      have hD : at_ < 0 ∨ (n : Int) ≤ at_ ∨ bit < 0 ∨ 7 < bit := by
        by_cases h1 : at_ < 0
        · exact .inl h1
        · by_cases h2 : (n : Int) ≤ at_
          · exact .inr (.inl h2)
          · by_cases h3 : bit < 0
            · exact .inr (.inr (.inl h3))
            · exact .inr (.inr (.inr (by
                by_cases h4 : 7 < bit
                · exact h4
                · exact absurd (show SpP n at_ bit from ⟨h0, ⟨by omega, by omega⟩, by omega, by omega⟩) hP)))
      clear hP hy
      have FIN : ∀ v, v = Value.slice none 0 0 → SpR l n at_ bit w (.returned (.tuple #[v, .int .i64 2])) w := fun v hv => ⟨v, by rw [HO.out], by rw [HQ.out, hv]; exact OwnB.nil _ _ _ _, Below.refl _ _⟩
      by_cases h1 : at_ < 0
      · go_enter Try.func52, Try.ntmps52
        go_wp2_with fail
        go_returns
        exact FIN _ rfl
      · by_cases h2 : (n : Int) ≤ at_
        · go_enter Try.func52, Try.ntmps52
          go_wp2_with fail
          go_returns
          exact FIN _ rfl
        · by_cases h3 : bit < 0
          · go_enter Try.func52, Try.ntmps52
            go_wp2_with fail
            go_returns
            exact FIN _ rfl
          · have h4 : 7 < bit := by omega
            go_enter Try.func52, Try.ntmps52
            go_wp2_with fail
            go_returns
            exact FIN _ rfl
  · have h0' : 140000 < (n : Int) := by omega
    have HO := Lib.hid (spE_big (at_ := at_) (bit := bit) h0)
    have HQ := Lib.hid (spL_no (l := l) (at_ := at_) (bit := bit) (show ¬ SpP n at_ bit from fun h => h0 h.1))
    go_enter Try.func52, Try.ntmps52
    go_wp2_with fail
    go_returns
    exact ⟨_, by rw [HO.out]; rfl, by rw [HQ.out]; exact OwnB.nil _ _ _ _, Below.refl _ _⟩
set_option maxRecDepth 100000 in
set_option maxHeartbeats 8000000 in
theorem sp_spec (y n : Nat) (l : List Int) (hl : l.length = n) (hn : n ≤ 1048576) (at_ bit : Int) (w : World) (hy : w.heap[y]? = some (.cells (ints .u8 l) 5)) :
    Calls Try.prog 50 #[.slice (some ⟨y, 0, none⟩) n n, .int .i64 at_, .int .i64 bit] w fun e w' => ∃ a cap, e = .returned (.tuple #[.slice a (spL l n at_ bit).length cap, .int .i64 (spE n at_ bit)]) ∧ Rd .u8 w' a (spL l n at_ bit).length (spL l n at_ bit) ∧ Below w.heap.size w w' := by
  have HI1 := Lib.hid (fun U => inP_any at_ 0 ((n : Int) - 1) U)
  have HI2 := Lib.hid (fun U => inP_any bit 0 7 U)
  obtain ⟨i0, hi, hz0, hz1, hz2⟩ := info_parts infoU8P
  have Hi := Lib.hid hi
  have HY := Lib.hid hy
  have HL := Lib.hid hl
  clear hi hy hl
  have FIN : ∀ W : World, Below w.heap.size w W → spL l n at_ bit = [] → ∀ E, spE n at_ bit = E → ∃ a cap, Ending.returned (.tuple #[.slice (some ⟨W.heap.size, 0, none⟩) 0 0, .int .i64 E]) = .returned (.tuple #[.slice a (spL l n at_ bit).length cap, .int .i64 (spE n at_ bit)]) ∧ Rd .u8 (W.alloc (.cells #[] 5)) a (spL l n at_ bit).length (spL l n at_ bit) ∧ Below w.heap.size w (W.alloc (.cells #[] 5)) := fun W hW h1 E h2 => by
    rw [h1, h2]
    exact ⟨_, 0, rfl, ⟨rfl, .inl rfl⟩, hW.alloc hW.size _⟩
  by_cases h0 : n ≤ 140000
  · have h0' : ¬ 140000 < (n : Int) := by omega
    by_cases h1 : 0 ≤ at_ ∧ at_ ≤ (n : Int) - 1
    · rw [show (decide (0 ≤ at_) && decide (at_ ≤ (n : Int) - 1)) = true by simp [h1.1, h1.2]] at HI1
      by_cases h3 : 0 ≤ bit ∧ bit ≤ 7
      · rw [show (decide (0 ≤ bit) && decide (bit ≤ 7)) = true by simp [h3.1, h3.2]] at HI2
        obtain ⟨p, rfl⟩ : ∃ p : Nat, at_ = (p : Int) := ⟨at_.toNat, by omega⟩
        have HP := Lib.hid (show SpP n p bit from ⟨h0, ⟨by omega, by omega⟩, h3⟩)
        have HPN := Lib.hid (show p < l.length by have := HL.out; omega)
        have S1 : IntKind.i64.wrap ((n : Int) - 1) = (n : Int) - 1 := IntWalk.i64_in _ ⟨by omega, by omega⟩
        have b0 : (0 : Int) ≤ (p : Int) := by omega
        have b1 : (p : Int) < (n : Int) := by omega
        have b2 : 0 ≤ bit := h3.1
        have b3 : bit ≤ 7 := h3.2
        clear h1 h3
        go_enter Try.func50, Try.ntmps50
        go_wp2_with fail
        refine (HI1.out _).mono ?_
        rintro e w1 ⟨rfl, rfl⟩
        go_wp2_with fail
        refine (HI2.out _).mono ?_
        rintro e w2 ⟨rfl, rfl⟩
        have L1 := (Below.refl w.heap.size w).alloc (Nat.le_refl _) (.cells #[] 5)
        have O1 : (w.alloc (.cells #[] 5)).ownsRow w.heap.size 5 1 (.slice (some ⟨w.heap.size, 0, none⟩) 0 0) 0 [] := ⟨rfl, Or.inr ⟨w.heap.size, 0, #[], rfl, Nat.le_refl _, heap_alloc_last _ _, by omega, by unfold maxLen; omega, rfl, rfl⟩⟩
        have Y1 := Lib.hid (keep_block HY.out L1)
        have B1 := Lib.hid L1
        have O1' := Lib.hid O1
        clear L1 O1
        go_upto_region 6 with (at_builtin; refine wpList_append_own _ rfl _ _ 41 rfl w.heap.size 5 i0 (.int .u8 0) 1 1 Try.underlying41 Hi.out hz0 hz1 hz2 rfl (by decide) _ 0 [] rfl O1'.out ⟨y, 0, none⟩ n n (l.map (Value.int .u8)) rfl (by simp [HL.out]) ?c1 ?c2 ?c3 ?c4 ?c5 ?_)
        case c1 =>
          intro j u hu
          rw [addr_add, Nat.zero_add]
          exact (cell_of_row _ y j _ _ _ Y1.out).trans (by simpa [ints] using hu)
        case c2 => intro u hu; obtain ⟨z, _, rfl⟩ := List.mem_map.1 hu; rfl
        case c3 => unfold maxLen; omega
        case c4 => omega
        case c5 => simp
        intro v4 w4 hown hg _
        have B4 := Lib.hid (B1.out.grown hg B1.out.size (fun q hq => by cases hq; exact Nat.le_refl _))
        rcases hown.2 with ⟨_, h9⟩ | ⟨g, cap, cur, rfl, hgb, hgc, h11, h12, h13, h14⟩
        · omega
        have hcur : ∀ j, j < n → cur[j]? = some (.int .u8 (l[j]?.getD 0)) := fun j hj => by
          have h5 : (cur.toList.take (n * 1))[j]? = some (.int .u8 (l[j]?.getD 0)) := by
            have h6 : cur.toList.take (n * 1) = l.map (Value.int .u8) := by simpa using h14
            rw [h6, List.getElem?_map, List.getElem?_eq_getElem (by have := HL.out; omega)]
            rfl
          rw [List.getElem?_take_of_lt (by omega), Array.getElem?_toList] at h5
          exact h5
        have HCUR := Lib.hid hcur
        have HGC := Lib.hid hgc
        have HGB := Lib.hid hgb
        have c1 := (cell_of_row w4 g p _ _ _ hgc).trans (hcur p (by omega))
        have f1 := frozen_of_row w4 g p _ _ hgc
        obtain ⟨zz, hzz⟩ : ∃ zz, l[p]?.getD 0 = zz := ⟨_, rfl⟩
        rw [hzz] at c1
        have HZZ := Lib.hid hzz
        clear hown hg hgc hgb h11 h12 h13 h14 hcur hzz O1' B1 Y1
        have FINY : ∀ (b : Int), spX l p b = l.set p (bits .xor .u8 zz (2 ^ b.toNat)) → SpP n p b → ∃ a cap2, Ending.returned (.tuple #[.slice (some ⟨g, 0, none⟩) n cap, .int .i64 0]) = .returned (.tuple #[.slice a (spL l n p b).length cap2, .int .i64 (spE n p b)]) ∧ Rd .u8 (w4.setCell ⟨g, p, none⟩ (.int .u8 (bits .xor .u8 zz (2 ^ b.toNat)))) a (spL l n p b).length (spL l n p b) ∧ Below w.heap.size w (w4.setCell ⟨g, p, none⟩ (.int .u8 (bits .xor .u8 zz (2 ^ b.toNat)))) := fun b hX hP => by
          rw [spL_yes hP, spE_yes hP, spX_len, HL.out]
          refine ⟨_, cap, rfl, ⟨by rw [spX_len]; exact HL.out, .inr ⟨g, 0, rfl, by simpa [World.setCell] using (Array.getElem?_eq_some_iff.1 HGC.out).1, fun j hj => ?_⟩⟩, B4.out.setCell (p := ⟨g, p, none⟩) HGB.out _⟩
          rw [hX, Nat.zero_add, cell_of_row _ g j _ _ _ (heap_setCell_same _ _ _ _ _ _ HGC.out)]
          by_cases hjp : j = p
          · subst hjp
            have hlt : j < cur.size := by
              have := HCUR.out j hj
              exact (Array.getElem?_eq_some_iff.1 this).1
            rw [Array.getElem?_setIfInBounds_self_of_lt hlt, List.getElem?_set_self HPN.out]
            rfl
          · rw [Array.getElem?_setIfInBounds_ne (fun e => hjp e.symm), HCUR.out j hj, List.getElem?_set_ne (fun e => hjp e.symm)]
        rcases (show bit = 0 ∨ bit = 1 ∨ bit = 2 ∨ bit = 3 ∨ bit = 4 ∨ bit = 5 ∨ bit = 6 ∨ bit = 7 by omega) with rfl | rfl | rfl | rfl | rfl | rfl | rfl | rfl
        all_goals
          clear b2 b3
          have HFN := Lib.hid (FINY _ (by unfold spX; rw [HZZ.out]) HP.out)
          clear FINY
          go_wp2_with fail
          go_returns
          exact HFN.out
      · have HB : (decide (0 ≤ bit) && decide (bit ≤ 7)) = false := by rw [Bool.and_eq_false_iff, decide_eq_false_iff_not, decide_eq_false_iff_not]; omega
        rw [HB] at HI2
        have HP := show ¬ SpP n at_ bit from fun h => h3 h.2.2
        have HF := Lib.hid (fun W hW => FIN W hW (spL_no HP) 2 (spE_no HP h0))
        have S1 : IntKind.i64.wrap ((n : Int) - 1) = (n : Int) - 1 := IntWalk.i64_in _ ⟨by omega, by omega⟩
        clear h1 h3 FIN HP
        go_enter Try.func50, Try.ntmps50
        go_wp2_with fail
        refine (HI1.out _).mono ?_
        rintro e w1 ⟨rfl, rfl⟩
        go_wp2_with fail
        refine (HI2.out _).mono ?_
        rintro e w2 ⟨rfl, rfl⟩
        go_wp2_with fail
        go_returns
        exact HF.out _ (Below.refl _ _)
    · have HB : (decide (0 ≤ at_) && decide (at_ ≤ (n : Int) - 1)) = false := by rw [Bool.and_eq_false_iff, decide_eq_false_iff_not, decide_eq_false_iff_not]; omega
      rw [HB] at HI1
      have HP := show ¬ SpP n at_ bit from fun h => h1 ⟨h.2.1.1, by have := h.2.1.2; omega⟩
      have HF := Lib.hid (fun W hW => FIN W hW (spL_no HP) 2 (spE_no HP h0))
      have S1 : IntKind.i64.wrap ((n : Int) - 1) = (n : Int) - 1 := IntWalk.i64_in _ ⟨by omega, by omega⟩
      clear h1 FIN HP
      go_enter Try.func50, Try.ntmps50
      go_wp2_with fail
      refine (HI1.out _).mono ?_
      rintro e w1 ⟨rfl, rfl⟩
      go_wp2_with fail
      go_returns
      exact HF.out _ (Below.refl _ _)
  · have h0' : 140000 < (n : Int) := by omega
    have HF := Lib.hid (fun W hW => FIN W hW (spL_no (fun h => h0 h.1)) 3 (spE_big h0))
    clear FIN
    go_enter Try.func50, Try.ntmps50
    go_wp2_with fail
    go_returns
    exact HF.out _ (Below.refl _ _)
end Go.Proofs.Ytmgldpiagclcnaa
