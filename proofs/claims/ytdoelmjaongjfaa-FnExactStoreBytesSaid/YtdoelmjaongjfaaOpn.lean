/- A store opened by the specification. Written by wip/gen/opn.py. -/
import Derived.Test.YtdoelmjaongjfaaOps
import Derived.Test.YtdoelmjaongjfaaStoreK
namespace Go.Proofs.Ytdoelmjaongjfaa
open Go.ChangeShapes Go.WideShapes Go.ChangeAt Go.RowKit
set_option linter.unusedVariables false
set_option linter.unusedSimpArgs false
section
variable {P : Program}
theorem yields_rowS {ops : Array Oper} {S : World → Prop} {op : Oper} {a : Act} (hw : Region.wanted op (yielded ops a.tmps) = true) (ty : TypeId) (x : Operand) (ho : op.op = .load ty x)
    (b : Nat) (hx : a.eval x = .pointer (some ⟨b, 0, none⟩)) (cs : Array Value) (t : TypeId) (d : TypeDesc) (hg : ∀ w, S w → w.heap[b]? = some (.cells cs t (0, 0)))
    (hu : P.underlying ty = some d) (hd : (match d with | .struct _ | .array _ _ => true | _ => false) = true) (hi : (P.info? ty).map (·.size) = some cs.size) :
    YieldsIf P ops S op (.agg cs) a :=
  .inl ⟨hw, fun w hS => by
    unfold execOp
    simp only [ho, hx, Instr.loadAt, Instr.sureAddr, Sem.run_bind, Sem.run_pure, Result.andThen_ok, run_loadVar_row w b t ty cs (0, 0) d (hg w hS) hu hd hi]⟩
theorem yields_range {ops : Array Oper} {S : World → Prop} {op : Oper} {a : Act} (hw : Region.wanted op (yielded ops a.tmps) = true) (ty : TypeId) (x : Operand) (ho : op.op = .load ty x)
    (b o : Nat) (hx : a.eval x = .pointer (some ⟨b, o, none⟩)) (κ : IntKind) (l : List Int) (d : TypeDesc) (hg : ∀ w, S w → w.rangeAt b o (l.map (Value.int κ)))
    (hu : P.underlying ty = some d) (hd : d.isRow = true) (hi : (P.info? ty).map (·.size) = some l.length) :
    YieldsIf P ops S op (.agg (ints κ l)) a :=
  .inl ⟨hw, fun w hS => by
    unfold execOp
    simp only [ho, hx, Instr.loadAt, Instr.sureAddr, Sem.run_bind, Sem.run_pure, Result.andThen_ok, run_loadVar_mid w b o ty (l.map (Value.int κ)) d (hg w hS) hu hd (by rw [List.length_map]; exact hi)]
    rfl⟩
end
def OpnR (w : World) (bs : List BlV) (e : Ending) (w' : World) : Prop :=
  ((stP bs ∧ e = .returned (.tuple #[.pointer (some ⟨w.heap.size, 0, none⟩), .bool true]) ∧ ∃ v1 v2 ys, OpenP w' w.heap.size w.heap.size v1 v2 bs ys bs.length (bs.flatMap keyX)) ∨ (¬ stP bs ∧ e = .returned (.tuple #[.pointer (some ⟨w.heap.size, 0, none⟩), .bool false]))) ∧ Below w.heap.size w w'
theorem OpnR.no {w : World} {bs : List BlV} {w' : World} (h : ¬ stP bs) (hb : Below w.heap.size w w') : OpnR w bs (.returned (.tuple #[.pointer (some ⟨w.heap.size, 0, none⟩), .bool false])) w' := ⟨Or.inr ⟨h, rfl⟩, hb⟩
theorem flat_len (xs : List BlV) : (xs.flatMap keyX).length = 32 * xs.length := by
  induction xs with
  | nil => rfl
  | cons x r ih => rw [List.flatMap_cons, List.length_append, ih, (isK_keyX x).1, List.length_cons]; omega
/-- The last key of those that have been seen. -/
theorem OpenP.lastKey {w : World} {base X : Nat} {v1 v2 : Value} {bs : List BlV} {ys : List Nat} {k : Nat} {x : BlV} (h : OpenP w base X v1 v2 (bs.take k) ys k ((bs.take k).flatMap keyX)) (hk : 0 < k) (hx : bs[k - 1]? = some x) :
    ∃ kg cap, v2 = .slice (some ⟨kg, 0, none⟩) k cap ∧ k ≤ cap ∧ cap ≤ maxLen ∧ ∀ U, Below w.heap.size w U → U.rangeAt kg ((k - 1) * 32) ((keyX x).map (Value.int .u8)) := by
  obtain ⟨h1, h2⟩ := h.row2
  rcases h2 with ⟨_, h0⟩ | ⟨kg, cap, cur, hv, hb, hg, hc, hm, hs, ht⟩
  · omega
  · have hlt := (List.getElem?_eq_some_iff.1 hx).1
    have hT : (bs.take k).flatMap keyX = (bs.take (k - 1)).flatMap keyX ++ keyX x := by
      have e : bs.take k = bs.take (k - 1) ++ [x] := by
        conv => lhs; rw [show k = k - 1 + 1 by omega]
        rw [List.take_add_one, hx]
        rfl
      rw [e, List.flatMap_append]
      simp
    have hL : ((bs.take (k - 1)).flatMap keyX).length = 32 * (k - 1) := by
      rw [flat_len, List.length_take]
      omega
    refine ⟨kg, cap, hv, hc, hm, fun U hU j v hv2 => ?_⟩
    have hj : j < 32 := by
      have := (List.getElem?_eq_some_iff.1 hv2).1
      rw [List.length_map, (isK_keyX x).1] at this
      exact this
    rw [cell_of_row U kg ((k - 1) * 32 + j) _ _ _ (keep_block hg hU)]
    have h3 : (cur.toList.take (k * 32))[(k - 1) * 32 + j]? = some v := by
      rw [ht, hT, List.map_append, List.getElem?_append_right (by rw [List.length_map, hL]; omega), List.length_map, hL, show (k - 1) * 32 + j - 32 * (k - 1) = j by omega]
      exact hv2
    rw [List.getElem?_take_of_lt (by omega)] at h3
    simpa using h3
theorem rowSucc {w : World} {base : Nat} {e : TypeId} {size : Nat} {v : Value} {n : Nat} {xs : List Value} (h : w.ownsRow base e size v (n + 1) xs) : ∃ g c, v = .slice (some ⟨g, 0, none⟩) (n + 1) c := by
  rcases h.2 with ⟨_, h0⟩ | ⟨g, cap, cur, hv, _⟩
  · omega
  · exact ⟨g, cap, hv⟩
set_option maxRecDepth 100000 in
set_option maxHeartbeats 16000000 in
theorem open_spec (s0 g n : Nat) (bs : List BlV) (hn : n ≤ 1048576) (hl : bs.length = n) (hf : ∀ (i : Nat) (x : BlV), bs[i]? = some x → BlG x) (w : World) (hs : w.heap[s0]? = some (.cells #[.slice (some ⟨g, 0, none⟩) n n] 29)) (ha : OutB w g n n bs) :
    Calls Try.prog 57 #[.pointer (some ⟨s0, 0, none⟩)] w (OpnR w bs) := by
  obtain ⟨i0, z0, hi0, hz0, hs0, hb0, hc0⟩ := blParts
  obtain ⟨i1, z1, hi1, hz1, hs1, hb1, hc1⟩ := keyParts2
  have Hz := Lib.hid z32_ints
  have HS0 := Lib.hid hs
  have HA := Lib.hid ha
  have HF := Lib.hid hf
  have HL := Lib.hid hl
  have M0 := Lib.hid (OpenP.made w w.heap.size (Nat.le_refl _))
  have B0 := Lib.hid ((Below.refl w.heap.size w).alloc (Nat.le_refl _) (.cells #[.slice none 0 0, .slice none 0 0] 87))
  clear ha hf hl hs
  by_cases hbig : 128 < n
  · have q2 : (128 : Int) < (n : Int) := by omega
    have HN := Lib.hid (show ¬ stP bs from fun h => by have := h.1; rw [HL.out] at this; omega)
    have q0 : ∀ o, (w.alloc o).cell? ⟨s0, 0, none⟩ = some (.slice (some ⟨g, 0, none⟩) n n) := fun o => cell_of_row _ s0 0 _ _ _ (keep_block HS0.out ((Below.refl _ _).alloc (Nat.le_refl _) o))
    go_enter Try.func57, Try.ntmps57
    go_wp2_with fail
    go_returns
    exact OpnR.no HN.out B0.out
  have q2 : ¬ (128 : Int) < (n : Int) := by omega
  have q3 : (0 : Int) ≤ (n : Int) := by omega
  have q4 : (n : Int) ≤ 128 := by omega
  have q0 : ∀ o, (w.alloc o).cell? ⟨s0, 0, none⟩ = some (.slice (some ⟨g, 0, none⟩) n n) := fun o => cell_of_row _ s0 0 _ _ _ (keep_block HS0.out ((Below.refl _ _).alloc (Nat.le_refl _) o))
  go_enter Try.func57, Try.ntmps57
  go_wp2_with fail
  clear q0
  generalize w.alloc (.cells #[.slice none 0 0, .slice none 0 0] 87) = w2 at M0 B0 ⊢
  go_loopw [5] (fun i wr => ∃ k v1 v2 ys, k ≤ n ∧ i = .int .i64 ((k : Nat) : Int) ∧ Below w.heap.size w wr ∧ OpenP wr w.heap.size w.heap.size v1 v2 (bs.take k) ys k ((bs.take k).flatMap keyX) ∧ PreP bs k) (fun i _ => n - (intOf i).toNat)
  case atStart => exact ⟨0, _, _, _, by omega, rfl, B0.out, by simpa using M0.out, PreP.start bs⟩
  case round =>
    obtain ⟨k, v1, v2, ys, hk, rfl, hb, hop, hpre⟩ := hrel
    have B1 := Lib.hid hb
    have O1 := Lib.hid hop
    have PP := Lib.hid hpre
    have X1 := Lib.hid hop.box
    clear hb hop hpre M0 B0
    have q0 := cell_of_row _ s0 0 _ _ _ (keep_block HS0.out B1.out)
    by_cases hlt : k < n
    · have b0 : (0 : Int) ≤ (k : Int) := by omega
      have b1 : (k : Int) < (n : Int) := by omega
      obtain ⟨x, hx⟩ := get_of HL.out hlt
      obtain ⟨⟨f1, f2, f3⟩, f4, f5⟩ := HF.out k x hx
      obtain ⟨y, hya⟩ := HA.out.at hlt hx
      have hx0 := Lib.hid hx
      have HXW := Lib.hid (fun U (hU : Below w.heap.size w U) => hya.keep hU)
      have HYW := Lib.hid (fun U (hU : Below w.heap.size w U) => keep_block hya.2.2 hU)
      have XN := Lib.hid f2
      have HVB := Lib.hid (vb_spec0 g (k * 2) (some ⟨y, 0, none⟩) x.n x.n f1 wr (HXW.out wr B1.out).2)
      have HBK := Lib.hid (bk_specA g (k * 2) y x.t x.n x.l wr f4 f5 f1 f2 f3 ⟨(HXW.out wr B1.out).1, (HXW.out wr B1.out).2, HYW.out wr B1.out⟩)
      clear hya f1 f2 f3 f4 f5 hx
      by_cases hbl : x.n ≤ 1024
      · have e1 : blB x.n = true := by unfold blB; exact decide_eq_true hbl
        rw [e1] at HVB
        have XL := Lib.hid hbl
        clear e1 hbl
        obtain ⟨V, hV⟩ : ∃ V, keyX x = V := ⟨_, rfl⟩
        have HV := Lib.hid hV
        have VL := Lib.hid (show V.length = 32 by rw [← hV]; exact (isK_keyX x).1)
        have hV2 : hashK x.t x.l = V := hV
        rw [hV2] at HBK
        clear hV hV2
        obtain ⟨xt, xa, xn, xc, xl⟩ := x
        dsimp only at HVB HBK XN XL HXW HYW
        go_wp2_with fail
        refine HVB.out.mono ?_
        rintro e w' ⟨rfl, rfl⟩
        go_wp2_with fail
        refine HBK.out.mono ?_
        rintro e w3 ⟨rfl, hb⟩
        have LB := layB w3 (ints .u8 z32) (ints .u8 V) 46
        have HB3 := Lib.hid (hb.trans (LB.mono hb.size))
        have NK := Lib.hid (layN w3 (ints .u8 z32) (ints .u8 V) 46)
        have SZ3 := Lib.hid (show wr.heap.size ≤ w3.heap.size from hb.size)
        clear LB hb q0 HVB HBK
        go_upto_region 10 with (first | (refine wpList_store_row rfl 46 (.tmp 6) _ rfl w3.heap.size (ints .u8 V) rfl rfl 46 (ints .u8 z32) (by rw [Hz.out]; exact heap_alloc_last _ _) (by rw [ints_size, VL.out]; exact sizeKey) (by rw [ints_size, ints_size, VL.out, (show z32.length = 32 from rfl)]) (ints_one _ _) ?_))
        rw [← Hz.out]
        generalize (w3.alloc (.cells (ints .u8 z32) 46)).setRow w3.heap.size (ints .u8 V) = w5 at HB3 NK ⊢
        generalize w3.heap.size = gN at NK SZ3 ⊢
        have O5 := Lib.hid (O1.out.below HB3.out)
        have K5 := Lib.hid NK.out
        have B5 := Lib.hid (B1.out.trans (HB3.out.mono B1.out.size))
        have KNE := Lib.hid (show gN ≠ w.heap.size by have := (Array.getElem?_eq_some_iff.1 X1.out).1; have := SZ3.out; omega)
        have V2NE := Lib.hid (show v2.ownBlock ≠ some gN from fun e => by have := (O1.out.row2.lt gN e).2; have := SZ3.out; omega)
        have HTL := Lib.hid (show (bs.take k).length = k by rw [List.length_take, HL.out]; omega)
        have HTK := Lib.hid (show bs.take k ++ [(⟨xt, xa, xn, xc, xl⟩ : BlV)] = bs.take (k + 1) by rw [List.take_add_one, hx0.out]; rfl)
        have HFK := Lib.hid (show (bs.take (k + 1)).flatMap keyX = (bs.take k).flatMap keyX ++ V by rw [← HTK.out, List.flatMap_append]; simp [HV.out])
        clear HB3 NK
        try simp only [Act.put, List.setIfInBounds_toArray, List.set_cons_zero, List.set_cons_succ]
        go_cut [55] (fun s55 wx => ∃ u7, u7 = wx ∧ ((∃ PP2 : PreP bs (k + 1), s55 = .bool false) ∨ (¬ stP bs ∧ s55 = .bool true)) ∧ Below w5.heap.size w5 wx)
        case first =>
          by_cases hk0 : 0 < k
          · obtain ⟨z, hz⟩ := get_of (k := k - 1) HL.out (by omega)
            obtain ⟨kg, cap, rfl, hcap, hmax, hrg⟩ := O5.out.lastKey hk0 hz
            have hz0 := Lib.hid hz
            have RG := Lib.hid hrg
            have CP := Lib.hid hcap
            obtain ⟨LSK, hLS⟩ : ∃ LSK, keyX z = LSK := ⟨_, rfl⟩
            have LSE := Lib.hid hLS
            have LSL := Lib.hid (show LSK.length = 32 by rw [← hLS]; exact (isK_keyX z).1)
            rw [hLS] at RG
            clear hz hrg hLS
            have HCM := Lib.hid (fun U => cmp_spec0 LSK V LSL.out VL.out U)
            have b2 : (0 : Int) < (k : Int) := by omega
            have S1 := Lib.hid (show IntKind.i64.wrap ((k : Int) - 1) = (k : Int) - 1 from IntWalk.i64_in _ ⟨by omega, by omega⟩)
            have I1 := Lib.hid (show (0 : Int) ≤ (k : Int) - 1 ∧ ((k : Int) - 1).toNat = k - 1 ∧ (k : Int) - 1 < (k : Int) from ⟨by omega, by omega, by omega⟩)
            generalize hcv : cmpI LSK V = cv at HCM
            have HCV := Lib.hid hcv
            clear hcv
            by_cases hc : cv < 0
            · have hc1 : ¬ 0 ≤ cv := by omega
              have PP5 := Lib.hid (PP.out.step_pos hk0 hx0.out (ls := LSK) ⟨LSL.out, by rw [← LSE.out]; exact (isK_keyX z).2, fun u _ hu => by rw [hz0.out] at hu; cases hu; exact LSE.out.symm⟩ XL.out (by rw [HV.out, HCV.out]; exact hc))
              refine wp_region_held_drew (S := fun U => Below w5.heap.size w5 U) (by kernel_rfl) ((Below.refl _ _).drew) (fun hS => ?_)
              refine takeS (i := 0) (v := .int .i64 (k : Int)) rfl rfl (by kernel_rfl) (by kernel_rfl) (by kernel_rfl) (fun _ _ _ h => h) (Or.inl ⟨by rfl, fun U hU => by go_simp⟩) hS ?_
              try simp only [List.setIfInBounds_toArray, List.set_cons_zero, List.set_cons_succ]
              refine takeS (i := 1) (v := .bool true) rfl rfl (by kernel_rfl) (by kernel_rfl) (by kernel_rfl) (fun _ _ _ h => h) (Or.inl ⟨by rfl, fun U hU => by go_simp⟩) hS ?_
              try simp only [List.setIfInBounds_toArray, List.set_cons_zero, List.set_cons_succ]
              refine takeS (i := 2) (v := .bool true) rfl rfl (by kernel_rfl) (by kernel_rfl) (by kernel_rfl) (fun _ _ _ h => h) (Or.inl ⟨by rfl, fun U hU => by go_simp⟩) hS ?_
              try simp only [List.setIfInBounds_toArray, List.set_cons_zero, List.set_cons_succ]
              refine takeS (i := 3) (v := .pointer (some ⟨w.heap.size, 0, none⟩)) rfl rfl (by kernel_rfl) (by kernel_rfl) (by kernel_rfl) (fun _ _ _ h => h) (Or.inl ⟨by rfl, fun U hU => by go_simp⟩) hS ?_
              try simp only [List.setIfInBounds_toArray, List.set_cons_zero, List.set_cons_succ]
              refine takeS (i := 4) (v := .pointer (some ⟨w.heap.size, 0, none⟩)) rfl rfl (by kernel_rfl) (by kernel_rfl) (by kernel_rfl) (fun _ _ _ h => h) (Or.inl ⟨by rfl, fun U hU => by go_simp⟩) hS ?_
              try simp only [List.setIfInBounds_toArray, List.set_cons_zero, List.set_cons_succ]
              refine takeS (i := 5) (v := .pointer (some ⟨w.heap.size, 1, none⟩)) rfl rfl (by kernel_rfl) (by kernel_rfl) (by kernel_rfl) (fun _ _ _ h => h) (Or.inl ⟨by rfl, fun U hU => by go_simp⟩) hS ?_
              try simp only [List.setIfInBounds_toArray, List.set_cons_zero, List.set_cons_succ]
              refine takeS (i := 6) (v := .slice (some ⟨kg, 0, none⟩) k cap) rfl rfl (by kernel_rfl) (by kernel_rfl) (by kernel_rfl) (fun _ _ _ h => h) (Or.inl ⟨by rfl, fun U hU => by have cu := cell_of_row _ w.heap.size 1 _ _ _ (keep_block O5.out.box hU); go_simp⟩) hS ?_
              try simp only [List.setIfInBounds_toArray, List.set_cons_zero, List.set_cons_succ]
              refine takeS (i := 7) (v := .int .i64 (k : Int)) rfl rfl (by kernel_rfl) (by kernel_rfl) (by kernel_rfl) (fun _ _ _ h => h) (Or.inl ⟨by rfl, fun U hU => by go_simp⟩) hS ?_
              try simp only [List.setIfInBounds_toArray, List.set_cons_zero, List.set_cons_succ]
              refine takeS (i := 8) (v := .int .i64 ((k : Int) - 1)) rfl rfl (by kernel_rfl) (by kernel_rfl) (by kernel_rfl) (fun _ _ _ h => h) (Or.inl ⟨by rfl, fun U hU => by have q5 := S1.out; go_simp⟩) hS ?_
              try simp only [List.setIfInBounds_toArray, List.set_cons_zero, List.set_cons_succ]
              refine takeS (i := 9) (v := .pointer (some ⟨kg, (k - 1) * 32, none⟩)) rfl rfl (by kernel_rfl) (by kernel_rfl) (by kernel_rfl) (fun _ _ _ h => h) (Or.inl ⟨by rfl, fun U hU => by have q5 := I1.out; have q6 : ¬ (k : Int) < 1 := (by omega); go_simp⟩) hS ?_
              try simp only [List.setIfInBounds_toArray, List.set_cons_zero, List.set_cons_succ]
              refine takeS (i := 10) (v := .agg (ints .u8 LSK)) rfl rfl (by kernel_rfl) (by kernel_rfl) (by kernel_rfl) (fun _ _ _ h => h) (yields_range (by rfl) 46 _ rfl kg ((k - 1) * 32) rfl .u8 LSK _ (fun U hU => RG.out U hU) Try.underlying46 rfl (by rw [LSL.out]; exact sizeKey)) hS ?_
              try simp only [List.setIfInBounds_toArray, List.set_cons_zero, List.set_cons_succ]
              refine takeS (i := 11) (v := .agg (ints .u8 V)) rfl rfl (by kernel_rfl) (by kernel_rfl) (by kernel_rfl) (fun _ _ _ h => h) (yields_rowS (by rfl) 46 _ rfl gN rfl (ints .u8 V) 46 _ (fun U hU => keep_block K5.out hU) Try.underlying46 rfl (by rw [ints_size, VL.out]; exact sizeKey)) hS ?_
              try simp only [List.setIfInBounds_toArray, List.set_cons_zero, List.set_cons_succ]
              refine wpAnyH_ready (rs := [12]) (by kernel_rfl) (by simp) ?_
              refine AllReadyH.cons rfl (fun KQ hK => ?_) AllReadyH.nil
              rw [if_pos (by rfl)]
              go_simp
              refine (HCM.out _).mono ?_
              rintro e w6 ⟨rfl, hb⟩
              refine hK.out _ _ (below_call hS hS.size hb) (fun hS => ?_)
              clear hb hK
              refine takeS (i := 13) (v := .bool false) rfl rfl (by kernel_rfl) (by kernel_rfl) (by kernel_rfl) (fun _ _ _ h => h) (Or.inl ⟨by rfl, fun U hU => by go_simp⟩) hS ?_
              try simp only [List.setIfInBounds_toArray, List.set_cons_zero, List.set_cons_succ]
              refine takeS (i := 14) (v := .bool false) rfl rfl (by kernel_rfl) (by kernel_rfl) (by kernel_rfl) (fun _ _ _ h => h) (Or.inl ⟨by rfl, fun U hU => by go_simp⟩) hS ?_
              try simp only [List.setIfInBounds_toArray, List.set_cons_zero, List.set_cons_succ]
              refine wpAnyH_done (by kernel_rfl) ?_ _
              go_wp2_with fail
              go_meet
              exact ⟨_, rfl, Or.inl ⟨PP5.out, rfl⟩, hS⟩
            · have hc1 : 0 ≤ cv := by omega
              have HNO := Lib.hid (show ¬ stP bs from fun h => by
                have h2 := h.2.2 (k - 1) z _ hz0.out (by rw [show k - 1 + 1 = k by omega]; exact hx0.out)
                rw [LSE.out, HV.out, HCV.out] at h2
                exact hc h2)
              refine wp_region_held_drew (S := fun U => Below w5.heap.size w5 U) (by kernel_rfl) ((Below.refl _ _).drew) (fun hS => ?_)
              refine takeS (i := 0) (v := .int .i64 (k : Int)) rfl rfl (by kernel_rfl) (by kernel_rfl) (by kernel_rfl) (fun _ _ _ h => h) (Or.inl ⟨by rfl, fun U hU => by go_simp⟩) hS ?_
              try simp only [List.setIfInBounds_toArray, List.set_cons_zero, List.set_cons_succ]
              refine takeS (i := 1) (v := .bool true) rfl rfl (by kernel_rfl) (by kernel_rfl) (by kernel_rfl) (fun _ _ _ h => h) (Or.inl ⟨by rfl, fun U hU => by go_simp⟩) hS ?_
              try simp only [List.setIfInBounds_toArray, List.set_cons_zero, List.set_cons_succ]
              refine takeS (i := 2) (v := .bool true) rfl rfl (by kernel_rfl) (by kernel_rfl) (by kernel_rfl) (fun _ _ _ h => h) (Or.inl ⟨by rfl, fun U hU => by go_simp⟩) hS ?_
              try simp only [List.setIfInBounds_toArray, List.set_cons_zero, List.set_cons_succ]
              refine takeS (i := 3) (v := .pointer (some ⟨w.heap.size, 0, none⟩)) rfl rfl (by kernel_rfl) (by kernel_rfl) (by kernel_rfl) (fun _ _ _ h => h) (Or.inl ⟨by rfl, fun U hU => by go_simp⟩) hS ?_
              try simp only [List.setIfInBounds_toArray, List.set_cons_zero, List.set_cons_succ]
              refine takeS (i := 4) (v := .pointer (some ⟨w.heap.size, 0, none⟩)) rfl rfl (by kernel_rfl) (by kernel_rfl) (by kernel_rfl) (fun _ _ _ h => h) (Or.inl ⟨by rfl, fun U hU => by go_simp⟩) hS ?_
              try simp only [List.setIfInBounds_toArray, List.set_cons_zero, List.set_cons_succ]
              refine takeS (i := 5) (v := .pointer (some ⟨w.heap.size, 1, none⟩)) rfl rfl (by kernel_rfl) (by kernel_rfl) (by kernel_rfl) (fun _ _ _ h => h) (Or.inl ⟨by rfl, fun U hU => by go_simp⟩) hS ?_
              try simp only [List.setIfInBounds_toArray, List.set_cons_zero, List.set_cons_succ]
              refine takeS (i := 6) (v := .slice (some ⟨kg, 0, none⟩) k cap) rfl rfl (by kernel_rfl) (by kernel_rfl) (by kernel_rfl) (fun _ _ _ h => h) (Or.inl ⟨by rfl, fun U hU => by have cu := cell_of_row _ w.heap.size 1 _ _ _ (keep_block O5.out.box hU); go_simp⟩) hS ?_
              try simp only [List.setIfInBounds_toArray, List.set_cons_zero, List.set_cons_succ]
              refine takeS (i := 7) (v := .int .i64 (k : Int)) rfl rfl (by kernel_rfl) (by kernel_rfl) (by kernel_rfl) (fun _ _ _ h => h) (Or.inl ⟨by rfl, fun U hU => by go_simp⟩) hS ?_
              try simp only [List.setIfInBounds_toArray, List.set_cons_zero, List.set_cons_succ]
              refine takeS (i := 8) (v := .int .i64 ((k : Int) - 1)) rfl rfl (by kernel_rfl) (by kernel_rfl) (by kernel_rfl) (fun _ _ _ h => h) (Or.inl ⟨by rfl, fun U hU => by have q5 := S1.out; go_simp⟩) hS ?_
              try simp only [List.setIfInBounds_toArray, List.set_cons_zero, List.set_cons_succ]
              refine takeS (i := 9) (v := .pointer (some ⟨kg, (k - 1) * 32, none⟩)) rfl rfl (by kernel_rfl) (by kernel_rfl) (by kernel_rfl) (fun _ _ _ h => h) (Or.inl ⟨by rfl, fun U hU => by have q5 := I1.out; have q6 : ¬ (k : Int) < 1 := (by omega); go_simp⟩) hS ?_
              try simp only [List.setIfInBounds_toArray, List.set_cons_zero, List.set_cons_succ]
              refine takeS (i := 10) (v := .agg (ints .u8 LSK)) rfl rfl (by kernel_rfl) (by kernel_rfl) (by kernel_rfl) (fun _ _ _ h => h) (yields_range (by rfl) 46 _ rfl kg ((k - 1) * 32) rfl .u8 LSK _ (fun U hU => RG.out U hU) Try.underlying46 rfl (by rw [LSL.out]; exact sizeKey)) hS ?_
              try simp only [List.setIfInBounds_toArray, List.set_cons_zero, List.set_cons_succ]
              refine takeS (i := 11) (v := .agg (ints .u8 V)) rfl rfl (by kernel_rfl) (by kernel_rfl) (by kernel_rfl) (fun _ _ _ h => h) (yields_rowS (by rfl) 46 _ rfl gN rfl (ints .u8 V) 46 _ (fun U hU => keep_block K5.out hU) Try.underlying46 rfl (by rw [ints_size, VL.out]; exact sizeKey)) hS ?_
              try simp only [List.setIfInBounds_toArray, List.set_cons_zero, List.set_cons_succ]
              refine wpAnyH_ready (rs := [12]) (by kernel_rfl) (by simp) ?_
              refine AllReadyH.cons rfl (fun KQ hK => ?_) AllReadyH.nil
              rw [if_pos (by rfl)]
              go_simp
              refine (HCM.out _).mono ?_
              rintro e w6 ⟨rfl, hb⟩
              refine hK.out _ _ (below_call hS hS.size hb) (fun hS => ?_)
              clear hb hK
              refine takeS (i := 13) (v := .bool true) rfl rfl (by kernel_rfl) (by kernel_rfl) (by kernel_rfl) (fun _ _ _ h => h) (Or.inl ⟨by rfl, fun U hU => by go_simp⟩) hS ?_
              try simp only [List.setIfInBounds_toArray, List.set_cons_zero, List.set_cons_succ]
              refine takeS (i := 14) (v := .bool true) rfl rfl (by kernel_rfl) (by kernel_rfl) (by kernel_rfl) (fun _ _ _ h => h) (Or.inl ⟨by rfl, fun U hU => by go_simp⟩) hS ?_
              try simp only [List.setIfInBounds_toArray, List.set_cons_zero, List.set_cons_succ]
              refine wpAnyH_done (by kernel_rfl) ?_ _
              go_wp2_with fail
              go_meet
              exact ⟨_, rfl, Or.inr ⟨HNO.out, rfl⟩, hS⟩
          · obtain rfl : k = 0 := by omega
            have PP5 := Lib.hid (PreP.step_zero hx0.out XL.out)
            have b2 : decide ((0 : Int) < ((0 : Nat) : Int)) = false := by decide
            refine wp_region_held_drew (S := fun U => Below w5.heap.size w5 U) (by kernel_rfl) ((Below.refl _ _).drew) (fun hS => ?_)
            refine takeS (i := 0) (v := .int .i64 ((0 : Nat) : Int)) rfl rfl (by kernel_rfl) (by kernel_rfl) (by kernel_rfl) (fun _ _ _ h => h) (Or.inl ⟨by rfl, fun U hU => by go_simp⟩) hS ?_
            try simp only [List.setIfInBounds_toArray, List.set_cons_zero, List.set_cons_succ]
            refine takeS (i := 1) (v := .bool false) rfl rfl (by kernel_rfl) (by kernel_rfl) (by kernel_rfl) (fun _ _ _ h => h) (Or.inl ⟨by rfl, fun U hU => by go_simp⟩) hS ?_
            try simp only [List.setIfInBounds_toArray, List.set_cons_zero, List.set_cons_succ]
            refine takeS (i := 2) (v := .bool false) rfl rfl (by kernel_rfl) (by kernel_rfl) (by kernel_rfl) (fun _ _ _ h => h) (Or.inl ⟨by rfl, fun U hU => by go_simp⟩) hS ?_
            try simp only [List.setIfInBounds_toArray, List.set_cons_zero, List.set_cons_succ]
            refine takeS (i := 3) (v := undef) rfl rfl (by kernel_rfl) (by kernel_rfl) (by kernel_rfl) (fun _ _ _ h => h) (Or.inr ⟨by rfl, rfl⟩) hS ?_
            try simp only [List.setIfInBounds_toArray, List.set_cons_zero, List.set_cons_succ]
            refine takeS (i := 4) (v := undef) rfl rfl (by kernel_rfl) (by kernel_rfl) (by kernel_rfl) (fun _ _ _ h => h) (Or.inr ⟨by rfl, rfl⟩) hS ?_
            try simp only [List.setIfInBounds_toArray, List.set_cons_zero, List.set_cons_succ]
            refine takeS (i := 5) (v := undef) rfl rfl (by kernel_rfl) (by kernel_rfl) (by kernel_rfl) (fun _ _ _ h => h) (Or.inr ⟨by rfl, rfl⟩) hS ?_
            try simp only [List.setIfInBounds_toArray, List.set_cons_zero, List.set_cons_succ]
            refine takeS (i := 6) (v := undef) rfl rfl (by kernel_rfl) (by kernel_rfl) (by kernel_rfl) (fun _ _ _ h => h) (Or.inr ⟨by rfl, rfl⟩) hS ?_
            try simp only [List.setIfInBounds_toArray, List.set_cons_zero, List.set_cons_succ]
            refine takeS (i := 7) (v := undef) rfl rfl (by kernel_rfl) (by kernel_rfl) (by kernel_rfl) (fun _ _ _ h => h) (Or.inr ⟨by rfl, rfl⟩) hS ?_
            try simp only [List.setIfInBounds_toArray, List.set_cons_zero, List.set_cons_succ]
            refine takeS (i := 8) (v := undef) rfl rfl (by kernel_rfl) (by kernel_rfl) (by kernel_rfl) (fun _ _ _ h => h) (Or.inr ⟨by rfl, rfl⟩) hS ?_
            try simp only [List.setIfInBounds_toArray, List.set_cons_zero, List.set_cons_succ]
            refine takeS (i := 9) (v := undef) rfl rfl (by kernel_rfl) (by kernel_rfl) (by kernel_rfl) (fun _ _ _ h => h) (Or.inr ⟨by rfl, rfl⟩) hS ?_
            try simp only [List.setIfInBounds_toArray, List.set_cons_zero, List.set_cons_succ]
            refine takeS (i := 10) (v := undef) rfl rfl (by kernel_rfl) (by kernel_rfl) (by kernel_rfl) (fun _ _ _ h => h) (Or.inr ⟨by rfl, rfl⟩) hS ?_
            try simp only [List.setIfInBounds_toArray, List.set_cons_zero, List.set_cons_succ]
            refine takeS (i := 11) (v := undef) rfl rfl (by kernel_rfl) (by kernel_rfl) (by kernel_rfl) (fun _ _ _ h => h) (Or.inr ⟨by rfl, rfl⟩) hS ?_
            try simp only [List.setIfInBounds_toArray, List.set_cons_zero, List.set_cons_succ]
            refine takeS (i := 12) (v := undef) rfl rfl (by kernel_rfl) (by kernel_rfl) (by kernel_rfl) (fun _ _ _ h => h) (Or.inr ⟨by rfl, rfl⟩) hS ?_
            try simp only [List.setIfInBounds_toArray, List.set_cons_zero, List.set_cons_succ]
            refine takeS (i := 13) (v := undef) rfl rfl (by kernel_rfl) (by kernel_rfl) (by kernel_rfl) (fun _ _ _ h => h) (Or.inr ⟨by rfl, rfl⟩) hS ?_
            try simp only [List.setIfInBounds_toArray, List.set_cons_zero, List.set_cons_succ]
            refine takeS (i := 14) (v := .bool false) rfl rfl (by kernel_rfl) (by kernel_rfl) (by kernel_rfl) (fun _ _ _ h => h) (Or.inl ⟨by rfl, fun U hU => by go_simp⟩) hS ?_
            try simp only [List.setIfInBounds_toArray, List.set_cons_zero, List.set_cons_succ]
            refine wpAnyH_done (by kernel_rfl) ?_ _
            go_wp2_with fail
            go_meet
            exact ⟨_, rfl, Or.inl ⟨PP5.out, rfl⟩, hS⟩
        case rest =>
          obtain ⟨w7, rfl, hh, hb⟩ := hcut
          have O7 := Lib.hid (O5.out.below hb)
          have K7 := Lib.hid (keep_block K5.out hb)
          have B7 := Lib.hid (B5.out.trans (hb.mono B5.out.size))
          clear hb O5 K5 B5 O1 B1 X1
          rcases hh with ⟨PP2, hs55⟩ | ⟨hno, hs55⟩ <;> subst hs55
          · have PP5 := Lib.hid PP2
            clear PP2
            go_upto_region 12 with fail
            go_cut [] (fun wx => ∃ u8, u8 = wx ∧ ∃ v1' ys', OpenP wx w.heap.size w.heap.size v1' v2 (bs.take (k + 1)) ys' k ((bs.take k).flatMap keyX) ∧ wx.heap[gN]? = some (.cells (ints .u8 V) 46) ∧ Below w.heap.size w wx)
            case first =>
              have KD := Lib.hid (keep_block K7.out ((Below.refl w7.heap.size w7).drew))
              have OD := Lib.hid (O7.out.below ((Below.refl _ _).drew))
              have BD := Lib.hid (B7.out.drew)
              refine wp_region_held_drew (S := fun U => Below w.heap.size w U) (by kernel_rfl) (BD.out) (fun hS => ?_)
              generalize w7.drew = WD at OD BD KD hS ⊢
              refine takeS (i := 0) (v := .pointer (some ⟨w.heap.size, 0, none⟩)) rfl rfl (by kernel_rfl) (by kernel_rfl) (by kernel_rfl) (fun _ _ _ h => h) (Or.inl ⟨by rfl, fun U hU => by go_simp⟩) hS ?_
              try simp only [List.setIfInBounds_toArray, List.set_cons_zero, List.set_cons_succ]
              refine takeS (i := 1) (v := .pointer (some ⟨w.heap.size, 0, none⟩)) rfl rfl (by kernel_rfl) (by kernel_rfl) (by kernel_rfl) (fun _ _ _ h => h) (Or.inl ⟨by rfl, fun U hU => by go_simp⟩) hS ?_
              try simp only [List.setIfInBounds_toArray, List.set_cons_zero, List.set_cons_succ]
              refine takeS (i := 2) (v := .pointer (some ⟨w.heap.size, 0, none⟩)) rfl rfl (by kernel_rfl) (by kernel_rfl) (by kernel_rfl) (fun _ _ _ h => h) (Or.inl ⟨by rfl, fun U hU => by go_simp⟩) hS ?_
              try simp only [List.setIfInBounds_toArray, List.set_cons_zero, List.set_cons_succ]
              refine takeS (i := 3) (v := .pointer (some ⟨w.heap.size, 0, none⟩)) rfl rfl (by kernel_rfl) (by kernel_rfl) (by kernel_rfl) (fun _ _ _ h => h) (Or.inl ⟨by rfl, fun U hU => by go_simp⟩) hS ?_
              try simp only [List.setIfInBounds_toArray, List.set_cons_zero, List.set_cons_succ]
              refine takeS (i := 5) (v := .pointer (some ⟨s0, 0, none⟩)) rfl rfl (by kernel_rfl) (by kernel_rfl) (by kernel_rfl) (fun _ _ _ h => h) (Or.inl ⟨by rfl, fun U hU => by go_simp⟩) hS ?_
              try simp only [List.setIfInBounds_toArray, List.set_cons_zero, List.set_cons_succ]
              refine takeS (i := 6) (v := .pointer (some ⟨s0, 0, none⟩)) rfl rfl (by kernel_rfl) (by kernel_rfl) (by kernel_rfl) (fun _ _ _ h => h) (Or.inl ⟨by rfl, fun U hU => by go_simp⟩) hS ?_
              try simp only [List.setIfInBounds_toArray, List.set_cons_zero, List.set_cons_succ]
              refine takeS (i := 7) (v := .pointer (some ⟨s0, 0, none⟩)) rfl rfl (by kernel_rfl) (by kernel_rfl) (by kernel_rfl) (fun _ _ _ h => h) (Or.inl ⟨by rfl, fun U hU => by go_simp⟩) hS ?_
              try simp only [List.setIfInBounds_toArray, List.set_cons_zero, List.set_cons_succ]
              refine takeS (i := 8) (v := .slice (some ⟨g, 0, none⟩) n n) rfl rfl (by kernel_rfl) (by kernel_rfl) (by kernel_rfl) (fun _ _ _ h => h) (Or.inl ⟨by rfl, fun U hU => by have cu := cell_of_row _ s0 0 _ _ _ (keep_block HS0.out hU); go_simp⟩) hS ?_
              try simp only [List.setIfInBounds_toArray, List.set_cons_zero, List.set_cons_succ]
              refine takeS (i := 9) (v := .int .i64 (k : Int)) rfl rfl (by kernel_rfl) (by kernel_rfl) (by kernel_rfl) (fun _ _ _ h => h) (Or.inl ⟨by rfl, fun U hU => by go_simp⟩) hS ?_
              try simp only [List.setIfInBounds_toArray, List.set_cons_zero, List.set_cons_succ]
              refine takeS (i := 10) (v := .pointer (some ⟨g, k * 2, none⟩)) rfl rfl (by kernel_rfl) (by kernel_rfl) (by kernel_rfl) (fun _ _ _ h => h) (Or.inl ⟨by rfl, fun U hU => by go_simp⟩) hS ?_
              try simp only [List.setIfInBounds_toArray, List.set_cons_zero, List.set_cons_succ]
              refine takeS (i := 11) (v := .agg #[.int .u8 xt, .slice (some ⟨y, 0, none⟩) xn xn]) rfl rfl (by kernel_rfl) (by kernel_rfl) (by kernel_rfl) (fun _ _ _ h => h) (Or.inl ⟨by rfl, fun U hU => by obtain ⟨cu0, cu1⟩ := HXW.out U hU; go_simp⟩) hS ?_
              try simp only [List.setIfInBounds_toArray, List.set_cons_zero, List.set_cons_succ]
              have OA := Lib.hid (OD.out.below ((Below.refl WD.heap.size WD).alloc (Nat.le_refl _) (.cells #[.int .u8 xt, .slice (some ⟨y, 0, none⟩) xn xn] 43)))
              have KA := Lib.hid (keep_block KD.out ((Below.refl WD.heap.size WD).alloc (Nat.le_refl _) (.cells #[.int .u8 xt, .slice (some ⟨y, 0, none⟩) xn xn] 43)))
              have BA := Lib.hid (BD.out.alloc BD.out.size (.cells #[.int .u8 xt, .slice (some ⟨y, 0, none⟩) xn xn] 43))
              have RA := Lib.hid (show (WD.alloc (.cells #[.int .u8 xt, .slice (some ⟨y, 0, none⟩) xn xn] 43)).ownsRow w.heap.size 43 2 v1 k (blC (bs.take k) ys) from by have h := OA.out.row1; rw [HTL.out] at h; exact h)
              refine wpAnyH_ready (rs := [4, 12]) (by kernel_rfl) (by simp) ?_
              refine AllReadyH.cons rfl (fun KQ hK => ?_) (AllReadyH.cons rfl (fun KQ hK => ?_) AllReadyH.nil)
              · rw [if_pos (by rfl)]
                have cg := cell_of_row _ w.heap.size 0 _ _ _ OD.out.box
                go_simp
                refine hK.out _ _ hS (fun hS => ?_)
                clear hK cg
                refine wpAnyH_ready (rs := [12]) (by kernel_rfl) (by simp) ?_
                refine AllReadyH.cons rfl (fun KQ hK => ?_) AllReadyH.nil
                rw [if_pos (by rfl)]
                refine wp_buildSlice_oneS 27 43 _ rfl Try.underlying27 hi0 hz0 #[.int .u8 xt, .slice (some ⟨y, 0, none⟩) xn xn] rfl (by rw [hs0]; rfl) (by rw [hs0]; decide) (by rw [hs0]; decide) ?_
                simp only [Act.put]
                refine hK.out _ _ (BD.out.alloc BD.out.size _) (fun hS => ?_)
                clear hK
                refine wpAnyH_ready (rs := [13]) (by kernel_rfl) (by simp) ?_
                refine AllReadyH.cons rfl (fun KQ hK => ?_) AllReadyH.nil
                rw [if_pos (by rfl)]
                refine wp_append_own _ _ _ 27 rfl w.heap.size 43 i0 z0 2 32 Try.underlying27 hi0 hz0 hs0 hb0 hc0 (by decide) v1 k (blC (bs.take k) ys) rfl RA.out ⟨WD.heap.size, 0, none⟩ 1 1 [.int .u8 xt, .slice (some ⟨y, 0, none⟩) xn xn] rfl (by rfl) ?k1_1 ?k1_2 ?k1_3 ?k1_4 ?k1_5 ?_
                case k1_1 =>
                  intro p u hu
                  rw [addr_add, Nat.zero_add, cell_of_row _ WD.heap.size p _ _ _ (heap_alloc_last WD (.cells #[.int .u8 xt, .slice (some ⟨y, 0, none⟩) xn xn] 43)), ← hu]
                  simp [ints]
                case k1_2 => intro u hu; simp at hu; rcases hu with rfl | rfl <;> rfl
                case k1_3 => unfold maxLen; omega
                case k1_4 => omega
                case k1_5 => have := BD.out.size; simp; omega
                intro v4 w4 hown4 hgrow4 hnil4
                obtain ⟨g4, c4, rfl⟩ := rowSucc hown4
                have hyd := HYW.out WD BD.out
                obtain ⟨hX4, hO4⟩ := OA.out.app1 (x := ⟨xt, xa, xn, xc, xl⟩) hgrow4 (by rw [HTL.out]; exact hown4) (keep_block hyd ((Below.refl _ _).alloc (Nat.le_refl _) _))
                have X4 := Lib.hid hX4
                have O4 := Lib.hid hO4
                have KK4 := Lib.hid ((hgrow4.block gN (Array.getElem?_eq_some_iff.1 KA.out).1 (fun e => row_ne OA.out.row1 KA.out (by decide) e.symm)).trans KA.out)
                have B4 := Lib.hid (BA.out.grown hgrow4 BA.out.size (fun q hq => (OA.out.row1.lt q hq).1))
                clear hX4 hO4 hown4 hgrow4 hnil4
                refine hK.out _ _ (B4.out) (fun hS => ?_)
                clear hK
                refine takeS (i := 14) (v := .pointer (some ⟨w.heap.size, 0, none⟩)) rfl rfl (by kernel_rfl) (by kernel_rfl) (by kernel_rfl) (fun _ _ _ h => h) (Or.inl ⟨by rfl, fun U hU => by go_simp⟩) hS ?_
                try simp only [List.setIfInBounds_toArray, List.set_cons_zero, List.set_cons_succ]
                refine takeS (i := 15) (v := .pointer (some ⟨w.heap.size, 0, none⟩)) rfl rfl (by kernel_rfl) (by kernel_rfl) (by kernel_rfl) (fun _ _ _ h => h) (Or.inl ⟨by rfl, fun U hU => by go_simp⟩) hS ?_
                try simp only [List.setIfInBounds_toArray, List.set_cons_zero, List.set_cons_succ]
                refine wpAnyH_ready (rs := [16]) (by kernel_rfl) (by simp) ?_
                refine AllReadyH.cons rfl (fun KQ hK => ?_) AllReadyH.nil
                rw [if_pos (by rfl)]
                have cg := cell_of_row w4 w.heap.size 0 _ _ _ X4.out
                have cf := frozen_of_row w4 w.heap.size 0 _ _ X4.out
                go_simp
                refine hK.out _ _ (B4.out.grown (grown_setCell w4 w.heap.size 0 (.slice (some ⟨g4, 0, none⟩) (k + 1) c4)) B4.out.size (fun q hq => by cases hq; omega)) (fun hS => ?_)
                clear hK cg cf
                refine wpAnyH_done (by kernel_rfl) ?_ _
                go_wp2_with fail
                go_meet
                have GX := Lib.hid (grown_setCell w4 w.heap.size 0 (.slice (some ⟨g4, 0, none⟩) (k + 1) c4))
                have KK5 := Lib.hid ((GX.out.block gN (Array.getElem?_eq_some_iff.1 KK4.out).1 (fun e => KNE.out (by cases e; rfl))).trans KK4.out)
                exact ⟨_, rfl, _, ys ++ [y], by rw [← HTK.out]; exact O4.out, KK5.out, hS⟩
              · rw [if_pos (by rfl)]
                refine wp_buildSlice_oneS 27 43 _ rfl Try.underlying27 hi0 hz0 #[.int .u8 xt, .slice (some ⟨y, 0, none⟩) xn xn] rfl (by rw [hs0]; rfl) (by rw [hs0]; decide) (by rw [hs0]; decide) ?_
                simp only [Act.put]
                refine hK.out _ _ (BD.out.alloc BD.out.size _) (fun hS => ?_)
                clear hK
                refine wpAnyH_ready (rs := [4]) (by kernel_rfl) (by simp) ?_
                refine AllReadyH.cons rfl (fun KQ hK => ?_) AllReadyH.nil
                rw [if_pos (by rfl)]
                have cg := cell_of_row _ w.heap.size 0 _ _ _ OA.out.box
                go_simp
                refine hK.out _ _ hS (fun hS => ?_)
                clear hK cg
                refine wpAnyH_ready (rs := [13]) (by kernel_rfl) (by simp) ?_
                refine AllReadyH.cons rfl (fun KQ hK => ?_) AllReadyH.nil
                rw [if_pos (by rfl)]
                refine wp_append_own _ _ _ 27 rfl w.heap.size 43 i0 z0 2 32 Try.underlying27 hi0 hz0 hs0 hb0 hc0 (by decide) v1 k (blC (bs.take k) ys) rfl RA.out ⟨WD.heap.size, 0, none⟩ 1 1 [.int .u8 xt, .slice (some ⟨y, 0, none⟩) xn xn] rfl (by rfl) ?k2_1 ?k2_2 ?k2_3 ?k2_4 ?k2_5 ?_
                case k2_1 =>
                  intro p u hu
                  rw [addr_add, Nat.zero_add, cell_of_row _ WD.heap.size p _ _ _ (heap_alloc_last WD (.cells #[.int .u8 xt, .slice (some ⟨y, 0, none⟩) xn xn] 43)), ← hu]
                  simp [ints]
                case k2_2 => intro u hu; simp at hu; rcases hu with rfl | rfl <;> rfl
                case k2_3 => unfold maxLen; omega
                case k2_4 => omega
                case k2_5 => have := BD.out.size; simp; omega
                intro v4 w4 hown4 hgrow4 hnil4
                obtain ⟨g4, c4, rfl⟩ := rowSucc hown4
                have hyd := HYW.out WD BD.out
                obtain ⟨hX4, hO4⟩ := OA.out.app1 (x := ⟨xt, xa, xn, xc, xl⟩) hgrow4 (by rw [HTL.out]; exact hown4) (keep_block hyd ((Below.refl _ _).alloc (Nat.le_refl _) _))
                have X4 := Lib.hid hX4
                have O4 := Lib.hid hO4
                have KK4 := Lib.hid ((hgrow4.block gN (Array.getElem?_eq_some_iff.1 KA.out).1 (fun e => row_ne OA.out.row1 KA.out (by decide) e.symm)).trans KA.out)
                have B4 := Lib.hid (BA.out.grown hgrow4 BA.out.size (fun q hq => (OA.out.row1.lt q hq).1))
                clear hX4 hO4 hown4 hgrow4 hnil4
                refine hK.out _ _ (B4.out) (fun hS => ?_)
                clear hK
                refine takeS (i := 14) (v := .pointer (some ⟨w.heap.size, 0, none⟩)) rfl rfl (by kernel_rfl) (by kernel_rfl) (by kernel_rfl) (fun _ _ _ h => h) (Or.inl ⟨by rfl, fun U hU => by go_simp⟩) hS ?_
                try simp only [List.setIfInBounds_toArray, List.set_cons_zero, List.set_cons_succ]
                refine takeS (i := 15) (v := .pointer (some ⟨w.heap.size, 0, none⟩)) rfl rfl (by kernel_rfl) (by kernel_rfl) (by kernel_rfl) (fun _ _ _ h => h) (Or.inl ⟨by rfl, fun U hU => by go_simp⟩) hS ?_
                try simp only [List.setIfInBounds_toArray, List.set_cons_zero, List.set_cons_succ]
                refine wpAnyH_ready (rs := [16]) (by kernel_rfl) (by simp) ?_
                refine AllReadyH.cons rfl (fun KQ hK => ?_) AllReadyH.nil
                rw [if_pos (by rfl)]
                have cg := cell_of_row w4 w.heap.size 0 _ _ _ X4.out
                have cf := frozen_of_row w4 w.heap.size 0 _ _ X4.out
                go_simp
                refine hK.out _ _ (B4.out.grown (grown_setCell w4 w.heap.size 0 (.slice (some ⟨g4, 0, none⟩) (k + 1) c4)) B4.out.size (fun q hq => by cases hq; omega)) (fun hS => ?_)
                clear hK cg cf
                refine wpAnyH_done (by kernel_rfl) ?_ _
                go_wp2_with fail
                go_meet
                have GX := Lib.hid (grown_setCell w4 w.heap.size 0 (.slice (some ⟨g4, 0, none⟩) (k + 1) c4))
                have KK5 := Lib.hid ((GX.out.block gN (Array.getElem?_eq_some_iff.1 KK4.out).1 (fun e => KNE.out (by cases e; rfl))).trans KK4.out)
                exact ⟨_, rfl, _, ys ++ [y], by rw [← HTK.out]; exact O4.out, KK5.out, hS⟩
            case rest =>
              obtain ⟨w8, rfl, v1', ys', hO, hK8, hB8⟩ := hcut
              have O8 := Lib.hid hO
              have K8 := Lib.hid hK8
              have B8 := Lib.hid hB8
              clear hO hK8 hB8 O7 K7 B7
              go_upto_region 13 with fail
              have OD := Lib.hid (O8.out.below ((Below.refl _ _).drew))
              have BD := Lib.hid (B8.out.drew)
              have KD := Lib.hid (keep_block K8.out ((Below.refl w8.heap.size w8).drew))
              refine wp_region_held_drew (S := fun U => Below w.heap.size w U ∧ U.heap[gN]? = some (.cells (ints .u8 V) 46)) (by kernel_rfl) (⟨BD.out, KD.out⟩) (fun hS => ?_)
              generalize w8.drew = WD at OD BD KD hS ⊢
              refine takeS (i := 0) (v := .pointer (some ⟨w.heap.size, 0, none⟩)) rfl rfl (by kernel_rfl) (by kernel_rfl) (by kernel_rfl) (fun _ _ _ h => h) (Or.inl ⟨by rfl, fun U hU => by go_simp⟩) hS ?_
              try simp only [List.setIfInBounds_toArray, List.set_cons_zero, List.set_cons_succ]
              refine takeS (i := 1) (v := .pointer (some ⟨w.heap.size, 0, none⟩)) rfl rfl (by kernel_rfl) (by kernel_rfl) (by kernel_rfl) (fun _ _ _ h => h) (Or.inl ⟨by rfl, fun U hU => by go_simp⟩) hS ?_
              try simp only [List.setIfInBounds_toArray, List.set_cons_zero, List.set_cons_succ]
              refine takeS (i := 2) (v := .pointer (some ⟨w.heap.size, 0, none⟩)) rfl rfl (by kernel_rfl) (by kernel_rfl) (by kernel_rfl) (fun _ _ _ h => h) (Or.inl ⟨by rfl, fun U hU => by go_simp⟩) hS ?_
              try simp only [List.setIfInBounds_toArray, List.set_cons_zero, List.set_cons_succ]
              refine takeS (i := 3) (v := .pointer (some ⟨w.heap.size, 1, none⟩)) rfl rfl (by kernel_rfl) (by kernel_rfl) (by kernel_rfl) (fun _ _ _ h => h) (Or.inl ⟨by rfl, fun U hU => by go_simp⟩) hS ?_
              try simp only [List.setIfInBounds_toArray, List.set_cons_zero, List.set_cons_succ]
              refine takeS (i := 5) (v := .agg (ints .u8 V)) rfl rfl (by kernel_rfl) (by kernel_rfl) (by kernel_rfl) (fun _ _ _ h => h) (yields_rowS (by rfl) 46 _ rfl gN rfl (ints .u8 V) 46 _ (fun U hU => hU.2) Try.underlying46 rfl (by rw [ints_size, VL.out]; exact sizeKey)) hS ?_
              try simp only [List.setIfInBounds_toArray, List.set_cons_zero, List.set_cons_succ]
              have OA := Lib.hid (OD.out.below ((Below.refl WD.heap.size WD).alloc (Nat.le_refl _) (.cells (ints .u8 V) 46)))
              have KA := Lib.hid (keep_block KD.out ((Below.refl WD.heap.size WD).alloc (Nat.le_refl _) (.cells (ints .u8 V) 46)))
              have BA := Lib.hid (BD.out.alloc BD.out.size (.cells (ints .u8 V) 46))
              refine wpAnyH_ready (rs := [4, 6]) (by kernel_rfl) (by simp) ?_
              refine AllReadyH.cons rfl (fun KQ hK => ?_) (AllReadyH.cons rfl (fun KQ hK => ?_) AllReadyH.nil)
              · rw [if_pos (by rfl)]
                have cg := cell_of_row _ w.heap.size 1 _ _ _ OD.out.box
                go_simp
                refine hK.out _ _ hS (fun hS => ?_)
                clear hK cg
                refine wpAnyH_ready (rs := [6]) (by kernel_rfl) (by simp) ?_
                refine AllReadyH.cons rfl (fun KQ hK => ?_) AllReadyH.nil
                rw [if_pos (by rfl)]
                refine wp_buildSlice_oneS 34 46 _ rfl Try.underlying34 hi1 hz1 (ints .u8 V) rfl (by rw [hs1, ints_size, VL.out]) (by rw [hs1]; decide) (by rw [hs1]; decide) ?_
                simp only [Act.put]
                refine hK.out _ _ ⟨BD.out.alloc BD.out.size _, KA.out⟩ (fun hS => ?_)
                clear hK
                refine wpAnyH_ready (rs := [7]) (by kernel_rfl) (by simp) ?_
                refine AllReadyH.cons rfl (fun KQ hK => ?_) AllReadyH.nil
                rw [if_pos (by rfl)]
                refine wp_append_own _ _ _ 34 rfl w.heap.size 46 i1 z1 32 32 Try.underlying34 hi1 hz1 hs1 hb1 hc1 (by decide) v2 k (((bs.take k).flatMap keyX).map (Value.int .u8)) rfl OA.out.row2 ⟨WD.heap.size, 0, none⟩ 1 1 (V.map (Value.int .u8)) rfl (by rw [List.length_map, VL.out]) ?k3_1 ?k3_2 ?k3_3 ?k3_4 ?k3_5 ?_
                case k3_1 =>
                  intro p u hu
                  rw [addr_add, Nat.zero_add, cell_of_row _ WD.heap.size p _ _ _ (heap_alloc_last WD (.cells (ints .u8 V) 46)), ← hu]
                  simp [ints]
                case k3_2 => intro u hu; obtain ⟨z, _, rfl⟩ := List.mem_map.1 hu; rfl
                case k3_3 => unfold maxLen; omega
                case k3_4 => omega
                case k3_5 => have := BD.out.size; simp; omega
                intro v4 w4 hown4 hgrow4 hnil4
                obtain ⟨g4, c4, rfl⟩ := rowSucc hown4
                obtain ⟨hX4, hO4⟩ := OA.out.app2 (k := V) hgrow4 hown4
                have X4 := Lib.hid hX4
                have O4 := Lib.hid hO4
                have KK4 := Lib.hid ((hgrow4.block gN (Array.getElem?_eq_some_iff.1 KA.out).1 (fun e => V2NE.out e.symm)).trans KA.out)
                have B4 := Lib.hid (BA.out.grown hgrow4 BA.out.size (fun q hq => (OA.out.row2.lt q hq).1))
                clear hX4 hO4 hown4 hgrow4 hnil4
                refine hK.out _ _ (⟨B4.out, KK4.out⟩) (fun hS => ?_)
                clear hK
                refine takeS (i := 8) (v := .pointer (some ⟨w.heap.size, 0, none⟩)) rfl rfl (by kernel_rfl) (by kernel_rfl) (by kernel_rfl) (fun _ _ _ h => h) (Or.inl ⟨by rfl, fun U hU => by go_simp⟩) hS ?_
                try simp only [List.setIfInBounds_toArray, List.set_cons_zero, List.set_cons_succ]
                refine takeS (i := 9) (v := .pointer (some ⟨w.heap.size, 1, none⟩)) rfl rfl (by kernel_rfl) (by kernel_rfl) (by kernel_rfl) (fun _ _ _ h => h) (Or.inl ⟨by rfl, fun U hU => by go_simp⟩) hS ?_
                try simp only [List.setIfInBounds_toArray, List.set_cons_zero, List.set_cons_succ]
                refine wpAnyH_ready (rs := [10]) (by kernel_rfl) (by simp) ?_
                refine AllReadyH.cons rfl (fun KQ hK => ?_) AllReadyH.nil
                rw [if_pos (by rfl)]
                have cg := cell_of_row w4 w.heap.size 1 _ _ _ X4.out
                have cf := frozen_of_row w4 w.heap.size 1 _ _ X4.out
                go_simp
                refine hK.out _ _ (⟨B4.out.grown (grown_setCell w4 w.heap.size 1 (.slice (some ⟨g4, 0, none⟩) (k + 1) c4)) B4.out.size (fun q hq => by cases hq; omega), ((grown_setCell w4 w.heap.size 1 (.slice (some ⟨g4, 0, none⟩) (k + 1) c4)).block gN (Array.getElem?_eq_some_iff.1 KK4.out).1 (fun e => KNE.out (by cases e; rfl))).trans KK4.out⟩) (fun hS => ?_)
                clear hK cg cf
                refine wpAnyH_done (by kernel_rfl) ?_ _
                have O9 := Lib.hid O4.out
                have B9 := Lib.hid hS.1
                clear hS O4
                go_wp2_with fail
                go_roundw
                case rel => exact ⟨k + 1, _, _, _, by omega, by go_num, B9.out, by rw [HFK.out]; exact O9.out, PP5.out⟩
                case measure => simp [intOf]; omega
              · rw [if_pos (by rfl)]
                refine wp_buildSlice_oneS 34 46 _ rfl Try.underlying34 hi1 hz1 (ints .u8 V) rfl (by rw [hs1, ints_size, VL.out]) (by rw [hs1]; decide) (by rw [hs1]; decide) ?_
                simp only [Act.put]
                refine hK.out _ _ ⟨BD.out.alloc BD.out.size _, KA.out⟩ (fun hS => ?_)
                clear hK
                refine wpAnyH_ready (rs := [4]) (by kernel_rfl) (by simp) ?_
                refine AllReadyH.cons rfl (fun KQ hK => ?_) AllReadyH.nil
                rw [if_pos (by rfl)]
                have cg := cell_of_row _ w.heap.size 1 _ _ _ OA.out.box
                go_simp
                refine hK.out _ _ hS (fun hS => ?_)
                clear hK cg
                refine wpAnyH_ready (rs := [7]) (by kernel_rfl) (by simp) ?_
                refine AllReadyH.cons rfl (fun KQ hK => ?_) AllReadyH.nil
                rw [if_pos (by rfl)]
                refine wp_append_own _ _ _ 34 rfl w.heap.size 46 i1 z1 32 32 Try.underlying34 hi1 hz1 hs1 hb1 hc1 (by decide) v2 k (((bs.take k).flatMap keyX).map (Value.int .u8)) rfl OA.out.row2 ⟨WD.heap.size, 0, none⟩ 1 1 (V.map (Value.int .u8)) rfl (by rw [List.length_map, VL.out]) ?k4_1 ?k4_2 ?k4_3 ?k4_4 ?k4_5 ?_
                case k4_1 =>
                  intro p u hu
                  rw [addr_add, Nat.zero_add, cell_of_row _ WD.heap.size p _ _ _ (heap_alloc_last WD (.cells (ints .u8 V) 46)), ← hu]
                  simp [ints]
                case k4_2 => intro u hu; obtain ⟨z, _, rfl⟩ := List.mem_map.1 hu; rfl
                case k4_3 => unfold maxLen; omega
                case k4_4 => omega
                case k4_5 => have := BD.out.size; simp; omega
                intro v4 w4 hown4 hgrow4 hnil4
                obtain ⟨g4, c4, rfl⟩ := rowSucc hown4
                obtain ⟨hX4, hO4⟩ := OA.out.app2 (k := V) hgrow4 hown4
                have X4 := Lib.hid hX4
                have O4 := Lib.hid hO4
                have KK4 := Lib.hid ((hgrow4.block gN (Array.getElem?_eq_some_iff.1 KA.out).1 (fun e => V2NE.out e.symm)).trans KA.out)
                have B4 := Lib.hid (BA.out.grown hgrow4 BA.out.size (fun q hq => (OA.out.row2.lt q hq).1))
                clear hX4 hO4 hown4 hgrow4 hnil4
                refine hK.out _ _ (⟨B4.out, KK4.out⟩) (fun hS => ?_)
                clear hK
                refine takeS (i := 8) (v := .pointer (some ⟨w.heap.size, 0, none⟩)) rfl rfl (by kernel_rfl) (by kernel_rfl) (by kernel_rfl) (fun _ _ _ h => h) (Or.inl ⟨by rfl, fun U hU => by go_simp⟩) hS ?_
                try simp only [List.setIfInBounds_toArray, List.set_cons_zero, List.set_cons_succ]
                refine takeS (i := 9) (v := .pointer (some ⟨w.heap.size, 1, none⟩)) rfl rfl (by kernel_rfl) (by kernel_rfl) (by kernel_rfl) (fun _ _ _ h => h) (Or.inl ⟨by rfl, fun U hU => by go_simp⟩) hS ?_
                try simp only [List.setIfInBounds_toArray, List.set_cons_zero, List.set_cons_succ]
                refine wpAnyH_ready (rs := [10]) (by kernel_rfl) (by simp) ?_
                refine AllReadyH.cons rfl (fun KQ hK => ?_) AllReadyH.nil
                rw [if_pos (by rfl)]
                have cg := cell_of_row w4 w.heap.size 1 _ _ _ X4.out
                have cf := frozen_of_row w4 w.heap.size 1 _ _ X4.out
                go_simp
                refine hK.out _ _ (⟨B4.out.grown (grown_setCell w4 w.heap.size 1 (.slice (some ⟨g4, 0, none⟩) (k + 1) c4)) B4.out.size (fun q hq => by cases hq; omega), ((grown_setCell w4 w.heap.size 1 (.slice (some ⟨g4, 0, none⟩) (k + 1) c4)).block gN (Array.getElem?_eq_some_iff.1 KK4.out).1 (fun e => KNE.out (by cases e; rfl))).trans KK4.out⟩) (fun hS => ?_)
                clear hK cg cf
                refine wpAnyH_done (by kernel_rfl) ?_ _
                have O9 := Lib.hid O4.out
                have B9 := Lib.hid hS.1
                clear hS O4
                go_wp2_with fail
                go_roundw
                case rel => exact ⟨k + 1, _, _, _, by omega, by go_num, B9.out, by rw [HFK.out]; exact O9.out, PP5.out⟩
                case measure => simp [intOf]; omega
          · have HNO := Lib.hid hno
            clear hno
            go_wp2_with fail
            go_returns
            exact OpnR.no HNO.out B7.out
      · have e1 : blB x.n = false := by unfold blB; exact decide_eq_false hbl
        rw [e1] at HVB
        have HNO := Lib.hid (show ¬ stP bs from fun h => hbl (h.2.1 k x hx0.out))
        clear e1 hbl
        go_wp2_with fail
        refine HVB.out.mono ?_
        rintro e w' ⟨rfl, rfl⟩
        go_wp2_with fail
        go_returns
        exact OpnR.no HNO.out B1.out
    · obtain rfl : k = n := by omega
      have HYES := Lib.hid (PP.out.whole HL.out (by omega))
      have e3 : bs.take k = bs := List.take_of_length_le (by rw [HL.out]; omega)
      rw [e3] at O1
      clear e3
      go_wp2_with fail
      go_returns
      exact ⟨Or.inl ⟨HYES.out, rfl, _, _, _, by rw [HL.out]; exact O1.out⟩, B1.out⟩
end Go.Proofs.Ytdoelmjaongjfaa
