/- Keys in order, each once: the specification. Written by hand. -/
import Derived.Test.YtdoelmjaongjfabRwS
import Derived.Test.YtdoelmjaongjfabHas
import Derived.BigQuiet
namespace Go.Proofs.Ytdoelmjaongjfab
open Go.ChangeShapes Go.WideShapes Go.ChangeAt Go.RowKit
set_option linter.unusedVariables false
set_option linter.unusedSimpArgs false
open Go.Sort Go.Shelf
theorem wp_region_class {P : Program} {C : World → Prop} {id : Nat} {Q : Exit → Act → World → Prop} {a : Act} {w : World} {l : List Oper} (hm : P.follows .mixedOrders = true) (hB : Region.lexB .any l.toArray = true) (hC : C w.drew)
    (h : wpQuiet P l.toArray C (fun a' => ∀ w', C w' → Q .normal a' w') l a) : (Code.region id l.toArray true).wp P Q a w := wp_region_quiet hm hB hC (by simpa using h)
theorem wq_skip {P : Program} {ops : Array Oper} {C : World → Prop} {Q : Act → Prop} {a : Act} {o : Oper} {rest : List Oper} (hw : Region.wanted o (yielded ops a.tmps) = false) (h : wpQuiet P ops C Q rest (a.put o.dst undef)) : wpQuiet P ops C Q (o :: rest) a :=
  wpQuiet_step fun K hK => by rw [if_neg (by rw [hw]; exact Bool.false_ne_true)]; exact hK _ h
theorem hasK_yes {acc : List KeyS} {x : KeyS} (h : x ∈ acc) : hasB (flatK acc) acc.length x.1 = true := by
  obtain ⟨i, hi, e⟩ := List.getElem_of_mem h
  exact hasB_yes hi (keyAt_flatK (List.getElem?_eq_some_iff.2 ⟨hi, e⟩))
theorem hasK_no {acc : List KeyS} {x : KeyS} (h : x ∉ acc) : hasB (flatK acc) acc.length x.1 = false := hasB_no fun j hj e => by
  rw [keyAt_flatK (List.getElem?_eq_getElem hj)] at e
  exact h (Subtype.ext e ▸ List.getElem_mem hj)
theorem rdkO {w : World} {base : Nat} {v : Value} {m : Nat} {L : List Int} {t : TypeId} (hl : L.length = 32 * m) (h : w.ownsRow base t 32 v m (L.map (Value.int .u8))) : ∃ a cap, v = .slice a m cap ∧ RdK w a m L := by
  obtain ⟨h1, h2⟩ := h
  rcases h2 with ⟨rfl, rfl⟩ | ⟨g, cap, cur, rfl, hb, hg, hc, hm, hs, ht⟩
  · exact ⟨none, 0, rfl, hl, Or.inl rfl⟩
  · refine ⟨_, cap, rfl, hl, Or.inr ⟨g, 0, rfl, (Array.getElem?_eq_some_iff.1 hg).1, fun j hj => ?_⟩⟩
    rw [Nat.zero_add, cell_of_row w g j _ _ _ hg]
    have : (cur.toList.take (m * 32))[j]? = (L.map (Value.int .u8))[j]? := by rw [ht]
    rw [List.getElem?_take_of_lt (by omega), List.getElem?_map, List.getElem?_eq_getElem (l := L) (by omega)] at this
    rw [List.getElem?_eq_getElem (l := L) (by omega)]
    simpa using this
theorem row_monoO {w : World} {base base' : Nat} {e : TypeId} {size : Nat} {v : Value} {n : Nat} {xs : List Value} (h : w.ownsRow base' e size v n xs) (hb : base ≤ base') : w.ownsRow base e size v n xs :=
  ⟨h.1, h.2.imp id fun ⟨g, c, cur, hv, hc, r⟩ => ⟨g, c, cur, hv, Nat.le_trans hb hc, r⟩⟩
set_option maxRecDepth 100000 in
set_option maxHeartbeats 1000000 in
open Classical in
theorem sort_spec (b : Option Addr) (n cap : Nat) (fl f : List Int) (hn : n ≤ 1048576) (hf : ∀ y ∈ fl, 0 ≤ y ∧ y ≤ 255) (hF : IsK f) (hinj : ∀ x y : KeyS, xorL x.1 f = xorL y.1 f → x = y) (w : World) (hk : RdK w b n fl) :
    Calls Try.prog 60 #[.slice b n cap, .agg (ints .u8 f)] w fun e w' => ∃ (v : Value) (acc : List KeyS), e = .returned v ∧ acc.Perm (onceK (ksL fl n)) ∧ AscD f acc ∧ w'.ownsRow w.heap.size 32 32 v acc.length ((flatK acc).map (Value.int .u8)) ∧ Below w.heap.size w w' := by
  obtain ⟨i0, z0, hi0, hz0, hs0, hb0, hc0⟩ := keyPartsO
  have Hz := Lib.hid z32_ints
  have KW := Lib.hid hk
  have HI := Lib.hid hinj
  have FK := Lib.hid hF
  have HF := Lib.hid (fun i (hi : i < n) => (⟨keyAt_len hk.1 hi, keyAt_range hf i⟩ : IsK (keyAt fl i)))
  clear hk hf hinj hF
  have z1 : (0 : Int) ≤ (n : Int) := by omega
  have z2 : (n : Int) ≤ 1048576 := by omega
  go_enter Try.func60, Try.ntmps60
  go_wp2_with fail
  have BX := Lib.hid (heap_alloc2_old w (.cells (ints .u8 f) 32) (.cells #[] 32))
  have O1 : ((w.alloc (.cells (ints .u8 f) 32)).alloc (.cells #[] 32)).ownsRow (w.heap.size + 1) 32 32 (.slice (some ⟨w.heap.size + 1, 0, none⟩) 0 0) 0 [] := ⟨rfl, Or.inr ⟨w.heap.size + 1, 0, #[], rfl, by omega, heap_alloc2_new w (.cells (ints .u8 f) 32) (.cells #[] 32), Nat.le_refl _, by unfold maxLen; omega, rfl, rfl⟩⟩
  have OO1 := Lib.hid O1
  have B1 := Lib.hid (show Below w.heap.size w ((w.alloc (.cells (ints .u8 f) 32)).alloc (.cells #[] 32)) by go_grown)
  clear O1
  generalize (w.alloc (.cells (ints .u8 f) 32)).alloc (.cells #[] 32) = w1 at BX OO1 B1 ⊢
  go_loopw [5, 6] (fun o i wr => ∃ (k : Nat) (acc : List KeyS), k ≤ n ∧ i = .int .i64 (k : Int) ∧ Below w.heap.size w wr ∧ wr.heap[w.heap.size]? = some (.cells (ints .u8 f) 32) ∧ wr.ownsRow (w.heap.size + 1) 32 32 o acc.length ((flatK acc).map (Value.int .u8)) ∧ acc.Perm (onceK ((ksL fl n).take k)) ∧ AscD f acc) (fun _ i _ => n - (intOf i).toNat)
  case atStart => exact ⟨0, [], by omega, rfl, B1.out, BX.out, by simpa [flatK] using OO1.out, by simp [onceK], List.Pairwise.nil⟩
  case round =>
    obtain ⟨k, acc, hk, rfl, hb, hbx, hrow, hpm, has⟩ := hrel
    have B2 := Lib.hid hb
    have X2 := Lib.hid hbx
    have RW := Lib.hid hrow
    have PM := Lib.hid hpm
    have AS := Lib.hid has
    clear hb hbx hrow hpm has B1 BX OO1
    by_cases hlt : k < n
    · have b0 : (0 : Int) ≤ (k : Int) := by omega
      have b1 : (k : Int) < (n : Int) := by omega
      obtain ⟨bb, off, rfl⟩ : ∃ bb off, b = some ⟨bb, off, none⟩ := by
        rcases KW.out.2 with h0 | ⟨bb, off, e, _⟩
        · omega
        · exact ⟨bb, off, e⟩
      have KR := Lib.hid (show wr.rangeAt bb (off + k * 32) ((keyAt fl k).map (Value.int .u8)) from by
        obtain ⟨h1, h2⟩ := KW.out.below B2.out
        rcases h2 with h2 | ⟨b', off', e, hlt2, hc⟩
        · omega
        · cases e
          exact keyAt_rangeAt h1 hc k hlt)
      obtain ⟨x, hx⟩ : ∃ x, mkK (keyAt fl k) = x := ⟨_, rfl⟩
      have HT := Lib.hid (show (ksL fl n).take (k + 1) = (ksL fl n).take k ++ [x] by rw [← hx]; exact ksL_take fl hlt)
      have e1 : keyAt fl k = x.1 := by rw [← hx]; exact (mkK_val (HF.out k hlt)).symm
      rw [e1] at KR
      clear hx e1
      have hol := onceK_len _ ((ksL fl n).take k) rfl
      rw [← PM.out.length_eq, List.length_take, ksL_len] at hol
      have PM2 := Lib.hid (show (if x ∈ acc then acc.Perm (onceK ((ksL fl n).take (k + 1))) else (acc ++ [x]).Perm (onceK ((ksL fl n).take (k + 1)))) from by
        by_cases hin : x ∈ acc
        · rw [if_pos hin, HT.out, onceK_in (PM.out.mem_iff.1 hin)]
          exact PM.out
        · rw [if_neg hin, HT.out, onceK_new (fun h => hin (PM.out.mem_iff.2 h))]
          exact PM.out.append_right _)
      clear HT PM
      have HV := Lib.hid x.2
      obtain ⟨V, hV⟩ : ∃ V, x.1 = V := ⟨_, rfl⟩
      have HXV := Lib.hid hV
      rw [hV] at KR HV
      clear hV
      obtain ⟨oa, oc, rfl, hro⟩ := rdkO (by rw [flatK_len]) RW.out
      have hasx := has_spec oa acc.length oc (flatK acc) V (by omega) HV.out.1 wr hro
      have HS := Lib.hid hasx
      clear hasx hro
      by_cases hin : x ∈ acc
      · have PM3 := Lib.hid (show acc.Perm (onceK ((ksL fl n).take (k + 1))) by have := PM2.out; rwa [if_pos hin] at this)
        have hy := hasK_yes hin
        rw [HXV.out] at hy
        rw [hy] at HS
        clear hy hin PM2
        go_wp2_with (first
          | (refine wpList_load_ints rfl 32 _ rfl bb (off + k * 32) rfl .u8 V _ KR.out Try.underlying32 rfl (by rw [HV.out.1]; exact sizeKey) ?_)
          | (go_at_call 95; refine HS.out.mono ?_; rintro e w3 ⟨rfl, hb3⟩))
        go_roundw
        case rel => exact ⟨k + 1, acc, by omega, by go_num, below_call B2.out B2.out.size hb3, keep_block X2.out hb3, owns_below RW.out hb3, PM3.out, AS.out⟩
        case measure => simp [intOf]; omega
      · have PM3 := Lib.hid (show (acc ++ [x]).Perm (onceK ((ksL fl n).take (k + 1))) by have := PM2.out; rwa [if_neg hin] at this)
        have NI := Lib.hid hin
        have hy := hasK_no hin
        rw [HXV.out] at hy
        rw [hy] at HS
        clear hy hin PM2
        go_upto_region 6 with (first
          | (refine wpList_load_ints rfl 32 _ rfl bb (off + k * 32) rfl .u8 V _ KR.out Try.underlying32 rfl (by rw [HV.out.1]; exact sizeKey) ?_)
          | (go_at_call 95; refine HS.out.mono ?_; rintro e w3 ⟨rfl, hb3⟩))
        have B3 := Lib.hid (below_call B2.out B2.out.size hb3)
        have X3 := Lib.hid (keep_block X2.out hb3)
        have R3 := Lib.hid (owns_below RW.out hb3)
        have K3 := Lib.hid (rangeAt_below KR.out hb3)
        clear hb3 KR HS RW X2 B2
        have RA := Lib.hid (R3.out.alloc (.cells (ints .u8 V) 32))
        have BA := Lib.hid (B3.out.alloc B3.out.size (.cells (ints .u8 V) 32))
        have XA := Lib.hid (keep_block X3.out ((Below.refl w3.heap.size w3).alloc (Nat.le_refl _) (.cells (ints .u8 V) 32)))
        have SZ3 := Lib.hid (show w.heap.size + 1 ≤ (w3.alloc (.cells (ints .u8 V) 32)).heap.size from by have := B3.out.size; simp; omega)
        go_wp2_with (first
          | (refine wpList_load_ints rfl 32 _ rfl bb (off + k * 32) rfl .u8 V _ K3.out Try.underlying32 rfl (by rw [HV.out.1]; exact sizeKey) ?_)
          | (refine wpList_buildSlice_one rfl 24 32 _ rfl Try.underlying24 hi0 hz0 (ints .u8 V) rfl (by rw [ints_size, HV.out.1, hs0]) (by rw [hs0]; decide) (by rw [hs0]; decide) ?_)
          | (at_builtin; refine wpList_append_own _ rfl _ _ 24 rfl (w.heap.size + 1) 32 i0 z0 32 32 Try.underlying24 hi0 hz0 hs0 hb0 hc0 (by decide) _ acc.length _ rfl RA.out ⟨w3.heap.size, 0, none⟩ 1 1 (V.map (Value.int .u8)) rfl (by rw [List.length_map, HV.out.1]) ?c1 ?c2 ?c3 ?c4 ?c5 ?_))
        case c1 =>
          intro p u hu
          rw [addrO, Nat.zero_add, cell_of_row _ w3.heap.size p _ _ _ (heap_alloc_last w3 (.cells (ints .u8 V) 32)), ← hu]
          simp [ints]
        case c2 => intro u hu; obtain ⟨z, _, rfl⟩ := List.mem_map.1 hu; rfl
        case c3 => unfold maxLen; omega
        case c4 => omega
        case c5 => exact SZ3.out
        intro v5 w5 hown5 hgrow5 hnil5
        have B5 := Lib.hid (BA.out.grown hgrow5 BA.out.size (fun q hq => by have := (RA.out.lt q hq).1; omega))
        have X5 := Lib.hid ((hgrow5.block w.heap.size (Array.getElem?_eq_some_iff.1 XA.out).1 (fun e => by have := (RA.out.lt _ e.symm).1; omega)).trans XA.out)
        have hle : (acc ++ [x]).length = acc.length + 1 := by simp
        have hown6 : w5.ownsRow (w.heap.size + 1) 32 32 v5 (acc ++ [x]).length ((flatK (acc ++ [x])).map (Value.int .u8)) := by
          rw [hle, flatK_app, List.map_append]
          have : flatK [x] = V := by simp [flatK, HXV.out]
          rw [this]
          exact hown5
        rcases hown6.2 with ⟨_, h0⟩ | ⟨g, c, cur, rfl, hg, hgb, h1, h2, h3, h4⟩
        · omega
        have RS := Lib.hid (RowS.of_cells hgb h3 h1 h4)
        have GB := Lib.hid hg
        have CM := Lib.hid h2
        have GL := Lib.hid (Array.getElem?_eq_some_iff.1 hgb).1
        clear hown5 hown6 hgrow5 hnil5 hg hgb h1 h2 h3 h4 cur RA BA XA SZ3 R3 K3 X3 B3
        rw [hle]
        go_upto_region 8 with fail
        go_loopw [7] (fun i W => ∃ p : Nat, p ≤ acc.length ∧ i = .int .i64 (p : Int) ∧ Below w.heap.size w W ∧ W.heap[w.heap.size]? = some (.cells (ints .u8 f) 32) ∧ RowS W g c (acc.take p ++ x :: acc.drop p) ∧ (∀ y ∈ acc.drop p, LtD f x y) ∧ g < W.heap.size) (fun i _ => (intOf i).toNat)
        case atStart => exact ⟨acc.length, Nat.le_refl _, rfl, B5.out, X5.out, by simpa using RS.out, by simp, GL.out⟩
        case round =>
          obtain ⟨p, hp, rfl, hb, hbx, hrs, hlo, hgl⟩ := hrel
          have B6 := Lib.hid hb
          have X6 := Lib.hid hbx
          have RS6 := Lib.hid hrs
          have LO := Lib.hid hlo
          have GL6 := Lib.hid hgl
          clear hb hbx hrs hlo hgl B5 X5 RS GL
          rcases p with _ | q
          · go_wp2_with fail
            go_quiet (fail)
            have B7 := Lib.hid (below_call B6.out B6.out.size (below_drewN (Below.refl wr.heap.size wr) nq))
            have X7 := Lib.hid (keep_block X6.out (below_drewN (Below.refl wr.heap.size wr) nq))
            have R7 := Lib.hid (RS6.out.below (below_drewN (Below.refl wr.heap.size wr) nq))
            go_wp2_with fail
            go_roundw
            case rel => exact ⟨k + 1, acc.take 0 ++ x :: acc.drop 0, by omega, by go_num, B7.out, X7.out, by rw [ins_len acc x (Nat.zero_le _)]; exact R7.out.owns (ins_len acc x (Nat.zero_le _)).symm GB.out CM.out, (ins_perm acc x 0).trans PM3.out, AS.out.ins FK.out.1 (Nat.zero_le _) LO.out (by simp)⟩
            case measure => simp [intOf]; omega
          · obtain ⟨P, hP⟩ : ∃ P, q + 1 = P := ⟨_, rfl⟩
            have HP := Lib.hid hP
            have hq : q < acc.length := by omega
            have RV := RS6.out.2.2 (q + 1) x (ins_at acc x hp)
            obtain ⟨ya, hya⟩ : ∃ ya : KeyS, acc[q] = ya := ⟨_, rfl⟩
            have RY := RS6.out.2.2 q acc[q] (ins_pre acc x hq)
            rw [hya] at RY
            have YA : Hid (∃ h : q < acc.length, acc[q] = ya) := Lib.hid ⟨hq, hya⟩
            rw [HXV.out, hP] at RV
            have GV := Lib.hid RV
            obtain ⟨Y, hY⟩ : ∃ Y, ya.1 = Y := ⟨_, rfl⟩
            have HY : Hid (IsK Y) := Lib.hid (by rw [← hY]; exact ya.2)
            rw [hY] at RY
            have GY := Lib.hid RY
            have EY := Lib.hid hY
            have HPP := Lib.hid hp
            have q0 : (0 : Int) < (P : Int) := by omega
            have q0' : (0 : Int) ≤ (P : Int) := by omega
            have q1 : (P : Int) < (acc.length : Int) + 1 := by omega
            have q2 : (P : Int) - 1 = (q : Int) := by omega
            have q3 : (0 : Int) ≤ (q : Int) := by omega
            have q4 : (q : Int) < (acc.length : Int) + 1 := by omega
            have q5 : (acc.length : Int) ≤ 1048576 := by omega
            have qw : IntKind.i64.wrap (q : Int) = (q : Int) := IntWalk.i64_in _ ⟨by omega, by omega⟩
            rw [hP]
            clear RV RY hY hP hya hq hp
            go_wp2_with fail
            refine wp_region_class (C := Below (wr).heap.size (wr)) (by kernel_rfl) (by kernel_rfl) ((Below.refl _ _).drew) ?_
            refine wq_take (v := .int .i64 (P : Int)) (Or.inl ⟨by kernel_rfl, fun W hW => by go_simp <;> omega⟩) ?_
            simp only [Act.put, List.setIfInBounds_toArray, List.set_cons_succ, List.set_cons_zero]
            refine wq_take (v := .bool true) (Or.inl ⟨by kernel_rfl, fun W hW => by go_simp <;> omega⟩) ?_
            simp only [Act.put, List.setIfInBounds_toArray, List.set_cons_succ, List.set_cons_zero]
            refine wq_take (v := .bool true) (Or.inl ⟨by kernel_rfl, fun W hW => by go_simp <;> omega⟩) ?_
            simp only [Act.put, List.setIfInBounds_toArray, List.set_cons_succ, List.set_cons_zero]
            refine wq_take (v := .slice (some ⟨g, 0, none⟩) (acc.length + 1) c) (Or.inl ⟨by kernel_rfl, fun W hW => by go_simp <;> omega⟩) ?_
            simp only [Act.put, List.setIfInBounds_toArray, List.set_cons_succ, List.set_cons_zero]
            refine wq_take (v := .int .i64 (P : Int)) (Or.inl ⟨by kernel_rfl, fun W hW => by go_simp <;> omega⟩) ?_
            simp only [Act.put, List.setIfInBounds_toArray, List.set_cons_succ, List.set_cons_zero]
            refine wq_take (v := .pointer (some ⟨g, P * 32, none⟩)) (Or.inl ⟨by kernel_rfl, fun W hW => by go_simp <;> omega⟩) ?_
            simp only [Act.put, List.setIfInBounds_toArray, List.set_cons_succ, List.set_cons_zero]
            refine wq_take (v := .agg (ints .u8 V)) (yieldsIf_load_mid (by kernel_rfl) 32 _ rfl g (P * 32) rfl (V.map (Value.int .u8)) _ (fun W hW => rangeAt_below GV.out hW) Try.underlying32 rfl (by rw [List.length_map, HV.out.1]; exact sizeKey)) ?_
            simp only [Act.put, List.setIfInBounds_toArray, List.set_cons_succ, List.set_cons_zero]
            refine wq_take (v := .agg (ints .u8 f)) (yields_box (by kernel_rfl) 32 _ rfl w.heap.size rfl _ 32 _ X6.out Try.underlying32 rfl (by rw [ints_size, FK.out.1]; exact sizeKey)) ?_
            simp only [Act.put, List.setIfInBounds_toArray, List.set_cons_succ, List.set_cons_zero]
            refine wq_call (v := .agg (ints .u8 (xorL V f))) (f := 97) (args := #[.agg (ints .u8 V), .agg (ints .u8 f)]) (by kernel_rfl) (fun W => by go_simp) (fun W hW => (xor_spec0 V f HV.out.1 FK.out.1 W).mono (fun e w'' h => ⟨h.1, below_call hW hW.size h.2⟩)) ?_
            simp only [Act.put, List.setIfInBounds_toArray, List.set_cons_succ, List.set_cons_zero]
            refine wq_take (v := .slice (some ⟨g, 0, none⟩) (acc.length + 1) c) (Or.inl ⟨by kernel_rfl, fun W hW => by go_simp <;> omega⟩) ?_
            simp only [Act.put, List.setIfInBounds_toArray, List.set_cons_succ, List.set_cons_zero]
            refine wq_take (v := .int .i64 (P : Int)) (Or.inl ⟨by kernel_rfl, fun W hW => by go_simp <;> omega⟩) ?_
            simp only [Act.put, List.setIfInBounds_toArray, List.set_cons_succ, List.set_cons_zero]
            refine wq_take (v := .int .i64 (q : Int)) (Or.inl ⟨by kernel_rfl, fun W hW => by go_simp <;> omega⟩) ?_
            simp only [Act.put, List.setIfInBounds_toArray, List.set_cons_succ, List.set_cons_zero]
            refine wq_take (v := .pointer (some ⟨g, q * 32, none⟩)) (Or.inl ⟨by kernel_rfl, fun W hW => by go_simp <;> omega⟩) ?_
            simp only [Act.put, List.setIfInBounds_toArray, List.set_cons_succ, List.set_cons_zero]
            refine wq_take (v := .agg (ints .u8 Y)) (yieldsIf_load_mid (by kernel_rfl) 32 _ rfl g (q * 32) rfl (Y.map (Value.int .u8)) _ (fun W hW => rangeAt_below GY.out hW) Try.underlying32 rfl (by rw [List.length_map, HY.out.1]; exact sizeKey)) ?_
            simp only [Act.put, List.setIfInBounds_toArray, List.set_cons_succ, List.set_cons_zero]
            refine wq_take (v := .agg (ints .u8 f)) (yields_box (by kernel_rfl) 32 _ rfl w.heap.size rfl _ 32 _ X6.out Try.underlying32 rfl (by rw [ints_size, FK.out.1]; exact sizeKey)) ?_
            simp only [Act.put, List.setIfInBounds_toArray, List.set_cons_succ, List.set_cons_zero]
            refine wq_call (v := .agg (ints .u8 (xorL Y f))) (f := 97) (args := #[.agg (ints .u8 Y), .agg (ints .u8 f)]) (by kernel_rfl) (fun W => by go_simp) (fun W hW => (xor_spec0 Y f HY.out.1 FK.out.1 W).mono (fun e w'' h => ⟨h.1, below_call hW hW.size h.2⟩)) ?_
            simp only [Act.put, List.setIfInBounds_toArray, List.set_cons_succ, List.set_cons_zero]
            refine wq_call (v := .int .i64 (cmpI (xorL V f) (xorL Y f))) (f := 96) (args := #[.agg (ints .u8 (xorL V f)), .agg (ints .u8 (xorL Y f))]) (by kernel_rfl) (fun W => by go_simp) (fun W hW => (cmp_spec0 (xorL V f) (xorL Y f) (xorL_len HV.out.1 FK.out.1) (xorL_len HY.out.1 FK.out.1) W).mono (fun e w'' h => ⟨h.1, below_call hW hW.size h.2⟩)) ?_
            simp only [Act.put, List.setIfInBounds_toArray, List.set_cons_succ, List.set_cons_zero]
            refine wq_take (v := .bool (decide (cmpI (xorL V f) (xorL Y f) < 0))) (Or.inl ⟨by kernel_rfl, fun W hW => by go_simp <;> omega⟩) ?_
            simp only [Act.put, List.setIfInBounds_toArray, List.set_cons_succ, List.set_cons_zero]
            refine wq_take (v := .bool (decide (cmpI (xorL V f) (xorL Y f) < 0))) (Or.inl ⟨by kernel_rfl, fun W hW => by go_simp <;> omega⟩) ?_
            simp only [Act.put, List.setIfInBounds_toArray, List.set_cons_succ, List.set_cons_zero]
            refine wpQuiet_nil ?_
            intro W hW
            have B7 := Lib.hid (below_call B6.out B6.out.size hW)
            have X7 := Lib.hid (keep_block X6.out hW)
            have R7 := Lib.hid (RS6.out.below hW)
            have SZ7 := Lib.hid (show g < W.heap.size from Nat.lt_of_lt_of_le GL6.out hW.size)
            have GV7 := Lib.hid (rangeAt_below GV.out hW)
            have GY7 := Lib.hid (rangeAt_below GY.out hW)
            clear hW
            by_cases hc : cmpI (xorL V f) (xorL Y f) < 0
            · rw [decide_eq_true hc]
              have LO2 : Hid (∀ y ∈ acc.drop q, LtD f x y) := Lib.hid (fun y hy => by
                obtain ⟨hq, e⟩ := YA.out
                rw [List.drop_eq_getElem_cons hq] at hy
                rcases List.mem_cons.1 hy with e2 | hy
                · rw [e2, e]
                  unfold LtD
                  rw [HXV.out, EY.out]
                  exact hc
                · exact LO.out y hy)
              clear hc
              have LB := layBO W (ints .u8 z32) (ints .u8 V) 32
              have B8 := Lib.hid (below_call B7.out B7.out.size LB)
              have X8 := Lib.hid (keep_block X7.out LB)
              have R8 := Lib.hid (R7.out.below LB)
              have GY8 := Lib.hid (rangeAt_below GY7.out LB)
              have N8 := Lib.hid (layNO W (ints .u8 z32) (ints .u8 V) 32)
              clear LB
              go_upto_region 11 with (first
                | (refine wpList_load_ints rfl 32 _ rfl g (P * 32) rfl .u8 V _ GV7.out Try.underlying32 rfl (by rw [HV.out.1]; exact sizeKey) ?_)
                | (refine wpList_store_row rfl 32 (.tmp 8) _ rfl W.heap.size (ints .u8 V) rfl rfl 32 (ints .u8 z32) (by rw [Hz.out]; exact heap_alloc_last _ _) (by rw [ints_size, HV.out.1]; exact sizeKey) (by rw [ints_size, ints_size, HV.out.1, (show z32.length = 32 from rfl)]) (ints_one _ _) ?_))
              rw [← Hz.out]
              generalize (W.alloc (.cells (ints .u8 z32) 32)).setRow W.heap.size (ints .u8 V) = W3 at B8 X8 R8 GY8 N8 ⊢
              have NE := Lib.hid (show W.heap.size ≠ g from fun e => by have := SZ7.out; omega)
              generalize W.heap.size = gN at N8 NE ⊢
              have R9 : Hid (RowS (W3.setCells g (P * 32) (Y.map (Value.int .u8))) g c ((acc.take (q + 1) ++ x :: acc.drop (q + 1)).set (q + 1) ya)) := Lib.hid (by
                rw [← HP.out, ← EY.out]
                exact R8.out.set (p := q + 1) (by rw [ins_len acc x HPP.out]; have := HPP.out; omega) ya)
              have B9 := Lib.hid (below_setCells_k (Nat.le_of_succ_le GB.out) (Y.map (Value.int .u8)) (P * 32) W3 B8.out)
              have X9 := Lib.hid ((heap_setCells_far (show w.heap.size ≠ g from fun e => by have := GB.out; omega) (Y.map (Value.int .u8)) (P * 32) W3).trans X8.out)
              have N9 := Lib.hid ((heap_setCells_far NE.out (Y.map (Value.int .u8)) (P * 32) W3).trans N8.out)
              go_upto_region 12 with (first
                | (refine wpList_load_ints rfl 32 _ rfl g (q * 32) rfl .u8 Y _ GY8.out Try.underlying32 rfl (by rw [HY.out.1]; exact sizeKey) ?_)
                | (refine wpList_store_ints rfl 32 _ _ rfl g (P * 32) .u8 Y rfl rfl (by rw [HY.out.1, ← HP.out]; exact R8.out.there (by rw [ins_len acc x HPP.out]; have := HPP.out; omega)) (by rw [HY.out.1]; exact sizeKey) ?_))
              generalize W3.setCells g (P * 32) (Y.map (Value.int .u8)) = W4 at R9 B9 X9 N9 ⊢
              have R10 : Hid (RowS (W4.setCells g (q * 32) (V.map (Value.int .u8))) g c (acc.take q ++ x :: acc.drop q)) := Lib.hid (by
                obtain ⟨hq, e⟩ := YA.out
                have := R9.out.set (p := q) (by rw [List.length_set, ins_len acc x HPP.out]; omega) x
                rw [← e, ins_swap acc x hq, HXV.out] at this
                exact this)
              have B10 := Lib.hid (below_setCells_k (Nat.le_of_succ_le GB.out) (V.map (Value.int .u8)) (q * 32) W4 B9.out)
              have X10 := Lib.hid ((heap_setCells_far (show w.heap.size ≠ g from fun e => by have := GB.out; omega) (V.map (Value.int .u8)) (q * 32) W4).trans X9.out)
              go_wp2_with (first
                | (refine wpList_load_row rfl 32 _ rfl gN rfl 32 (ints .u8 V) (0, 0) _ N9.out Try.underlying32 rfl (by rw [ints_size, HV.out.1]; exact sizeKey) ?_)
                | (refine wpList_store_ints rfl 32 _ _ rfl g (q * 32) .u8 V rfl rfl (by rw [HV.out.1]; exact R9.out.there (by rw [List.length_set, ins_len acc x HPP.out]; have := HPP.out; omega)) (by rw [HV.out.1]; exact sizeKey) ?_))
              go_roundw
              case rel => exact ⟨q, by have := HPP.out; omega, by go_num, B10.out, X10.out, R10.out, LO2.out, (by obtain ⟨⟨cur, h1, _⟩, _⟩ := R10.out; exact (Array.getElem?_eq_some_iff.1 h1).1)⟩
              case measure => simp [intOf]; omega
            · rw [decide_eq_false hc]
              have LW : Hid (∀ y ∈ acc.take (q + 1), LtD f y x) := Lib.hid (by
                obtain ⟨hq, e⟩ := YA.out
                refine AS.out.lower FK.out.1 hq (LtD.of_not FK.out.1 HI.out (fun e2 => NI.out (e2 ▸ List.getElem_mem hq)) ?_)
                unfold LtD
                rw [e, HXV.out, EY.out]
                exact hc)
              clear hc
              go_wp2_with fail
              go_roundw
              case rel => exact ⟨k + 1, acc.take (q + 1) ++ x :: acc.drop (q + 1), by omega, by go_num, B7.out, X7.out, by rw [ins_len acc x HPP.out]; exact R7.out.owns (ins_len acc x HPP.out).symm GB.out CM.out, (ins_perm acc x (q + 1)).trans PM3.out, AS.out.ins FK.out.1 HPP.out LO.out LW.out⟩
              case measure => simp [intOf]; omega
    · obtain rfl : k = n := by omega
      have hall : (ksL fl k).take k = ksL fl k := List.take_of_length_le (by rw [ksL_len]; omega)
      rw [hall] at PM
      go_wp2_with fail
      go_ret
      exact ⟨_, acc, rfl, PM.out, AS.out, row_monoO RW.out (by omega), B2.out⟩
end Go.Proofs.Ytdoelmjaongjfab
