/- Keys each once, and in order, by the program. Written by hand. -/
import Derived.Test.YtdoelmjaongjfabSrK
import Derived.Test.YtdoelmjaongjfabEq
import Derived.Test.YtdoelmjaongjfabKeys
import Derived.Test.YtdoelmjaongjfabFill
import Derived.Laws.AppendOwn
namespace Go.Proofs.Ytdoelmjaongjfab
open Go.ChangeShapes Go.WideShapes Go.ChangeAt Go.RowKit
set_option linter.unusedVariables false
set_option linter.unusedSimpArgs false
open Go.Sort Go.Shelf
theorem layBO (w : World) (old new : Array Value) (t : TypeId) : Below w.heap.size w ((w.alloc (.cells old t)).setRow w.heap.size new) := Below.setRow ((Below.refl _ _).alloc (Nat.le_refl _) _) (Nat.le_refl _) _
theorem layNO (w : World) (old new : Array Value) (t : TypeId) : ((w.alloc (.cells old t)).setRow w.heap.size new).heap[w.heap.size]? = some (.cells new t) := setRow_heap _ _ old new _ _ (heap_alloc_last w (.cells old t))
theorem ktyO : KeyTy Try.prog 32 5 := ⟨Try.underlying32, Try.underlying5, by kernel_rfl, by kernel_rfl, by kernel_rfl, of_decide_eq_true (by kernel_rfl), Go.Maps.Keyed.of_law (deep_law_laid laidOut (m := 2) (by omega) (of_decide_eq_true (by kernel_rfl)) (by kernel_rfl) (by kernel_rfl))⟩
theorem seenTy : Try.prog.underlying 116 = some (.map 32 4) := Try.underlying116
theorem run_makeSeen (n : Int) (w : World) : (Instr.makeMap 116 (some (.int .i64 n))).run Try.prog w = .ok (.map (some w.heap.size)) (w.alloc (.map #[] 0)) := by
  simp [Instr.makeMap, run_underlying seenTy, asInt, asIntOf, Result.andThen]
theorem zeroBInfo : (Try.prog.info? 4).map (·.zero) = some (some (.bool false)) := by kernel_rfl
theorem zeroB (w : World) : (zeroValue 4).run Try.prog w = .ok (.bool false) w := by
  obtain ⟨i, hi, hz⟩ := Option.map_eq_some_iff.1 zeroBInfo
  simp [zeroValue, typeInfo, hi, hz]
open Classical in
noncomputable def mkK (l : List Int) : KeyS := if h : IsK l then ⟨l, h⟩ else default
theorem mkK_val {l : List Int} (h : IsK l) : (mkK l).1 = l := congrArg Subtype.val (show mkK l = ⟨l, h⟩ from dif_pos h)
theorem mkK_of (x : KeyS) : mkK x.1 = x := by unfold mkK; exact dif_pos x.2
/-- The keys of a list. -/
noncomputable def ksL (fl : List Int) (n : Nat) : List KeyS := (List.range n).map fun i => mkK (keyAt fl i)
theorem ksL_len (fl : List Int) (n : Nat) : (ksL fl n).length = n := by simp [ksL]
theorem ksL_at (fl : List Int) {n i : Nat} (h : i < n) : (ksL fl n)[i]? = some (mkK (keyAt fl i)) := by simp [ksL, h]
theorem ksL_take (fl : List Int) {n k : Nat} (h : k < n) : (ksL fl n).take (k + 1) = (ksL fl n).take k ++ [mkK (keyAt fl k)] := by
  rw [List.take_add_one, ksL_at fl h]
  rfl
open Classical in
noncomputable def onceK (ks : List KeyS) : List KeyS := ks.foldl (fun acc k => if k ∈ acc then acc else acc ++ [k]) []
open Classical in
theorem onceK_snoc (ks : List KeyS) (k : KeyS) : onceK (ks ++ [k]) = if k ∈ onceK ks then onceK ks else onceK ks ++ [k] := by
  unfold onceK
  rw [List.foldl_append]
  rfl
theorem onceK_in {ks : List KeyS} {k : KeyS} (h : k ∈ onceK ks) : onceK (ks ++ [k]) = onceK ks := by rw [onceK_snoc, if_pos h]
theorem onceK_new {ks : List KeyS} {k : KeyS} (h : k ∉ onceK ks) : onceK (ks ++ [k]) = onceK ks ++ [k] := by rw [onceK_snoc, if_neg h]
theorem onceK_len : ∀ (m : Nat) (ks : List KeyS), ks.length = m → (onceK ks).length ≤ m
  | 0, ks, h => by
    rw [List.eq_nil_of_length_eq_zero h]
    simp [onceK]
  | m + 1, ks, h => by
    have hne : ks ≠ [] := fun e => by rw [e] at h; simp at h
    rw [← List.dropLast_concat_getLast hne]
    have ih := onceK_len m ks.dropLast (by rw [List.length_dropLast, h]; rfl)
    by_cases hm : ks.getLast hne ∈ onceK ks.dropLast
    · rw [onceK_in hm]; omega
    · rw [onceK_new hm, List.length_append]; simp; omega
theorem onceK_nodup : ∀ (m : Nat) (ks : List KeyS), ks.length = m → (onceK ks).Nodup
  | 0, ks, h => by
    rw [List.eq_nil_of_length_eq_zero h]
    simp [onceK]
  | m + 1, ks, h => by
    have hne : ks ≠ [] := fun e => by rw [e] at h; simp at h
    rw [← List.dropLast_concat_getLast hne]
    have ih := onceK_nodup m ks.dropLast (by rw [List.length_dropLast, h]; rfl)
    by_cases hm : ks.getLast hne ∈ onceK ks.dropLast
    · rw [onceK_in hm]; exact ih
    · rw [onceK_new hm]
      refine List.nodup_append.2 ⟨ih, by simp, fun a ha b hb e => ?_⟩
      simp at hb
      subst hb
      subst e
      exact hm ha
open Classical in
/-- What the map has seen. -/
def SeenP (ps : List (List Int × Value)) (acc : List KeyS) : Prop := ∀ (k : KeyS), getK ps k.1 = (if k ∈ acc then some (.bool true) else none)
theorem SeenP.start : SeenP [] [] := fun k => by simp [getK]
theorem getK_put {ps : List (List Int × Value)} {k : List Int} {v : Value} (h : getK ps k = none) (j : List Int) : getK (putK ps k v) j = if j = k then some v else getK ps j := by
  rw [putK_new (getK_none.1 h)]
  unfold getK
  rw [List.find?_append]
  by_cases e : j = k
  · subst e
    have h2 := getK_none.1 h
    have : ps.find? (fun p => p.1 == j) = none := List.find?_eq_none.2 (fun p hp => by simpa using h2 p hp)
    rw [this]
    simp
  · rw [if_neg e]
    cases hf : ps.find? (fun p => p.1 == j) with
    | some p => rfl
    | none =>
      have hb : (k == j) = false := beq_eq_false_iff_ne.2 (fun e2 => e e2.symm)
      simp [hb]
open Classical in
theorem SeenP.yes {ps : List (List Int × Value)} {acc : List KeyS} (h : SeenP ps acc) {k : KeyS} (hk : k ∈ acc) : getK ps k.1 = some (.bool true) := by rw [h k, if_pos hk]
open Classical in
theorem SeenP.no {ps : List (List Int × Value)} {acc : List KeyS} (h : SeenP ps acc) {k : KeyS} (hk : k ∉ acc) : getK ps k.1 = none := by rw [h k, if_neg hk]
open Classical in
theorem SeenP.step {ps : List (List Int × Value)} {acc : List KeyS} (h : SeenP ps acc) {k : KeyS} (hk : k ∉ acc) : SeenP (putK ps k.1 (.bool true)) (acc ++ [k]) := fun j => by
  rw [getK_put (h.no hk)]
  by_cases e : j = k
  · subst e
    simp
  · have e2 : ¬ j.1 = k.1 := fun q => e (Subtype.ext q)
    rw [if_neg e2, h j]
    simp [e]
theorem keyPartsO : ∃ (i : TypeInfo) (z : Value), Try.prog.info? 32 = some i ∧ i.zero = some z ∧ i.size = 32 ∧ i.bytes = 32 ∧ z.cells.size = 32 := by
  have h : (Try.prog.info? 32).map (fun i => (i.zero.map (·.cells.size), i.size, i.bytes)) = some (some 32, 32, 32) := by kernel_rfl
  obtain ⟨i, hi, hz⟩ := Option.map_eq_some_iff.1 h
  simp only [Prod.mk.injEq] at hz
  obtain ⟨h1, h2, h3⟩ := hz
  obtain ⟨z, hz0, hzc⟩ := Option.map_eq_some_iff.1 h1
  exact ⟨i, z, hi, hz0, h2, h3, hzc⟩
theorem run_make_room (n : Nat) (hn : n ≤ 1048576) (w : World) : ∃ cs : Array Value, cs.size = n * 32 ∧
    (Instr.makeSlice 24 (.int .i64 0) (.int .i64 (n : Int))).run Try.prog w = .ok (.slice (some ⟨w.heap.size, 0, none⟩) 0 n) (w.alloc (.cells cs 32)) := by
  obtain ⟨i, z, hi, hz, hs, hb, hc⟩ := keyPartsO
  have := run_make w 24 32 i z Try.underlying24 hi hz .i64 .i64 (0 : Int) (n : Int) (by omega) (by omega) (by rw [hb]; omega) (by omega)
  refine ⟨_, ?_, this⟩
  rw [size_madeCells, hs]
  simp
theorem wpList_buildSlice_one {P : Program} {ops : Array Oper} {rest : List Oper} {op : Oper} {a : Act} {w : World} {Q : Exit → Act → World → Prop} (hgd : op.guard = none) (t e : TypeId) (x : Operand) (ho : op.op = .buildSlice t 1 #[(0, x)])
    {i : TypeInfo} {z : Value} (hu : P.underlying t = some (.slice e)) (hi : P.info? e = some i) (hz : i.zero = some z) (v : Array Value) (hx : a.eval x = .agg v) (hs : v.size = i.size) (hb : i.size ≤ 2 ^ 24) (h0 : 0 < i.size)
    (h : wpList P ops Q rest (a.put op.dst (.slice (some ⟨w.heap.size, 0, none⟩) 1 1)) (w.alloc (.cells v e))) : wpList P ops Q (op :: rest) a w :=
  wpList_plain hgd fun K hK => by
    unfold Oper.wp execOp
    simp only [ho, List.map_toArray, List.map_cons, List.map_nil, hx, Sem.run_bind, Sem.run_pure, Result.andThen_ok, run_buildSlice_one hu hi hz v hs hb h0]
    exact hK _ _ h
theorem addrO (b o j : Nat) : (⟨b, o, none⟩ : Addr).add j = ⟨b, o + j, none⟩ := by by_cases h : j = 0 <;> simp [Addr.add, h]
theorem flatK_app (a b : List KeyS) : flatK (a ++ b) = flatK a ++ flatK b := by simp [flatK]
set_option maxRecDepth 100000 in
set_option maxHeartbeats 8000000 in
theorem once_impl (b : Option Addr) (n cap : Nat) (fl : List Int) (hn : n ≤ 1048576) (hf : ∀ y ∈ fl, 0 ≤ y ∧ y ≤ 255) (w : World) (hk : RdK w b n fl) :
    Calls Try.prog 65 #[.slice b n cap] w fun e w' => ∃ v, e = .returned v ∧ w'.ownsRow w.heap.size 32 32 v (onceK (ksL fl n)).length ((flatK (onceK (ksL fl n))).map (Value.int .u8)) ∧ Below w.heap.size w w' := by
  obtain ⟨i0, z0, hi0, hz0, hs0, hb0, hc0⟩ := keyPartsO
  have Hz := Lib.hid z32_ints
  have KW := Lib.hid hk
  have HF := Lib.hid (fun i (hi : i < n) => (⟨keyAt_len hk.1 hi, keyAt_range hf i⟩ : IsK (keyAt fl i)))
  clear hk hf
  have z1 : (0 : Int) ≤ (n : Int) := by omega
  have z2 : (n : Int) ≤ 1048576 := by omega
  have hmk := fun U => run_makeSeen (n : Int) U
  obtain ⟨cs, hcs, hms⟩ := run_make_room n hn (w.alloc (.map #[] 0))
  have CS := Lib.hid hcs
  have M0 := Lib.hid (KMap.made (P := Try.prog) (K := 32) w)
  go_enter Try.func65, Try.ntmps65
  go_wp2_with fail
  clear hmk hms
  have LA := (Below.refl (w.alloc (.map #[] 0)).heap.size (w.alloc (.map #[] 0))).alloc (Nat.le_refl _) (.cells cs 32)
  have B1 := Lib.hid (show Below w.heap.size w ((w.alloc (.map #[] 0)).alloc (.cells cs 32)) by go_grown)
  have M1 := Lib.hid (M0.out.later LA)
  have O1 : ((w.alloc (.map #[] 0)).alloc (.cells cs 32)).ownsRow w.heap.size 32 32 (.slice (some ⟨w.heap.size + 1, 0, none⟩) 0 n) 0 [] := ⟨rfl, Or.inr ⟨w.heap.size + 1, n, cs, rfl, by omega, by rw [← World.size_alloc w (.map #[] 0)]; exact heap_alloc_last _ _, Nat.zero_le _, by unfold maxLen; omega, by rw [CS.out], rfl⟩⟩
  have OO1 := Lib.hid O1
  clear LA O1 M0
  generalize (w.alloc (.map #[] 0)).alloc (.cells cs 32) = w1 at B1 M1 OO1 ⊢
  obtain ⟨m, hm⟩ : ∃ m, w.heap.size = m := ⟨_, rfl⟩
  have HM := Lib.hid hm
  go_loopw [4, 15] (fun o i wr => ∃ (k : Nat) (ps : List (List Int × Value)), k ≤ n ∧ i = .int .i64 (k : Int) ∧ Below w.heap.size w wr ∧ KMap Try.prog 32 wr w.heap.size ps ∧ ps.length ≤ k ∧ SeenP ps (onceK ((ksL fl n).take k)) ∧ wr.ownsRow w.heap.size 32 32 o (onceK ((ksL fl n).take k)).length ((flatK (onceK ((ksL fl n).take k))).map (Value.int .u8))) (fun _ i _ => n - (intOf i).toNat)
  case atStart => exact ⟨0, [], by omega, rfl, B1.out, M1.out, Nat.le_refl _, by simpa [onceK] using SeenP.start, by simpa [onceK, flatK] using OO1.out⟩
  case round =>
    obtain ⟨k, ps, hk, rfl, hb, hKM, hpl, hsn, hrow⟩ := hrel
    have B2 := Lib.hid hb
    have M2 := Lib.hid hKM
    have PL := Lib.hid hpl
    have SN := Lib.hid hsn
    have RW := Lib.hid hrow
    clear hb hKM hpl hsn hrow B1 M1 OO1 hm
    by_cases hlt : k < n
    · have b0 : (0 : Int) ≤ (k : Int) := by omega
      have b1 : (k : Int) < (n : Int) := by omega
      obtain ⟨bb, off, rfl⟩ : ∃ bb off, b = some ⟨bb, off, none⟩ := by
        rcases KW.out.2 with h0 | ⟨bb, off, e, _⟩
        · omega
        · exact ⟨bb, off, e⟩
      have KR := Lib.hid (show wr.rangeAt bb (off + k * 32) ((keyAt fl k).map (Value.int .u8)) from by
        obtain ⟨h1, h2⟩ := KW.out.below B2.out
        rcases h2 with h2 | ⟨b', off', e, hlt2, hc⟩
        · omega
        · cases e
          exact keyAt_rangeAt h1 hc k hlt)
      obtain ⟨V, hV⟩ : ∃ V, keyAt fl k = V := ⟨_, rfl⟩
      have VK := Lib.hid (show IsK V by rw [← hV]; exact HF.out k hlt)
      have HT := Lib.hid (show (ksL fl n).take (k + 1) = (ksL fl n).take k ++ [mkK V] by rw [← hV]; exact ksL_take fl hlt)
      have MV := Lib.hid (mkK_val VK.out)
      rw [hV] at KR
      clear hV
      have hol := onceK_len _ ((ksL fl n).take k) rfl
      rw [List.length_take, ksL_len] at hol
      obtain ⟨acc, hacc⟩ : ∃ acc, onceK ((ksL fl n).take k) = acc := ⟨_, rfl⟩
      rw [hacc] at SN RW hol
      have HACC := Lib.hid hacc
      clear hacc
      have LB := layBO wr (ints .u8 z32) (ints .u8 V) 32
      have B3 := Lib.hid (below_call B2.out B2.out.size LB)
      have M3 := Lib.hid (M2.out.later LB)
      have R3 := Lib.hid (owns_below RW.out LB)
      have N3 := Lib.hid (layNO wr (ints .u8 z32) (ints .u8 V) 32)
      clear LB
      go_upto_region 6 with (first
        | (refine wpList_load_ints rfl 32 (.tmp 17) rfl bb (off + k * 32) rfl .u8 V _ KR.out Try.underlying32 rfl (by rw [VK.out.1]; exact sizeKey) ?_)
        | (refine wpList_store_row rfl 32 (.tmp 6) _ rfl wr.heap.size (ints .u8 V) rfl rfl 32 (ints .u8 z32) (by rw [Hz.out]; exact heap_alloc_last _ _) (by rw [ints_size, VK.out.1]; exact sizeKey) (by rw [ints_size, ints_size, VK.out.1, (show z32.length = 32 from rfl)]) (ints_one _ _) ?_))
      rw [← Hz.out]
      generalize (wr.alloc (.cells (ints .u8 z32) 32)).setRow wr.heap.size (ints .u8 V) = w3 at B3 M3 R3 N3 ⊢
      have SZ := Lib.hid (show w.heap.size ≤ wr.heap.size from B2.out.size)
      generalize wr.heap.size = gN at N3 SZ ⊢
      have hlk := M3.out.look false ktyO seenTy (zeroB w3) VK.out
      by_cases hin : mkK V ∈ acc
      · have hg := SN.out.yes hin
        rw [MV.out] at hg
        rw [hg] at hlk
        replace hlk : (Instr.lookup 116 (.map (some w.heap.size)) (.agg (ints .u8 V)) false).run Try.prog w3 = .ok (.bool true) w3 := hlk
        have HO := Lib.hid (show onceK ((ksL fl n).take (k + 1)) = acc by rw [HT.out, onceK_in (by rw [HACC.out]; exact hin), HACC.out])
        clear hin hg
        go_wp2_with (refine wpList_load_row rfl 32 _ rfl gN rfl 32 (ints .u8 V) (0, 0) _ N3.out Try.underlying32 rfl (by rw [ints_size, VK.out.1]; exact sizeKey) ?_)
        go_roundw
        case rel => exact ⟨k + 1, ps, by omega, by go_num, B3.out, M3.out, by have := PL.out; omega, by rw [HO.out]; exact SN.out, by rw [HO.out]; exact R3.out⟩
        case measure => simp [intOf]; omega
      · have hg := SN.out.no hin
        rw [MV.out] at hg
        rw [hg] at hlk
        replace hlk : (Instr.lookup 116 (.map (some w.heap.size)) (.agg (ints .u8 V)) false).run Try.prog w3 = .ok (.bool false) w3 := hlk
        have HO := Lib.hid (show onceK ((ksL fl n).take (k + 1)) = acc ++ [mkK V] by rw [HT.out, onceK_new (by rw [HACC.out]; exact hin), HACC.out])
        have hst := SN.out.step hin
        rw [MV.out] at hst
        have ST := Lib.hid hst
        obtain ⟨w4, hrun, hK4, hg4, hz4⟩ := M3.out.put ktyO seenTy (by have := PL.out; unfold maxLen; omega) VK.out (.bool true)
        replace hrun : (Instr.mapUpdate 116 (.map (some w.heap.size)) (.agg (ints .u8 V)) (.bool true)).run Try.prog w3 = .ok () w4 := hrun
        have B4 := Lib.hid (B3.out.grown hg4 B3.out.size (fun q hq => by cases hq; exact Nat.le_refl _))
        have N4 := Lib.hid ((hg4.block gN (Array.getElem?_eq_some_iff.1 N3.out).1 (fun e => by
          obtain ⟨es, clock, hbm, _⟩ := M3.out
          have e2 : gN = w.heap.size := by cases e; rfl
          have := N3.out
          rw [e2, hbm] at this
          cases this)).trans N3.out)
        have R4 := Lib.hid (R3.out.kept hg4 (by
          rcases R3.out.2 with ⟨h0, _⟩ | ⟨g, cap, cur, hv, _, hh, _⟩
          · exact Or.inl (by rw [h0]; rfl)
          · refine Or.inr (fun e => ?_)
            obtain ⟨es, clock, hbm, _⟩ := M3.out
            rw [hv] at e
            have e2 : g = w.heap.size := by simpa [Value.ownBlock] using e
            rw [e2, hbm] at hh
            cases hh))
        have K4 := Lib.hid hK4
        have PL4 := Lib.hid (show (putK ps V (.bool true)).length ≤ k + 1 by rw [putK_new (getK_none.1 hg)]; simp; exact PL.out)
        clear hin hg hst hK4 hg4 hz4
        go_upto_region 8 with (refine wpList_load_row rfl 32 _ rfl gN rfl 32 (ints .u8 V) (0, 0) _ N3.out Try.underlying32 rfl (by rw [ints_size, VK.out.1]; exact sizeKey) ?_)
        clear hrun hlk
        have RA := Lib.hid (R4.out.alloc (.cells (ints .u8 V) 32))
        have BA := Lib.hid (B4.out.alloc B4.out.size (.cells (ints .u8 V) 32))
        have KA := Lib.hid (K4.out.later ((Below.refl w4.heap.size w4).alloc (Nat.le_refl _) (.cells (ints .u8 V) 32)))
        go_wp2_with (first
          | (refine wpList_load_row rfl 32 _ rfl gN rfl 32 (ints .u8 V) (0, 0) _ N4.out Try.underlying32 rfl (by rw [ints_size, VK.out.1]; exact sizeKey) ?_)
          | (refine wpList_buildSlice_one rfl 24 32 _ rfl Try.underlying24 hi0 hz0 (ints .u8 V) rfl (by rw [ints_size, VK.out.1, hs0]) (by rw [hs0]; decide) (by rw [hs0]; decide) ?_)
          | (at_builtin; refine wpList_append_own _ rfl _ _ 24 rfl w.heap.size 32 i0 z0 32 32 Try.underlying24 hi0 hz0 hs0 hb0 hc0 (by decide) _ acc.length _ rfl RA.out ⟨w4.heap.size, 0, none⟩ 1 1 (V.map (Value.int .u8)) rfl (by rw [List.length_map, VK.out.1]) ?c1 ?c2 ?c3 ?c4 ?c5 ?_))
        case c1 =>
          intro p u hu
          rw [addrO, Nat.zero_add, cell_of_row _ w4.heap.size p _ _ _ (heap_alloc_last w4 (.cells (ints .u8 V) 32)), ← hu]
          simp [ints]
        case c2 => intro u hu; obtain ⟨z, _, rfl⟩ := List.mem_map.1 hu; rfl
        case c3 => unfold maxLen; omega
        case c4 => omega
        case c5 => exact BA.out.size
        intro v5 w5 hown5 hgrow5 hnil5
        have B5 := Lib.hid (BA.out.grown hgrow5 BA.out.size (fun q hq => (RA.out.lt q hq).1))
        have K5 := Lib.hid (KA.out.kept hgrow5 (fun e => by
          rcases RA.out.2 with ⟨h0, _⟩ | ⟨g, cap, cur, hv, _, hh, _⟩
          · rw [h0] at e; cases e
          · obtain ⟨es, clock, hbm, _⟩ := KA.out
            rw [hv] at e
            have e2 : g = w.heap.size := by
              have e3 : w.heap.size = g := by simpa [Value.ownBlock] using e
              exact e3.symm
            rw [e2, hbm] at hh
            cases hh))
        have O5 := Lib.hid (show w5.ownsRow w.heap.size 32 32 v5 (acc ++ [mkK V]).length ((flatK (acc ++ [mkK V])).map (Value.int .u8)) from by
          rw [List.length_append, flatK_app, List.map_append]
          have : flatK [mkK V] = V := by simp [flatK, MV.out]
          rw [this]
          exact hown5)
        have hsh : ∃ g c, v5 = .slice (some ⟨g, 0, none⟩) (acc.length + 1) c := by
          rcases hown5.2 with ⟨_, h0⟩ | ⟨g, cap, cur, hv, _⟩
          · omega
          · exact ⟨g, cap, hv⟩
        obtain ⟨g5, c5, rfl⟩ := hsh
        clear hown5 hgrow5 hnil5
        go_wp2_with fail
        go_roundw
        case rel => exact ⟨k + 1, _, by omega, by go_num, B5.out, K5.out, PL4.out, by rw [HO.out]; exact ST.out, by rw [HO.out]; exact O5.out⟩
        case measure => simp [intOf]; omega
    · obtain rfl : k = n := by omega
      have hall : (ksL fl k).take k = ksL fl k := List.take_of_length_le (by rw [ksL_len]; omega)
      rw [hall] at RW
      go_wp2_with fail
      go_ret
      exact ⟨_, rfl, RW.out, B2.out⟩
end Go.Proofs.Ytdoelmjaongjfab
