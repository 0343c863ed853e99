/- PutEntry, by the program. Written by wip/gen/src.py. -/
import Derived.Test.YtmkddiconpacnaaPutM
namespace Go.Proofs.Ytmkddiconpacnaa
open Go.ChangeShapes Go.WideShapes Go.ChangeAt Go.RowKit
set_option linter.unusedVariables false
set_option linter.unusedSimpArgs false
theorem newE2_cell {w : World} {vb : Nat} {nm vl : ByteArray} {t : TypeId} (h : w.heap[vb]? = some (.cells #[.string nm, .string vl] t)) : ∀ j u, [Value.string nm, Value.string vl][j]? = some u → w.cell? ((⟨vb, 0, none⟩ : Addr).add j) = some u := by
  intro j u hu
  rw [addrE, Nat.zero_add, cell_of_row _ vb j _ _ _ h, ← hu]
  simp
theorem two_one (nm vl : ByteArray) : ∀ u ∈ [Value.string nm, Value.string vl], u.oneCell' = true := by
  intro u hu
  rcases List.mem_cons.1 hu with rfl | hu
  · rfl
  · rcases List.mem_cons.1 hu with rfl | hu
    · rfl
    · cases hu
set_option maxRecDepth 100000 in
set_option maxHeartbeats 4000000 in
theorem ins_end (v : Value) (n base vb : Nat) (es : List ByteArray) (nm vl : ByteArray) (hn : n ≤ 65536) (w : World) (ho : w.ownsRow base 31 2 v n (es.map Value.string)) (hb : base ≤ w.heap.size) (hv : w.heap[vb]? = some (.cells #[.string nm, .string vl] 31)) :
    Calls Try.prog 117 #[v, .int .i64 (n : Nat), .slice (some ⟨vb, 0, none⟩) 1 1] w fun e w' => ∃ v', e = .returned v' ∧ w'.ownsRow base 31 2 v' (n + 1) ((es ++ [nm, vl]).map Value.string) ∧ Below base w w' := by
  obtain ⟨i0, z0, hi0, hz0, hz1, hz2, hzs⟩ := entParts
  have Hi := Lib.hid hi0
  have HO := Lib.hid ho
  have HB := Lib.hid hb
  have NC := Lib.hid (newE2_cell hv)
  have NO := Lib.hid (two_one nm vl)
  have hE : (es ++ [nm, vl]).map Value.string = es.map Value.string ++ [.string nm, .string vl] := by rw [List.map_append]; rfl
  rw [hE]
  clear hi0 hb hv hE
  rcases ho.2 with ⟨rfl, e0⟩ | ⟨g, cap, cur, rfl, hbg, hg, hnc, hcm, hcs, hct⟩
  · have hn0 : n = 0 := by have := ho.1; rw [e0] at this; simp at this; omega
    subst hn0
    clear ho e0
    go_enter Try.func117, Try.ntmps117
    go_wp2_with (at_builtin; refine wpList_append_own _ rfl _ _ 27 rfl base 31 i0 z0 2 32 Try.underlying27 Hi.out hz0 hz1 hz2 hzs (by decide) _ 0 _ rfl HO.out ⟨vb, 0, none⟩ 1 1 [.string nm, .string vl] rfl rfl NC.out NO.out (by unfold maxLen; omega) (by omega) HB.out ?_)
    intro v4 w4 hown4 hgrow4 hnil4
    have O4 := Lib.hid hown4
    have B4 := Lib.hid ((Below.refl base w).grown hgrow4 HB.out (fun g e => (HO.out.lt g e).1))
    clear hown4 hgrow4 hnil4
    go_wp2
    go_ret
    exact ⟨_, rfl, by simpa using O4.out, B4.out⟩
  · clear ho hg hcs hct hbg
    unfold maxLen at hcm
    by_cases hc : cap = n
    · go_enter Try.func117, Try.ntmps117
      subst hc
      go_wp2_with (at_builtin; refine wpList_append_own _ rfl _ _ 27 rfl base 31 i0 z0 2 32 Try.underlying27 Hi.out hz0 hz1 hz2 hzs (by decide) _ _ _ rfl HO.out ⟨vb, 0, none⟩ 1 1 [.string nm, .string vl] rfl rfl NC.out NO.out (by unfold maxLen; omega) (by omega) HB.out ?_)
      intro v4 w4 hown4 hgrow4 hnil4
      have O4 := Lib.hid hown4
      have B4 := Lib.hid ((Below.refl base w).grown hgrow4 HB.out (fun g e => (HO.out.lt g e).1))
      clear hown4 hgrow4 hnil4
      go_wp2
      go_ret
      exact ⟨_, rfl, O4.out, B4.out⟩
    · go_enter Try.func117, Try.ntmps117
      go_wp2_with (at_builtin; refine wpList_append_own _ rfl _ _ 27 rfl base 31 i0 z0 2 32 Try.underlying27 Hi.out hz0 hz1 hz2 hzs (by decide) _ n _ rfl HO.out ⟨vb, 0, none⟩ 1 1 [.string nm, .string vl] rfl rfl NC.out NO.out (by unfold maxLen; omega) (by omega) HB.out ?_)
      intro v4 w4 hown4 hgrow4 hnil4
      have O4 := Lib.hid hown4
      have B4 := Lib.hid ((Below.refl base w).grown hgrow4 HB.out (fun g e => (HO.out.lt g e).1))
      clear hown4 hgrow4 hnil4
      go_wp2
      go_ret
      exact ⟨_, rfl, O4.out, B4.out⟩
theorem tx_map {f : Nat → ByteArray} {N j : Nat} (hj : j < N) : tx ((List.range N).map f) j = f j := by
  unfold tx
  rw [List.getElem?_map, List.getElem?_range hj]
  rfl
/-- slices.Insert, wherever the place lies. -/
theorem ins_any (v : Value) (n base p vb : Nat) (es : List ByteArray) (nm vl : ByteArray) (hn : n ≤ 65536) (hp : p ≤ n) (w : World) (ho : w.ownsRow base 31 2 v n (es.map Value.string)) (hb : base ≤ w.heap.size) (hv : w.heap[vb]? = some (.cells #[.string nm, .string vl] 31)) (hne : v.ownBlock ≠ some vb) :
    Calls Try.prog 117 #[v, .int .i64 (p : Nat), .slice (some ⟨vb, 0, none⟩) 1 1] w fun e w' => ∃ v', e = .returned v' ∧ w'.ownsRow base 31 2 v' (n + 1) (((List.range (2 * (n + 1))).map (inE es p nm vl)).map Value.string) ∧ Below base w w' := by
  have hl : es.length = 2 * n := by have := ho.1; simp at this; omega
  by_cases e : p = n
  · subst e
    have hE : (List.range (2 * (p + 1))).map (inE es p nm vl) = es ++ [nm, vl] := by
      rw [range2, List.map_append]
      congr 1
      · apply List.ext_getElem?
        intro j
        by_cases hj : j < 2 * p
        · rw [List.getElem?_map, List.getElem?_range hj, tx_lt (by omega)]
          simp only [Option.map_some, inE]
          rw [if_pos hj]
        · rw [List.getElem?_eq_none (by simp; omega), List.getElem?_eq_none (by omega)]
      · simp only [List.map_cons, List.map_nil, inE]
        rw [if_neg (by omega), if_pos trivial, if_neg (by omega), if_neg (by omega), if_pos trivial]
    rw [hE]
    exact ins_end v p base vb es nm vl hn w ho hb hv
  · rcases ho.2 with ⟨rfl, e0⟩ | ⟨g, cap, cur, rfl, hbg, hg, hnc, hcm, hcs, hct⟩
    · have : n = 0 := by have := ho.1; rw [e0] at this; simp at this; omega
      omega
    · have hcur : ∀ j, j < n * 2 → cur[j]? = some (.string (tx es j)) := fun j hj => by
        have : (cur.toList.take (n * 2))[j]? = (es.map Value.string)[j]? := by rw [hct]
        rw [List.getElem?_take_of_lt (by omega), List.getElem?_map, tx_lt (by omega)] at this
        simpa using this
      have hrow : w.rowIs g 31 (cap * 2) (fun j => cur[j]?.getD default) := ⟨cur, hg, hcs, fun i hi => by show cur[i]? = some (cur[i]?.getD default); rw [Array.getElem?_eq_getElem (by omega)]; rfl⟩
      have hone : ∀ j, j < n * 2 → ((fun j => cur[j]?.getD default) j).oneCell' = true := fun j hj => by simp only [hcur j hj]; rfl
      have hvg : vb ≠ g := fun h => hne (by rw [h]; rfl)
      have key : ∀ (e : Ending) (w' : World), (∃ v', e = .returned v' ∧ IsRow2 w' base v' (n + 1) (insF p nm vl (fun j => cur[j]?.getD default)) ∧ Below base w w') → ∃ v', e = .returned v' ∧ w'.ownsRow base 31 2 v' (n + 1) (((List.range (2 * (n + 1))).map (inE es p nm vl)).map Value.string) ∧ Below base w w' := by
        rintro e w' ⟨v', he, ⟨g', cap', G, hv', hr', hb', hc', hm', hG⟩, hbel⟩
        refine ⟨v', he, ?_, hbel⟩
        rw [hv']
        refine owns_of_row hr' hb' hc' hm' (by simp) (fun j hj => ?_)
        rw [hG j (by omega), tx_map hj]
        unfold insF inE
        by_cases h1 : j < 2 * p
        · rw [if_pos h1, if_pos h1]; simp only [hcur j (by omega)]; rfl
        · rw [if_neg h1, if_neg h1]
          by_cases h2 : j = 2 * p
          · rw [if_pos h2, if_pos h2]
          · rw [if_neg h2, if_neg h2]
            by_cases h3 : j = 2 * p + 1
            · rw [if_pos h3, if_pos h3]
            · rw [if_neg h3, if_neg h3]; simp only [hcur (j - 2) (by omega)]; rfl
      by_cases hr : n + 1 ≤ cap
      · exact (ins_room g p n cap base vb _ nm vl w hrow hone hbg hcm (by omega) hr hv hvg).mono fun e w' h => key e w' h
      · exact (ins_grow g p n cap base vb _ nm vl w hrow hone hb (by omega) (by omega) hnc (by omega) hv).mono fun e w' h => key e w' h
end Go.Proofs.Ytmkddiconpacnaa
