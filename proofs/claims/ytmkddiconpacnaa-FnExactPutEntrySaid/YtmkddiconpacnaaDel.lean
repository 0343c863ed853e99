/- slices.Delete of one entry, by the program. Written by wip/gen/deli.py. -/
import Derived.Test.YtmkddiconpacnaaDlS
import Derived.Test.YtmkddiconpacnaaPlcI
import Derived.Deep.RegionLaw
import Derived.Lib.LazyBuf
import Derived.Lib.SliceRun
namespace Go.Proofs.Ytmkddiconpacnaa
open Go.ChangeShapes Go.WideShapes Go.ChangeAt Go.RowKit
set_option linter.unusedVariables false
set_option linter.unusedSimpArgs false
theorem entParts2 : ∃ (i : TypeInfo) (z : Value), Try.prog.info? 31 = some i ∧ i.size = 2 ∧ z.cells = #[.string ByteArray.empty, .string ByteArray.empty] ∧ ∀ w, (zeroValue 31).run Try.prog w = .ok z w := by
  obtain ⟨i, hi, hzz⟩ := Option.map_eq_some_iff.1 entInfo
  simp only [Prod.mk.injEq] at hzz
  obtain ⟨hz, hs, hb⟩ := hzz
  obtain ⟨z, hz0, hzc⟩ := Option.map_eq_some_iff.1 hz
  exact ⟨i, z, hi, hs, by rw [hzc]; rfl, fun w => by simp [zeroValue, typeInfo, hi, hz0]⟩
/-- 'clear' of one element of two cells. -/
theorem clear_one {P : Program} (w : World) (t e ty : TypeId) (z x y : Value) (ht : P.underlying t = some (.slice e)) (hv : ∀ w, (zeroValue e).run P w = .ok z w) (hz : z.cells = #[x, y]) (h1 : x.oneCell' = true) (h2 : y.oneCell' = true) (b o c : Nat)
    (hc : ∀ j, j < 2 → (w.cell? ⟨b, o + j, none⟩).isSome = true) (hf : ∀ j, j < 2 → w.frozen? ⟨b, o + j, none⟩ = false) :
    (Builtin.clear_ #[t] ty #[.slice (some ⟨b, o, none⟩) 1 c]).run P w = .ok (.tuple #[]) (w.setCells b o [x, y]) := by
  have hzc : (Builtin.zeroCells z.cells 1).toList = [x, y] := by
    rw [hz]
    simp [Builtin.zeroCells, Array.range, Array.ofFn_succ]
  have hst := run_storeCells_cells (P := P) b o [x, y] 0 w (by simpa using hc) (by simpa using hf) (by
    intro v hv'
    rcases List.mem_cons.1 hv' with rfl | hv'
    · exact h1
    · rcases List.mem_cons.1 hv' with rfl | hv'
      · exact h2
      · cases hv')
  simp only [Nat.add_zero] at hst
  simp [Builtin.clear_, run_underlying ht, hv, hzc, hst]
/-- The row behind the call. -/
def dlF (p n : Nat) (f : Nat → Value) (j : Nat) : Value := if (n - 1) * 2 ≤ j ∧ j < n * 2 then .string ByteArray.empty else if p * 2 ≤ j ∧ j < (n - 1) * 2 then f (j + 2) else f j
set_option maxRecDepth 100000 in
set_option maxHeartbeats 4000000 in
theorem del_impl (g p n cap base : Nat) (f : Nat → Value) (w : World) (hg : w.rowIs g 31 (cap * 2) f) (ho : ∀ j, j < n * 2 → (f j).oneCell' = true) (hb : base ≤ g) (hc : n ≤ cap) (hm : cap ≤ maxLen) (hp : p < n) :
    Calls Try.prog 138 #[.slice (some ⟨g, 0, none⟩) n cap, .int .i64 (p : Nat), .int .i64 (p + 1 : Nat)] w fun e w' => e = .returned (.slice (some ⟨g, 0, none⟩) (n - 1) cap) ∧ w'.rowIs g 31 (cap * 2) (dlF p n f) ∧ Below base w w' := by
  obtain ⟨i0, z0, hi0, hz1, hzc, hzv⟩ := entParts2
  unfold maxLen at hm
  obtain ⟨news, hnews⟩ : ∃ news, news = (List.range ((n - (p + 1)) * 2)).map (fun t => f ((p + 1) * 2 + t)) := ⟨_, rfl⟩
  have hlen : news.length = (n - (p + 1)) * 2 := by rw [hnews]; simp
  have hget : ∀ t u, news[t]? = some u → t < (n - (p + 1)) * 2 ∧ u = f ((p + 1) * 2 + t) := by
    intro t u h
    have h1 := (List.getElem?_eq_some_iff.1 h).1
    rw [hlen] at h1
    rw [hnews, List.getElem?_map, List.getElem?_range h1] at h
    exact ⟨h1, by simpa using h.symm⟩
  obtain ⟨A, hA, hsrc⟩ : ∃ A : Addr, (if cap = p + 1 then some (⟨g, 0, none⟩ : Addr) else some ⟨g, (p + 1) * 2, none⟩) = some A ∧ Hid (∀ t u, news[t]? = some u → w.drew.cell? (A.add t) = some u) := by
    by_cases h : cap = p + 1
    · refine ⟨⟨g, 0, none⟩, by simp [h], fun t u hu => ?_⟩
      have := (hget t u hu).1
      omega
    · refine ⟨⟨g, (p + 1) * 2, none⟩, by simp [h], fun t u hu => ?_⟩
      obtain ⟨h1, rfl⟩ := hget t u hu
      rw [addrE]
      exact hg.drew.cell (by omega)
  have s1 := Lib.hid hlen
  have s2 := Lib.hid (show ∀ u ∈ news, u.oneCell' = true from by
    intro u hu
    obtain ⟨t, ht⟩ := List.mem_iff_getElem?.1 hu
    obtain ⟨h1, rfl⟩ := hget t u ht
    exact ho _ (by omega))
  have s3 := Lib.hid (show ∀ t, t < news.length → (w.drew.cell? ⟨g, 0 + p * 2 + t, none⟩).isSome = true ∧ w.drew.frozen? ⟨g, 0 + p * 2 + t, none⟩ = false from by
    intro t ht
    rw [hlen] at ht
    exact ⟨by rw [hg.drew.cell (i := 0 + p * 2 + t) (by omega)]; rfl, hg.drew.frozen _⟩)
  have hr1 := Go.rowIs_setCells news (0 + p * 2) _ _ hg.drew
  have hb1 := Go.below_setCells (B := base) (b := g) hb news (0 + p * 2) _ (Below.refl base w).drew
  obtain ⟨W1, hW1⟩ : ∃ W1, W1 = w.drew.setCells g (0 + p * 2) news := ⟨_, rfl⟩
  rw [← hW1] at hr1 hb1
  have hr2 := Go.rowIs_setCells [.string ByteArray.empty, .string ByteArray.empty] ((p + (n - (p + 1))) * 2) _ _ hr1
  have hb2 := Go.below_setCells (B := base) (b := g) hb [.string ByteArray.empty, .string ByteArray.empty] ((p + (n - (p + 1))) * 2) _ hb1
  have hcl : ∀ ty, (Builtin.clear_ #[27] ty #[.slice (some ⟨g, (p + (n - (p + 1))) * 2, none⟩) (n - (p + (n - (p + 1)))) (cap - (p + (n - (p + 1))))]).run Try.prog W1 = .ok (.tuple #[]) (W1.setCells g ((p + (n - (p + 1))) * 2) [.string ByteArray.empty, .string ByteArray.empty]) := fun ty => by
    rw [show n - (p + (n - (p + 1))) = 1 by omega]
    exact clear_one W1 27 31 ty z0 _ _ Try.underlying27 hzv hzc rfl rfl g _ _ (fun j hj => by rw [hr1.cell (by omega)]; rfl) (fun j hj => hr1.frozen _)
  have X := Lib.hid (And.intro hr2 hb2)
  have hW := Lib.hid hW1
  have b0 : (0 : Int) ≤ (p : Int) + 1 := by omega
  have b1 : (p : Int) + 1 ≤ (n : Int) := by omega
  have hic : p ≤ cap := by omega
  have hjc : p + 1 ≤ cap := by omega
  have N := Lib.hid (And.intro hnews hlen)
  clear hW1 hr1 hr2 hb1 hb2 hg hget hnews hlen
  go_enter Try.func138, Try.ntmps138
  go_wp2_with fail
  go_region_law (refine step_append_room rfl (.tmp 22) (.tmp 25) 27 rfl 31 i0 2 Try.underlying27 hi0 hz1 g 0 p cap (by simp [Act.eval, Act.put]) A (n - (p + 1)) (cap - (p + 1)) news (by simp [Act.eval, Act.put]) s1.out hsrc.out s2.out (by omega) s3.out ?_; rw [← hW.out])
  go_wp2
  go_ret
  refine ⟨by rw [show p + (n - (p + 1)) = n - 1 by omega]; rfl, ?_, X.out.2⟩
  refine X.out.1.congr fun j hj => ?_
  have N1 := N.out.1
  have N2 := N.out.2
  unfold dlF
  by_cases h1 : (n - 1) * 2 ≤ j ∧ j < n * 2
  · rw [if_pos (by simp; omega), if_pos h1]
    rcases (show j - (p + (n - (p + 1))) * 2 = 0 ∨ j - (p + (n - (p + 1))) * 2 = 1 by omega) with e | e <;> rw [e] <;> rfl
  · rw [if_neg (by simp; omega), if_neg h1]
    by_cases h2 : p * 2 ≤ j ∧ j < (n - 1) * 2
    · rw [if_pos (by rw [N2]; omega), if_pos h2, N1, List.getElem?_map, List.getElem?_range (by omega)]
      simp only [Option.map_some, Option.getD_some]
      congr 1
      omega
    · rw [if_neg (by rw [N2]; omega), if_neg h2]
theorem del_impl1 (g p n cap base : Nat) (f : Nat → Value) (w : World) (hg : w.rowIs g 31 (cap * 2) f) (ho : ∀ j, j < n * 2 → (f j).oneCell' = true) (hb : base ≤ g) (hc : n ≤ cap) (hm : cap ≤ maxLen) (hp : p < n) :
    Calls Try.prog 138 #[.slice (some ⟨g, 0, none⟩) n cap, .int .i64 (p : Nat), .int .i64 ((p : Int) + 1)] w fun e w' => e = .returned (.slice (some ⟨g, 0, none⟩) (n - 1) cap) ∧ w'.rowIs g 31 (cap * 2) (dlF p n f) ∧ Below base w w' := by
  have := del_impl g p n cap base f w hg ho hb hc hm hp
  rw [show ((p + 1 : Nat) : Int) = (p : Int) + 1 by omega] at this
  exact this
/-- The list without the entry at a place. -/
def wiE (es : List ByteArray) (p j : Nat) : ByteArray := if j < 2 * p then tx es j else tx es (j + 2)
theorem range2 (k : Nat) : List.range (2 * (k + 1)) = List.range (2 * k) ++ [2 * k, 2 * k + 1] := by
  rw [show 2 * (k + 1) = 2 * k + 1 + 1 by omega, List.range_succ, List.range_succ, List.append_assoc]
  rfl
theorem sel_before (nm : ByteArray) (es : List ByteArray) (p : Nat) (h : ∀ k, k < p → tx es (2 * k) ≠ nm) : ∀ k, k ≤ p → selF (neN nm) es k = (List.range (2 * k)).map (tx es)
  | 0, _ => rfl
  | k + 1, hk => by
    rw [sel_next, if_pos (by unfold neN; exact decide_eq_true (h k (by omega))), sel_before nm es p h k (by omega), range2, List.map_append]
    rfl
theorem sel_behind (nm : ByteArray) (es : List ByteArray) (p n : Nat) (he : tx es (2 * p) = nm) (h : ∀ k, k < n → k ≠ p → tx es (2 * k) ≠ nm) : ∀ d, p + 1 + d ≤ n → selF (neN nm) es (p + 1 + d) = (List.range (2 * (p + d))).map (wiE es p)
  | 0, hd => by
    rw [Nat.add_zero, Nat.add_zero, sel_next, if_neg (by unfold neN; simp [he]), sel_before nm es p (fun k hk => h k (by omega) (by omega)) p (Nat.le_refl _)]
    refine List.map_congr_left fun j hj => ?_
    unfold wiE
    rw [if_pos (List.mem_range.1 hj)]
  | d + 1, hd => by
    rw [← Nat.add_assoc, sel_next, if_pos (by unfold neN; exact decide_eq_true (h _ (by omega) (by omega))), sel_behind nm es p n he h d (by omega), ← Nat.add_assoc, range2, List.map_append]
    congr 1
    simp only [List.map_cons, List.map_nil, wiE]
    rw [if_neg (by omega), if_neg (by omega), show 2 * (p + d) + 2 = 2 * (p + 1 + d) by omega, show 2 * (p + d) + 1 + 2 = 2 * (p + 1 + d) + 1 by omega]
theorem owns_of_row {w : World} {g cap m base : Nat} {L : List ByteArray} {G : Nat → Value} (h : w.rowIs g 31 (cap * 2) G) (hb : base ≤ g) (hc : m ≤ cap) (hm : cap ≤ maxLen) (hl : L.length = 2 * m) (hG : ∀ j, j < 2 * m → G j = .string (tx L j)) :
    w.ownsRow base 31 2 (.slice (some ⟨g, 0, none⟩) m cap) m (L.map Value.string) := by
  obtain ⟨c, hg, hs, hcc⟩ := h
  refine ⟨by rw [List.length_map, hl]; omega, Or.inr ⟨g, cap, c, rfl, hb, hg, hc, hm, hs, ?_⟩⟩
  apply List.ext_getElem?
  intro j
  by_cases hj : j < 2 * m
  · rw [List.getElem?_take_of_lt (by omega), List.getElem?_map, tx_lt (by omega), Array.getElem?_toList, hcc j (by omega), hG j hj]
    rfl
  · rw [List.getElem?_eq_none (by simp; omega), List.getElem?_eq_none (by simp; omega)]
set_option maxRecDepth 100000 in
set_option maxHeartbeats 4000000 in
theorem drop_yes (g cap n base : Nat) (es : List ByteArray) (nm : ByteArray) (hn : n ≤ 1048576) (hu : upE es n) (hf : fdE es n nm = true) (hl : es.length = 2 * n) (w : World) (hbw : base ≤ w.heap.size) (ho : w.ownsRow base 31 2 (.slice (some ⟨g, 0, none⟩) n cap) n (es.map Value.string)) :
    Calls Try.prog 113 #[.slice (some ⟨g, 0, none⟩) n cap, .string nm] w fun e w' => ∃ v, e = .returned (.tuple #[v, .int .i64 0]) ∧ w'.ownsRow base 31 2 v (cntF (neN nm) es n) ((selF (neN nm) es n).map Value.string) ∧ Below base w w' := by
  have hq : plc es n nm < n ∧ tx es (2 * plc es n nm) = nm := by unfold fdE at hf; exact of_decide_eq_true hf
  obtain ⟨a', cap', e0, hr⟩ := RdE.owned hl ho
  obtain ⟨rfl, _, rfl⟩ := Value.slice.inj e0
  have HP := Lib.hid (place_impl _ n cap es nm hn hu w hr)
  rw [hf] at HP
  have HS := Lib.hid (sel_behind nm es (plc es n nm) n hq.2 (fun k hk hne e => hne (fd_only hu hk e)) (n - (plc es n nm + 1)) (by omega))
  have HCN := Lib.hid (selF_len (neN nm) es n)
  have HO := Lib.hid ho
  have hpp : ((plc es n nm : Nat) : Int) + 1 ≤ 9223372036854775807 := by omega
  have hp0 : (-9223372036854775808 : Int) ≤ ((plc es n nm : Nat) : Int) + 1 := by omega
  have hlt := hq.1
  clear e0 hr hu hf ho hq
  generalize plc es n nm = p at HP HS hlt hpp hp0
  go_enter Try.func113, Try.ntmps113
  go_wp2_with fail
  refine HP.out.mono ?_
  rintro e w1 ⟨rfl, hb⟩
  have O1 := owns_below HO.out hb
  have B1 := Lib.hid (hb.mono hbw)
  rcases O1.2 with ⟨e1, _⟩ | ⟨g', cap', cur, e1, hb1, hg1, hc1, hm1, hs1, ht1⟩
  · cases e1
  obtain ⟨e2, _, e3⟩ := Value.slice.inj e1
  injection e2 with e2
  injection e2 with e2 _ _
  subst e2 e3
  have hcur : ∀ j, j < n * 2 → cur[j]? = some (.string (tx es j)) := fun j hj => by
    have : (cur.toList.take (n * 2))[j]? = (es.map Value.string)[j]? := by rw [ht1]
    rw [List.getElem?_take_of_lt (by omega), List.getElem?_map, tx_lt (by omega)] at this
    simpa using this
  have HD := Lib.hid (del_impl1 g p n cap base (fun j => cur[j]?.getD default) w1 ⟨cur, hg1, hs1, fun i hi => by show cur[i]? = some (cur[i]?.getD default); rw [Array.getElem?_eq_getElem (by omega)]; rfl⟩ (fun j hj => by simp only [hcur j hj]; rfl) hb1 hc1 hm1 hlt)
  have HX := Lib.hid (And.intro hb1 (And.intro hc1 (And.intro hm1 hcur)))
  clear hb O1 e1 hb1 hg1 hc1 hm1 hs1 ht1 hcur
  go_wp2_with fail
  refine HD.out.mono ?_
  rintro e w2 ⟨rfl, hr2, hb2⟩
  have R2 := Lib.hid hr2
  have B2 := Lib.hid (B1.out.trans hb2)
  clear hr2 hb2 HD
  go_wp2
  go_ret2
  obtain ⟨hb1, hc1, hm1, hcur⟩ := HX.out
  have hs := HS.out
  rw [show p + 1 + (n - (p + 1)) = n by omega, show p + (n - (p + 1)) = n - 1 by omega] at hs
  have hlen : (selF (neN nm) es n).length = 2 * (n - 1) := by rw [hs]; simp
  have hcn : cntF (neN nm) es n = n - 1 := by have := HCN.out; omega
  rw [hcn]
  refine ⟨_, rfl, owns_of_row R2.out hb1 (by omega) hm1 hlen (fun j hj => ?_), B2.out⟩
  have ht : tx (selF (neN nm) es n) j = wiE es p j := by
    have h1 : (selF (neN nm) es n)[j]? = some (wiE es p j) := by rw [hs, List.getElem?_map, List.getElem?_range hj]; rfl
    have h2 := tx_lt (l := selF (neN nm) es n) (k := j) (by omega)
    rw [h1] at h2
    exact (Option.some.inj h2).symm
  rw [ht]
  unfold dlF wiE
  rw [if_neg (by omega)]
  by_cases h2 : p * 2 ≤ j ∧ j < (n - 1) * 2
  · rw [if_pos h2, if_neg (by omega)]
    simp only [hcur (j + 2) (by omega)]
    rfl
  · rw [if_neg h2, if_pos (by omega)]
    simp only [hcur j (by omega)]
    rfl
set_option maxRecDepth 100000 in
set_option maxHeartbeats 4000000 in
theorem drop_no (a : Option Addr) (n cap : Nat) (es : List ByteArray) (nm : ByteArray) (hn : n ≤ 1048576) (hu : upE es n) (hf : fdE es n nm = false) (w : World) (hr : RdE w a n es) :
    Calls Try.prog 113 #[.slice a n cap, .string nm] w fun e w' => e = .returned (.tuple #[.slice none 0 0, .int .i64 6]) ∧ Below w.heap.size w w' := by
  have HP := Lib.hid (place_impl a n cap es nm hn hu w hr)
  rw [hf] at HP
  clear hr hu hf
  generalize plc es n nm = p at HP
  go_enter Try.func113, Try.ntmps113
  go_wp2_with fail
  refine HP.out.mono ?_
  rintro e w1 ⟨rfl, hb⟩
  have B1 := Lib.hid hb
  clear hb
  go_wp2
  go_ret2
  exact ⟨rfl, B1.out⟩
set_option maxRecDepth 100000 in
set_option maxHeartbeats 4000000 in
theorem clone_ents (a : Option Addr) (n cap : Nat) (es : List ByteArray) (hn : n ≤ 1048576) (w : World) (hr : RdE w a n es) :
    Calls Try.prog 74 #[.slice a n cap] w fun e w' => ∃ v, e = .returned v ∧ w'.ownsRow w.heap.size 31 2 v n (es.map Value.string) ∧ Below w.heap.size w w' := by
  obtain ⟨i0, z0, hi0, hz0, hz1, hz2, hzs⟩ := entParts
  have Hi := Lib.hid hi0
  clear hi0
  have heq : ∀ W, (binOp .eql 27 (.slice a n cap) (.slice none 0 0)).run Try.prog W = .ok (.bool a.isNone) W := fun W => by
    simp [binOp, go_sem, run_equal_slice_nil W 27 31 a n cap Try.underlying27]
  have B1 := Lib.hid ((Below.refl w.heap.size w).alloc (Nat.le_refl _) (.cells #[] 31))
  have O1 := Lib.hid (ownsE_empty w 31 2)
  by_cases h0 : n = 0
  · subst h0
    have hl : es = [] := List.eq_nil_of_length_eq_zero hr.1
    subst hl
    cases a with
    | none =>
      go_enter Try.func74, Try.ntmps74
      go_wp2_with fail
      go_ret
      exact ⟨_, rfl, World.ownsRow_nil _ _ _ _, Below.refl _ _⟩
    | some x =>
      go_enter Try.func74, Try.ntmps74
      go_wp2_with (refine wpList_append_ran rfl _ _ 27 27 rfl _ _ rfl rfl (run_append_zero 27 _ 31 i0 2 Try.underlying27 Hi.out _ 0 [] O1.out _ _) ?_)
      go_ret
      exact ⟨_, rfl, O1.out, B1.out⟩
  · obtain ⟨blk, off, rfl⟩ := hr.form (by omega)
    have Hr := Lib.hid (hr.below B1.out)
    clear hr
    go_enter Try.func74, Try.ntmps74
    go_wp2_with (at_builtin; refine wpList_append_own _ rfl _ _ 27 rfl w.heap.size 31 i0 z0 2 32 Try.underlying27 Hi.out hz0 hz1 hz2 hzs (by decide) _ 0 _ rfl O1.out ⟨blk, off, none⟩ n _ (es.map Value.string) rfl ?c1 ?c2 ?c3 ?c4 ?c5 ?c6 ?_)
    case c1 => rw [List.length_map, Hr.out.1, Nat.mul_comm]
    case c2 =>
      intro j u hu
      obtain ⟨h1, h2⟩ := Hr.out
      rcases h2 with h2 | ⟨b', o', e, _, hc⟩
      · omega
      · cases e
        have hj : j < es.length := by
          have := (List.getElem?_eq_some_iff.1 hu).1
          simpa using this
        rw [List.getElem?_map, tx_lt hj] at hu
        have := hc j (by omega)
        rw [addrE]
        exact this.trans hu
    case c3 => intro u hu; obtain ⟨z, _, rfl⟩ := List.mem_map.1 hu; rfl
    case c4 => unfold maxLen; omega
    case c5 => omega
    case c6 => exact B1.out.size
    intro v' w4 hown4 hgrow4 hnil4
    have B4 := Lib.hid (B1.out.grown hgrow4 B1.out.size (fun g e => (O1.out.lt g e).1))
    have O4 := Lib.hid hown4
    clear hown4 hgrow4 hnil4
    go_wp2_with fail
    go_ret
    have o4 := O4.out
    try simp only [Nat.zero_add, List.nil_append] at o4
    exact ⟨_, rfl, o4, B4.out⟩
set_option maxRecDepth 100000 in
set_option maxHeartbeats 4000000 in
theorem de_impl (a : Option Addr) (n cap : Nat) (es : List ByteArray) (nm : ByteArray) (hn : n ≤ 1048576) (hm : ∀ s ∈ es, s.size ≤ maxLen) (hz : nm.size ≤ maxLen) (w : World) (hr : RdE w a n es) :
    Calls Try.prog 65 #[.slice a n cap, .string nm] w fun e w' => ∃ v, e = .returned (.tuple #[v, .int .i64 (dlE es n nm)]) ∧ w'.ownsRow w.heap.size 31 2 v (dlN es n nm) ((dlV es n nm).map Value.string) ∧ Below w.heap.size w w' := by
  have HR := Lib.hid hr
  have HOK := Lib.hid (ok_impl a n cap es hn hm w hr)
  have HNM := Lib.hid (fun U => name_impl nm hz U)
  unfold dlE dlN dlV
  clear hr hm hz
  by_cases hok : okE es n
  · rw [decide_eq_true hok] at HOK
    cases hn' : isNm nm with
    | true =>
      rw [hn'] at HNM
      rw [if_pos ⟨hok, rfl⟩]
      have hup := hok.up
      cases hf : fdE es n nm with
      | true =>
        rw [if_pos rfl, if_pos ⟨hok, rfl, rfl⟩, if_pos ⟨hok, rfl, rfl⟩]
        obtain ⟨aa, cc, hcc⟩ : ∃ aa cc, aa = a ∧ cc = cap := ⟨_, _, rfl, rfl⟩
        have HC := Lib.hid (fun U (hU : Below w.heap.size w U) => clone_ents a n cap es hn U (HR.out.below hU))
        have HL := Lib.hid HR.out.1
        have HD := Lib.hid (fun g c U (b : Nat) (hbU : b ≤ U.heap.size) (hU : U.ownsRow b 31 2 (.slice (some ⟨g, 0, none⟩) n c) n (es.map Value.string)) => drop_yes g c n b es nm hn hup hf HL.out U hbU hU)
        have h0 : 0 < n := by unfold fdE at hf; have := (of_decide_eq_true hf).1; omega
        have H0 := Lib.hid h0
        clear hf hup h0 hcc
        generalize cntF (neN nm) es n = ct at HD ⊢
        generalize selF (neN nm) es n = sl at HD ⊢
        go_enter Try.func65, Try.ntmps65
        go_wp2_with fail
        refine HOK.out.mono ?_
        rintro e w1 ⟨rfl, hb⟩
        have B1 := Lib.hid hb
        clear hb
        go_wp2_with fail
        refine (HNM.out _).mono ?_
        rintro e w2 ⟨rfl, rfl⟩
        go_wp2_with fail
        refine (HC.out _ B1.out).mono ?_
        rintro e w3 ⟨v, rfl, ho, hb⟩
        have B3 := Lib.hid (below_call B1.out B1.out.size hb)
        rcases ho.2 with ⟨_, e0⟩ | ⟨g, c, cur, rfl, hbg, _⟩
        · have := H0.out; omega
        have O3 := Lib.hid (ownsE_base B1.out.size ho)
        clear ho hb hbg
        go_wp2_with fail
        refine (HD.out g c _ w.heap.size B3.out.size O3.out).mono ?_
        rintro e w4 ⟨v, rfl, ho, hb⟩
        have O4 := Lib.hid ho
        have B4 := Lib.hid (B3.out.trans hb)
        clear ho hb
        go_wp2_with fail
        go_ret2
        exact ⟨_, rfl, O4.out, B4.out⟩
      | false =>
        rw [if_neg (by simp), if_neg (fun h => by simp at h), if_neg (fun h => by simp at h)]
        have HC := Lib.hid (fun U (hU : Below w.heap.size w U) => clone_ents a n cap es hn U (HR.out.below hU))
        have HL := Lib.hid HR.out.1
        have HD := Lib.hid (fun b c U (hU : RdE U b n es) => drop_no b n c es nm hn hup hf U hU)
        clear hf hup
        go_enter Try.func65, Try.ntmps65
        go_wp2_with fail
        refine HOK.out.mono ?_
        rintro e w1 ⟨rfl, hb⟩
        have B1 := Lib.hid hb
        clear hb
        go_wp2_with fail
        refine (HNM.out _).mono ?_
        rintro e w2 ⟨rfl, rfl⟩
        go_wp2_with fail
        refine (HC.out _ B1.out).mono ?_
        rintro e w3 ⟨v, rfl, ho, hb⟩
        have B3 := Lib.hid (below_call B1.out B1.out.size hb)
        obtain ⟨g, c, rfl, hr3⟩ := RdE.owned HL.out ho
        have R3 := Lib.hid hr3
        clear ho hb hr3
        go_wp2_with fail
        refine (HD.out _ _ _ R3.out).mono ?_
        rintro e w4 ⟨rfl, hb⟩
        have B4 := Lib.hid (below_call B3.out B3.out.size hb)
        clear hb
        go_wp2_with fail
        go_ret2
        exact ⟨_, rfl, ⟨rfl, Or.inl ⟨rfl, rfl⟩⟩, B4.out⟩
    | false =>
      rw [hn'] at HNM
      rw [if_neg (fun h => by simp at h), if_neg (fun h => by simp at h), if_neg (fun h => by simp at h)]
      clear hn' hok
      go_enter Try.func65, Try.ntmps65
      go_wp2_with fail
      refine HOK.out.mono ?_
      rintro e w1 ⟨rfl, hb⟩
      have B1 := Lib.hid hb
      clear hb
      go_wp2_with fail
      refine (HNM.out _).mono ?_
      rintro e w2 ⟨rfl, rfl⟩
      go_wp2_with fail
      go_ret2
      exact ⟨_, rfl, ⟨rfl, Or.inl ⟨rfl, rfl⟩⟩, B1.out⟩
  · rw [decide_eq_false hok] at HOK
    rw [if_neg (fun h => hok h.1), if_neg (fun h => hok h.1), if_neg (fun h => hok h.1)]
    clear hok
    go_enter Try.func65, Try.ntmps65
    go_wp2_with fail
    refine HOK.out.mono ?_
    rintro e w1 ⟨rfl, hb⟩
    have B1 := Lib.hid hb
    clear hb
    go_wp2_with fail
    go_ret2
    exact ⟨_, rfl, ⟨rfl, Or.inl ⟨rfl, rfl⟩⟩, B1.out⟩
end Go.Proofs.Ytmkddiconpacnaa
