/- Slices of bytes joined by the library. -/
import Derived.Test.YtdoelmjaongjfaaRow
import Derived.Test.YtdoelmjaongjfaaRd
import Derived.Test.YtdoelmjaongjfaaFill
namespace Go.Proofs.Ytdoelmjaongjfaa
open Go.ChangeShapes Go.WideShapes Go.ChangeAt Go.RowKit
set_option linter.unusedVariables false
theorem run_append_zeros {P : Program} (w : World) (t ty e xt : TypeId) (i : TypeInfo) (z : Value) (κ : IntKind) (ht : P.underlying t = some (.slice e)) (hx : P.underlying xt = some (.int κ)) (hi : P.info? e = some i) (hz : i.zero = some z)
    (n : Nat) (hn : 0 < n) (hs : 0 < i.size) (h63 : n ≤ 9223372036854775807) (h48 : n * i.bytes ≤ 281474976710656) (hnext : Builtin.nextslicecap n 0 * i.bytes ≤ 281474976710656) :
    (Builtin.append_ #[t, xt] ty #[.slice none 0 0, .int .i64 n]).run P w =
      .ok (.slice (some ⟨w.heap.size, 0, none⟩) n (grownCap w n 0 e)) (w.drew.alloc (.cells (Builtin.zeroCells z.cells n ++ Builtin.zeroCells z.cells (grownCap w n 0 e - n)) e)) := by
  have hw : IntKind.i64.wrap (n : Int) = n := by rw [IntKind.wrap_i64]; omega
  have h0 : ¬ (n : Int) < 0 := by omega
  have h1 : ¬ (n : Int) * (i.bytes : Int) > 281474976710656 := by omega
  have h2 : ¬ n * i.size = 0 := by rw [Nat.mul_eq_zero]; omega
  simp [Builtin.append_, run_underlying ht, run_underlying hx, sizeOf, typeInfo, zeroValue, hi, hz, hw, h0, h1, h2, asInt, asIntOf, nextslicecap_zero hn, Question.forced, run_firstCells_none, newRow, grownCap]
  rw [if_neg (by omega), if_neg (by omega), if_neg (by omega)]
theorem wpList_append_ran {P : Program} {ops : Array Oper} {rest : List Oper} {op : Oper} {a : Act} {w w1 : World} {v : Value} {Q : Exit → Act → World → Prop} (hgd : op.guard = none) (s x : Operand) (t xt : TypeId)
    (ho : op.op = .call { callee := .builtin .append, args := #[s, x], argTypes := #[t, xt] }) (u y : Value) (hs : a.eval s = u) (hx : a.eval x = y) (hr : (Builtin.append_ #[t, xt] op.type #[u, y]).run P w = .ok v w1)
    (h : wpList P ops Q rest (a.put op.dst v) w1) : wpList P ops Q (op :: rest) a w :=
  wpList_plain hgd fun K hK => by
    unfold Oper.wp execOp
    simp only [ho, resolve, invoke, builtin, Sem.run_bind, Sem.run_pure, Result.andThen_ok, List.map_toArray, List.map_cons, List.map_nil, hs, hx, hr]
    exact hK _ _ h
theorem info5 : ∃ (i : TypeInfo), Try.prog.info? 5 = some i ∧ i.zero = some (.int .u8 0) ∧ i.size = 1 ∧ i.bytes = 1 := by
  have h : (Try.prog.info? 5).map (fun i => (i.zero, i.size, i.bytes)) = some (some (.int .u8 0), 1, 1) := by kernel_rfl
  cases hi : Try.prog.info? 5 with
  | none => rw [hi] at h; cases h
  | some i =>
    rw [hi] at h
    simp at h
    exact ⟨i, rfl, h.1, h.2.1, h.2.2⟩
set_option maxRecDepth 100000 in
set_option maxHeartbeats 1000000 in
/-- The library's Grow of no slice. -/
theorem grow_impl (n : Nat) (hn : n ≤ 1073741824) (w : World) :
    Calls Try.prog 147 #[.slice none 0 0, .int .i64 n] w fun e w' => ∃ v, e = .returned v ∧ w'.ownsRow w.heap.size 5 1 v 0 [] ∧ Below w.heap.size w w' := by
  obtain ⟨i, hi, hz, hs, hby⟩ := info5
  by_cases h0 : n = 0
  · subst h0
    go_enter Try.func147, Try.ntmps147
    go_wp2_with fail
    go_ret
    exact ⟨_, rfl, World.ownsRow_nil _ _ _ _, Below.refl _ _⟩
  · have hr := run_append_zeros (P := Try.prog) w 41 41 5 3 i _ .i64 Try.underlying41 Try.underlying3 hi hz n (by omega) (by omega) (by omega) (by rw [hby]; omega) (by rw [nextslicecap_zero (by omega), hby]; omega)
    have hge := grownCap_ge w n 0 5
    have hle := grownCap_le_maxLen w n 0 5 (by simp only [maxLen]; omega)
    have b0 : (0 : Int) < (n : Int) := by omega
    generalize grownCap w n 0 5 = C at hr hge hle
    go_enter Try.func147, Try.ntmps147
    go_wp2_with (refine wpList_append_ran rfl _ _ 41 3 rfl _ _ rfl rfl hr ?_)
    go_ret
    refine ⟨_, rfl, ⟨rfl, Or.inr ⟨w.heap.size, C, _, rfl, Nat.le_refl _, heap_alloc_last w.drew _, Nat.zero_le _, hle, ?_, rfl⟩⟩, (Below.refl _ w).drew.alloc (by simp) _⟩
    simp only [Array.size_append, size_zeroCells]
    show n * 1 + (C - n) * 1 = C * 1
    omega
theorem run_append_zero {P : Program} {w : World} {base : Nat} (t ty e : TypeId) (i : TypeInfo) (size : Nat) (ht : P.underlying t = some (.slice e)) (hi : P.info? e = some i)
    (v : Value) (n : Nat) (xs : List Value) (hown : w.ownsRow base e size v n xs) (ad : Option Addr) (c : Nat) : (Builtin.append_ #[t, t] ty #[v, .slice ad 0 c]).run P w = .ok v w := by
  rcases hown.2 with ⟨rfl, rfl⟩ | ⟨g, cap, cur, rfl, _, _, hnc, _⟩
  · cases ad <;> simp [Builtin.append_, run_underlying ht, sizeOf, typeInfo, hi, Builtin.lenOf, Builtin.firstCells, loadCells, loadCellsFrom]
  · cases ad <;> simp [Builtin.append_, run_underlying ht, sizeOf, typeInfo, hi, Builtin.lenOf, Builtin.firstCells, hnc, storeCells, loadCells, loadCellsFrom]
theorem addr_add (b o j : Nat) : (⟨b, o, none⟩ : Addr).add j = ⟨b, o + j, none⟩ := by by_cases h : j = 0 <;> simp [Addr.add, h]
/-- Bytes put behind a slice of one's own. -/
theorem wpList_append_rd {ops : Array Oper} {rest : List Oper} {o : Oper} {a : Act} {w : World} {Q : Exit → Act → World → Prop} (hgd : o.guard = none) (s x : Operand)
    (ho : o.op = .call { callee := .builtin .append, args := #[s, x], argTypes := #[41, 41] }) (base : Nat)
    (v : Value) (n : Nat) (xs : List Value) (hs : a.eval s = v) (hown : w.ownsRow base 5 1 v n xs)
    (ad : Option Addr) (m c : Nat) (l : List Int) (hx : a.eval x = .slice ad m c) (hr : Rd .u8 w ad m l) (hn : n + m ≤ 1073741824) (hbase : base ≤ w.heap.size)
    (h : ∀ v' w', w'.ownsRow base 5 1 v' (n + m) (xs ++ l.map (Value.int .u8)) → Below base w w' → wpList Try.prog ops Q rest (a.put o.dst v') w') : wpList Try.prog ops Q (o :: rest) a w := by
  obtain ⟨i, hi, hz, hsz, hby⟩ := info5
  obtain ⟨hl, hr⟩ := hr
  by_cases h0 : m = 0
  · subst h0
    obtain rfl : l = [] := List.eq_nil_of_length_eq_zero hl
    refine wpList_append_ran hgd s x 41 41 ho v _ hs hx (run_append_zero 41 _ 5 i 1 Try.underlying41 hi v n xs hown ad c) ?_
    exact h v w (by simpa using hown) (Below.refl _ _)
  · obtain ⟨b, off, rfl, hb, hc⟩ : ∃ b off, ad = some ⟨b, off, none⟩ ∧ b < w.heap.size ∧ ∀ j, j < m → w.cell? ⟨b, off + j, none⟩ = some (.int .u8 (l[j]?.getD 0)) := by
      rcases hr with h1 | h1
      · exact absurd h1 h0
      · exact h1
    refine wpList_append_own w hgd s x 41 ho base 5 i _ 1 1 Try.underlying41 hi hz hsz hby rfl (by decide) v n xs hs hown ⟨b, off, none⟩ m c (l.map (Value.int .u8)) hx (by simp [hl]) (fun j u hu => ?_) (fun u hu => ?_) (by simp only [maxLen]; omega) (by omega) hbase (fun v' w' h1 h2 _ => ?_)
    · have hj : j < m := by have := (List.getElem?_eq_some_iff.1 hu).1; simpa [hl] using this
      rw [addr_add, hc j hj, ← hu]
      simp [hl, hj]
    · obtain ⟨z, _, rfl⟩ := List.mem_map.1 hu
      rfl
    · refine h v' w' h1 ((Below.refl base w).grown h2 hbase (fun k e => ?_))
      rcases hown.2 with ⟨rfl, _⟩ | ⟨g, cap, cur, rfl, hg, _⟩
      · simp [Value.ownBlock] at e
      · obtain rfl : g = k := by simpa [Value.ownBlock] using e
        exact hg
def catL (ls : List (List Int)) (k : Nat) : List Int := (ls.take k).flatten
theorem catL_succ {ls : List (List Int)} {j : Nat} (h : j < ls.length) : catL ls (j + 1) = catL ls j ++ ls[j] := by
  unfold catL
  rw [List.take_succ_eq_append_getElem h, List.flatten_append]
  simp
theorem catL_all (ls : List (List Int)) : catL ls ls.length = ls.flatten := by simp [catL]
theorem catL_le (ls : List (List Int)) (j : Nat) : (catL ls j).length ≤ ls.flatten.length := by
  have h : ls.flatten = catL ls j ++ (ls.drop j).flatten := by unfold catL; rw [← List.flatten_append, List.take_append_drop]
  rw [h, List.length_append]
  omega
/-- A slice of slices of bytes. -/
def RdS (w : World) (a : Option Addr) (k : Nat) (ls : List (List Int)) : Prop :=
  ls.length = k ∧ (k = 0 ∨ ∃ b off, a = some ⟨b, off, none⟩ ∧ b < w.heap.size ∧ ∀ j (h : j < ls.length), ∃ x n c, w.cell? ⟨b, off + j, none⟩ = some (.slice x n c) ∧ Rd .u8 w x n ls[j])
set_option maxRecDepth 100000 in
set_option maxHeartbeats 1000000 in
theorem concat_impl (a : Option Addr) (k cap : Nat) (ls : List (List Int)) (hk : k ≤ 1073741824) (ht : ls.flatten.length ≤ 1073741824) (w : World) (hr : RdS w a k ls) :
    Calls Try.prog 138 #[.slice a k cap] w fun e w' => ∃ v, e = .returned v ∧ w'.ownsRow w.heap.size 5 1 v ls.flatten.length (ls.flatten.map (Value.int .u8)) ∧ Below w.heap.size w w' := by
  have HR := Lib.hid hr
  have Hl := Lib.hid hr.1
  have Hle := Lib.hid (fun j => Nat.le_trans (catL_le ls j) ht)
  have Hall := Lib.hid (catL_all ls)
  rw [hr.1] at Hall
  have Hg := Lib.hid (fun (n : Nat) h => grow_impl n h w)
  clear hr ht
  generalize ls.flatten = T at Hle Hall
  go_enter Try.func138, Try.ntmps138
  go_wp2_with fail
  go_loopw [3, 11] (fun s i wr => ∃ j : Nat, j ≤ k ∧ i = .int .i64 j ∧ s = .int .i64 ((catL ls j).length : Nat) ∧ w = wr) (fun _ i _ => k - (intOf i).toNat)
  case atStart => exact ⟨0, by omega, rfl, rfl, rfl⟩
  case round =>
    obtain ⟨j, hj, rfl, rfl, rfl⟩ := hrel
    by_cases hlt : j < k
    · have hll : j < ls.length := by rw [Hl.out]; exact hlt
      have Hsu := Lib.hid (catL_succ hll)
      have Hb := Lib.hid (Hle.out (j + 1))
      rw [Hsu.out, List.length_append] at Hb
      obtain ⟨b, off, rfl, hb, hc⟩ : ∃ b off, a = some ⟨b, off, none⟩ ∧ b < w.heap.size ∧ ∀ j (h : j < ls.length), ∃ x n c, w.cell? ⟨b, off + j, none⟩ = some (.slice x n c) ∧ Rd .u8 w x n ls[j] := by
        rcases HR.out.2 with h0 | h
        · omega
        · exact h
      obtain ⟨x, n, c, hcell, hrd⟩ := hc j hll
      have hn := hrd.1
      clear hc
      generalize ls[j] = l at Hsu Hb hrd hn
      generalize hcj : catL ls j = cj at Hsu Hb
      have Hcj := Lib.hid hcj
      clear hcj
      subst hn
      have Hb' := Hb.out
      have b0 : (0 : Int) ≤ (j : Int) := by omega
      have b1 : (j : Int) < (k : Int) := by omega
      go_wp2_with fail
      exact ⟨⟨j + 1, by omega, by go_num, by rw [Hsu.out, List.length_append]; push_cast; rfl, trivial⟩, by simp [intOf]; omega⟩
    · obtain rfl : j = k := by omega
      rw [Hall.out]
      have Hft := Lib.hid (Hle.out j)
      rw [Hall.out] at Hft
      go_wp2_with fail
      refine (Hg.out _ Hft.out).mono ?_
      rintro e w1 ⟨v0, rfl, hown, hb⟩
      have HO := Lib.hid hown
      have HB := Lib.hid hb
      clear hown hb
      go_wp2_with fail
      go_loopw [6, 27] (fun v i wr => ∃ q : Nat, q ≤ j ∧ i = .int .i64 q ∧ wr.ownsRow w.heap.size 5 1 v (catL ls q).length ((catL ls q).map (Value.int .u8)) ∧ Below w.heap.size w wr) (fun _ i _ => j - (intOf i).toNat)
      case atStart => exact ⟨0, by omega, rfl, HO.out, HB.out⟩
      case round =>
        obtain ⟨q, hq, rfl, hown, hbw⟩ := hrel
        have HO2 := Lib.hid hown
        have HB2 := Lib.hid hbw
        clear hown hbw
        by_cases hlt : q < j
        · have hll : q < ls.length := by rw [Hl.out]; exact hlt
          have Hsu := Lib.hid (catL_succ hll)
          have Hb := Lib.hid (Hle.out (q + 1))
          rw [Hsu.out, List.length_append] at Hb
          obtain ⟨b, off, rfl, hb, hc⟩ : ∃ b off, a = some ⟨b, off, none⟩ ∧ b < w.heap.size ∧ ∀ j (h : j < ls.length), ∃ x n c, w.cell? ⟨b, off + j, none⟩ = some (.slice x n c) ∧ Rd .u8 w x n ls[j] := by
            rcases HR.out.2 with h0 | h
            · omega
            · exact h
          obtain ⟨x, n, c, hcell, hrd⟩ := hc q hll
          have hcell2 : wr.cell? ⟨b, off + q, none⟩ = some (.slice x n c) := by rw [HB2.out.cell (p := ⟨b, off + q, none⟩) hb]; exact hcell
          have HRd := Lib.hid (hrd.below HB2.out)
          have hn := hrd.1
          clear hc hcell hrd
          generalize ls[q] = l at Hsu Hb HRd hn
          generalize hcj : catL ls q = cj at Hsu Hb HO2
          clear hcj
          subst hn
          have b0 : (0 : Int) ≤ (q : Int) := by omega
          have b1 : (q : Int) < (j : Int) := by omega
          go_wp2_with (refine wpList_append_rd rfl _ _ rfl w.heap.size _ cj.length _ rfl HO2.out x l.length c l rfl HRd.out Hb.out HB2.out.size ?_; intro v1 w2 hown2 hb2)
          refine ⟨⟨q + 1, by omega, by go_num, ?_, HB2.out.trans hb2⟩, by simp [intOf]; omega⟩
          rw [Hsu.out, List.length_append, List.map_append]
          exact hown2
        · obtain rfl : q = j := by omega
          rw [Hall.out] at HO2
          go_wp2_with fail
          go_ret
          exact ⟨_, rfl, HO2.out, HB2.out⟩
end Go.Proofs.Ytdoelmjaongjfaa
