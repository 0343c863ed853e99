/- Whether two cutters are equal: both programs. -/
import Derived.Test.YtdhjnpafijockaaCutter
import Derived.Laws.BytesArg
import Derived.Lib.Strings
namespace Go.Proofs.Ytdhjnpafijockaa
open Go.ChangeShapes Go.WideShapes Go.ChangeAt Go.RowKit
set_option linter.unusedVariables false
set_option maxRecDepth 100000 in
theorem run_eql_rule (l m b l' m' b' : Int) (w : World) : (binOp .eql 25 (.agg #[.int .i64 l, .int .i64 m, .int .i64 b]) (.agg #[.int .i64 l', .int .i64 m', .int .i64 b'])).run Try.prog w = .ok (.bool (decide ([l, m, b] = [l', m', b']))) w := by
  rw [run_eql_struct, run_equalIn_agg w 9999 _ _ _ (by kernel_rfl) (by kernel_rfl)]
  have hf : ∃ f0 f1 f2 : Field, (Try.prog.fieldsOf 25).toList = [f0, f1, f2] ∧ f0.type = 2 ∧ f1.type = 2 ∧ f2.type = 2 ∧ f0.offset = 0 ∧ f1.offset = 1 ∧ f2.offset = 2 ∧ f0.name ≠ "_" ∧ f1.name ≠ "_" ∧ f2.name ≠ "_" := by
    refine ⟨_, _, _, rfl, rfl, rfl, rfl, rfl, rfl, rfl, ?_, ?_, ?_⟩ <;> decide
  obtain ⟨f0, f1, f2, hl, t0, t1, t2, o0, o1, o2, n0, n1, n2⟩ := hf
  rw [hl]
  have hu := Try.underlying2
  simp only [Op.eqFields, if_pos n0, if_pos n1, if_pos n2, t0, t1, t2, o0, o1, o2]
  simp [Sem.run_bind, part, isAgg, run_underlying hu, run_equalIn_int _ _ _ _ _ _ _ hu]
  by_cases h1 : l = l' <;> by_cases h2 : m = m' <;> by_cases h3 : b = b' <;> simp [h1, h2, h3]
theorem ret_b {a b : Bool} (h : b = a) : Ending.returned (.bool a) = .returned (.bool b) := by rw [h]
theorem nums_inj : ∀ (l k : List Int), (∀ z ∈ l, 0 ≤ z ∧ z ≤ 255) → (∀ z ∈ k, 0 ≤ z ∧ z ≤ 255) → (l.map fun n => UInt8.ofNat n.toNat) = (k.map fun n => UInt8.ofNat n.toNat) → l = k
  | [], [], _, _, _ => rfl
  | [], _ :: _, _, _, h => by simp at h
  | _ :: _, [], _, _, h => by simp at h
  | x :: l, y :: k, hl, hk, h => by
    simp only [List.map_cons, List.cons.injEq] at h
    have hx := hl x (by simp)
    have hy := hk y (by simp)
    have e : x = y := by
      have := congrArg UInt8.toNat h.1
      simp at this
      omega
    rw [e, nums_inj l k (fun z hz => hl z (by simp [hz])) (fun z hz => hk z (by simp [hz])) h.2]
theorem str_eq (l k : List Int) (fl : ∀ z ∈ l, 0 ≤ z ∧ z ≤ 255) (fk : ∀ z ∈ k, 0 ≤ z ∧ z ≤ 255) : ((strOfNums l).toList == (strOfNums k).toList) = decide (l = k) := by
  rw [Lib.toList_data, Lib.toList_data, strOfNums_data, strOfNums_data, Bool.eq_iff_iff]
  simp only [beq_iff_eq, decide_eq_true_eq]
  exact ⟨nums_inj l k fl fk, fun e => by rw [e]⟩
set_option maxHeartbeats 1000000 in
theorem bytes_equal (g h n m : Nat) (l k : List Int) (w : World) (hn : n ≤ 1048576) (hm : m ≤ 1048576) (hl : l.length = n) (hk : k.length = m) (fl : ∀ z ∈ l, 0 ≤ z ∧ z ≤ 255) (fk : ∀ z ∈ k, 0 ≤ z ∧ z ≤ 255)
    (hg : w.heap[g]? = some (.cells (ints .u8 l) 5)) (hh : w.heap[h]? = some (.cells (ints .u8 k) 5)) :
    Calls Try.prog 66 #[.slice (some ⟨g, 0, none⟩) n n, .slice (some ⟨h, 0, none⟩) m m] w fun e w' => e = .returned (.bool (decide (l = k))) ∧ Below w.heap.size w w' := by
  have c1 := run_convert_bytes_arg (P := Try.prog) (w := w) 29 5 Try.underlying29 Try.underlying5 g 0 n n l hl (fun i hi => by
    rw [cell_of_row w g (0 + i) _ _ _ hg, Nat.zero_add, ints_get .u8 l i (by omega)]; simp) 9 Try.underlying9
  have c2 := run_convert_bytes_arg (P := Try.prog) (w := w) 29 5 Try.underlying29 Try.underlying5 h 0 m m k hk (fun i hi => by
    rw [cell_of_row w h (0 + i) _ _ _ hh, Nat.zero_add, ints_get .u8 k i (by omega)]; simp) 9 Try.underlying9
  have S := Lib.hid (str_eq l k fl fk)
  clear hl hk fl fk hg hh
  generalize strOfNums l = s at c1 S
  generalize strOfNums k = t at c2 S
  go_enter Try.func66, Try.ntmps66
  go_wp2
  go_ret
  exact ⟨ret_b S.out.symm, Below.refl _ _⟩
set_option maxHeartbeats 2000000 in
theorem bytes_spec (g h n m : Nat) (l k : List Int) (w : World) (hn : n ≤ 1048576) (hm : m ≤ 1048576) (hl : l.length = n) (hk : k.length = m) (fl : ∀ z ∈ l, 0 ≤ z ∧ z ≤ 255) (fk : ∀ z ∈ k, 0 ≤ z ∧ z ≤ 255)
    (hg : w.heap[g]? = some (.cells (ints .u8 l) 5)) (hh : w.heap[h]? = some (.cells (ints .u8 k) 5)) :
    Calls Try.prog 65 #[.slice (some ⟨g, 0, none⟩) n n, .slice (some ⟨h, 0, none⟩) m m] w fun e w' => e = .returned (.bool (decide (l = k))) ∧ Below w.heap.size w w' := by
  clear fl fk
  have Hl := Lib.hid hl
  have Hk := Lib.hid hk
  have Hg := Lib.hid hg
  have Hh := Lib.hid hh
  clear hl hk hg hh
  by_cases hnm : n = m
  · subst hnm
    go_enter Try.func65, Try.ntmps65
    go_wp2
    go_loopw [5] (fun i wr => ∃ j : Nat, j ≤ n ∧ i = .int .i64 j ∧ Hid (∀ s, s < j → l[s]?.getD 0 = k[s]?.getD 0) ∧ Below w.heap.size w wr) (fun i _ => n - (intOf i).toNat)
    case atStart => exact ⟨0, by omega, rfl, Lib.hid (fun s hs => by omega), Below.refl _ _⟩
    case round =>
      obtain ⟨j, hj, rfl, hp, hb⟩ := hrel
      have Hw := Lib.hid hb
      by_cases hlt : j < n
      · have c1 := cell_of_row wr g j _ _ _ ((hb.block g (Array.getElem?_eq_some_iff.1 Hg.out).1).trans Hg.out)
        have c2 := cell_of_row wr h j _ _ _ ((hb.block h (Array.getElem?_eq_some_iff.1 Hh.out).1).trans Hh.out)
        rw [ints_get .u8 l j (by rw [Hl.out]; exact hlt)] at c1
        rw [ints_get .u8 k j (by rw [Hk.out]; exact hlt)] at c2
        clear hb
        by_cases hxy : l[j]?.getD 0 = k[j]?.getD 0
        · have Hxy := Lib.hid hxy
          rw [hxy] at c1
          clear hxy
          generalize k[j]?.getD 0 = x at c1 c2
          go_wp2
          go_quiet (fail)
          go_wp2
          go_roundw
          case rel => exact ⟨j + 1, by omega, by go_num, Lib.hid (fun s hs => by
            by_cases h : s = j
            · subst h; exact Hxy.out
            · exact hp.out s (by omega)), below_drewN Hw.out _⟩
          case measure => simp [intOf]; omega
        · have fin := Lib.hid (show decide (l = k) = false from decide_eq_false (fun e => hxy (by rw [e])))
          have hne : (l[j]?.getD 0 != k[j]?.getD 0) = true := by simpa using hxy
          clear hxy
          generalize l[j]?.getD 0 = x at c1 hne
          generalize k[j]?.getD 0 = y at c2 hne
          go_wp2
          go_quiet (fail)
          go_wp2
          go_ret
          exact ⟨ret_b fin.out, below_drewN Hw.out _⟩
      · obtain rfl : j = n := by omega
        have fin := Lib.hid (show decide (l = k) = true from decide_eq_true (by
          apply List.ext_getElem (by rw [Hl.out, Hk.out])
          intro i h1 h2
          have := hp.out i (by rw [← Hl.out]; exact h1)
          rw [List.getElem?_eq_getElem h1, List.getElem?_eq_getElem h2] at this
          exact this))
        clear hb
        go_wp2
        go_ret
        exact ⟨ret_b fin.out, Hw.out⟩
  · have fin := Lib.hid (show decide (l = k) = false from decide_eq_false (fun e => hnm (by rw [← Hl.out, ← Hk.out, e])))
    have hne : ((n : Int) != (m : Int)) = true := by simp; omega
    go_enter Try.func65, Try.ntmps65
    go_wp2
    go_ret
    exact ⟨ret_b fin.out, Below.refl _ _⟩
set_option maxRecDepth 100000 in
set_option maxHeartbeats 2000000 in
theorem same_spec (x0 x1 x2 y0 y1 y2 : Int) (g h n m : Nat) (l k : List Int) (c d : Int) (w : World) (hn : n ≤ 1048576) (hm : m ≤ 1048576) (hl : l.length = n) (hk : k.length = m) (fl : ∀ z ∈ l, 0 ≤ z ∧ z ≤ 255) (fk : ∀ z ∈ k, 0 ≤ z ∧ z ≤ 255)
    (hg : w.heap[g]? = some (.cells (ints .u8 l) 5)) (hh : w.heap[h]? = some (.cells (ints .u8 k) 5)) :
    Calls Try.prog 22 #[.agg #[.int .i64 x0, .int .i64 x1, .int .i64 x2, .int .u32 c, .slice (some ⟨g, 0, none⟩) n n], .agg #[.int .i64 y0, .int .i64 y1, .int .i64 y2, .int .u32 d, .slice (some ⟨h, 0, none⟩) m m]] w fun e w' => e = .returned (.bool (decide ([x0, x1, x2] = [y0, y1, y2]) && (decide (c = d) && decide (l = k)))) ∧ Below w.heap.size w w' := by
  have hq := fun W => run_eql_rule x0 x1 x2 y0 y1 y2 W
  have Hl := Lib.hid hl
  have Hk := Lib.hid hk
  have Fl := Lib.hid fl
  have Fk := Lib.hid fk
  have Hg := Lib.hid hg
  have Hh := Lib.hid hh
  clear hl hk fl fk hg hh
  by_cases e1 : [x0, x1, x2] = [y0, y1, y2]
  · have Hr := Lib.hid (show (decide ([x0, x1, x2] = [y0, y1, y2]) && (decide (c = d) && decide (l = k))) = (decide (c = d) && decide (l = k)) by rw [decide_eq_true e1]; rfl)
    rw [decide_eq_true e1] at hq
    have hq' : ∀ W, (binOp .eql 25 (.agg #[.int .i64 x0, .int .i64 x1, .int .i64 x2]) (.agg #[.int .i64 y0, .int .i64 y1, .int .i64 y2])).run Try.prog W = .ok (.bool true) W := hq
    clear e1 hq
    by_cases e2 : c = d
    · have Hr2 := Lib.hid (Hr.out.trans (show (decide (c = d) && decide (l = k)) = decide (l = k) by rw [decide_eq_true e2]; rfl))
      have e3 : (c == d) = true := by simpa using e2
      clear e2
      go_enter Try.func22, Try.ntmps22
      go_wp2_with fail
      refine (bytes_spec g h n m l k _ hn hm Hl.out Hk.out Fl.out Fk.out (by rw [Below.heap_alloc _ _ _ (by simp; have := (Array.getElem?_eq_some_iff.1 Hg.out).1; omega), Below.heap_alloc _ _ _ (Array.getElem?_eq_some_iff.1 Hg.out).1]; exact Hg.out) (by rw [Below.heap_alloc _ _ _ (by simp; have := (Array.getElem?_eq_some_iff.1 Hh.out).1; omega), Below.heap_alloc _ _ _ (Array.getElem?_eq_some_iff.1 Hh.out).1]; exact Hh.out)).mono ?_
      rintro e w1 ⟨rfl, hb⟩
      have Hb := Lib.hid (((((Below.refl w.heap.size w).alloc (by simp) _).alloc (by simp) _).trans (hb.mono (by simp; omega))))
      clear hb
      go_wp2
      go_ret
      exact ⟨ret_b (by rw [Hr2.out]), Hb.out⟩
    · have Hr2 := Lib.hid (Hr.out.trans (show (decide (c = d) && decide (l = k)) = false by rw [decide_eq_false e2]; rfl))
      have e3 : (c == d) = false := by simpa using e2
      clear e2
      go_enter Try.func22, Try.ntmps22
      go_wp2
      go_ret
      exact ⟨ret_b (by rw [Hr2.out]), by go_grown⟩
  · have Hr := Lib.hid (show (decide ([x0, x1, x2] = [y0, y1, y2]) && (decide (c = d) && decide (l = k))) = false by rw [decide_eq_false e1]; rfl)
    rw [decide_eq_false e1] at hq
    have hq' : ∀ W, (binOp .eql 25 (.agg #[.int .i64 x0, .int .i64 x1, .int .i64 x2]) (.agg #[.int .i64 y0, .int .i64 y1, .int .i64 y2])).run Try.prog W = .ok (.bool false) W := hq
    clear e1 hq
    go_enter Try.func22, Try.ntmps22
    go_wp2
    go_ret
    exact ⟨ret_b (by rw [Hr.out]), by go_grown⟩
set_option maxRecDepth 100000 in
set_option maxHeartbeats 2000000 in
theorem same_impl (x0 x1 x2 y0 y1 y2 : Int) (g h n m : Nat) (l k : List Int) (c d : Int) (w : World) (hn : n ≤ 1048576) (hm : m ≤ 1048576) (hl : l.length = n) (hk : k.length = m) (fl : ∀ z ∈ l, 0 ≤ z ∧ z ≤ 255) (fk : ∀ z ∈ k, 0 ≤ z ∧ z ≤ 255)
    (hg : w.heap[g]? = some (.cells (ints .u8 l) 5)) (hh : w.heap[h]? = some (.cells (ints .u8 k) 5)) :
    Calls Try.prog 24 #[.agg #[.int .i64 x0, .int .i64 x1, .int .i64 x2, .int .u32 c, .slice (some ⟨g, 0, none⟩) n n], .agg #[.int .i64 y0, .int .i64 y1, .int .i64 y2, .int .u32 d, .slice (some ⟨h, 0, none⟩) m m]] w fun e w' => e = .returned (.bool (decide ([x0, x1, x2] = [y0, y1, y2]) && (decide (c = d) && decide (l = k)))) ∧ Below w.heap.size w w' := by
  have hq := fun W => run_eql_rule x0 x1 x2 y0 y1 y2 W
  have Hl := Lib.hid hl
  have Hk := Lib.hid hk
  have Fl := Lib.hid fl
  have Fk := Lib.hid fk
  have Hg := Lib.hid hg
  have Hh := Lib.hid hh
  clear hl hk fl fk hg hh
  by_cases e1 : [x0, x1, x2] = [y0, y1, y2]
  · have Hr := Lib.hid (show (decide ([x0, x1, x2] = [y0, y1, y2]) && (decide (c = d) && decide (l = k))) = (decide (c = d) && decide (l = k)) by rw [decide_eq_true e1]; rfl)
    rw [decide_eq_true e1] at hq
    have hq' : ∀ W, (binOp .eql 25 (.agg #[.int .i64 x0, .int .i64 x1, .int .i64 x2]) (.agg #[.int .i64 y0, .int .i64 y1, .int .i64 y2])).run Try.prog W = .ok (.bool true) W := hq
    clear e1 hq
    by_cases e2 : c = d
    · have Hr2 := Lib.hid (Hr.out.trans (show (decide (c = d) && decide (l = k)) = decide (l = k) by rw [decide_eq_true e2]; rfl))
      have e3 : (c == d) = true := by simpa using e2
      clear e2
      go_enter Try.func24, Try.ntmps24
      go_wp2_with fail
      refine (bytes_equal g h n m l k _ hn hm Hl.out Hk.out Fl.out Fk.out (by rw [Below.heap_alloc _ _ _ (by simp; have := (Array.getElem?_eq_some_iff.1 Hg.out).1; omega), Below.heap_alloc _ _ _ (Array.getElem?_eq_some_iff.1 Hg.out).1]; exact Hg.out) (by rw [Below.heap_alloc _ _ _ (by simp; have := (Array.getElem?_eq_some_iff.1 Hh.out).1; omega), Below.heap_alloc _ _ _ (Array.getElem?_eq_some_iff.1 Hh.out).1]; exact Hh.out)).mono ?_
      rintro e w1 ⟨rfl, hb⟩
      have Hb := Lib.hid (((((Below.refl w.heap.size w).alloc (by simp) _).alloc (by simp) _).trans (hb.mono (by simp; omega))))
      clear hb
      go_wp2
      go_ret
      exact ⟨ret_b (by rw [Hr2.out]), Hb.out⟩
    · have Hr2 := Lib.hid (Hr.out.trans (show (decide (c = d) && decide (l = k)) = false by rw [decide_eq_false e2]; rfl))
      have e3 : (c == d) = false := by simpa using e2
      clear e2
      go_enter Try.func24, Try.ntmps24
      go_wp2
      go_ret
      exact ⟨ret_b (by rw [Hr2.out]), by go_grown⟩
  · have Hr := Lib.hid (show (decide ([x0, x1, x2] = [y0, y1, y2]) && (decide (c = d) && decide (l = k))) = false by rw [decide_eq_false e1]; rfl)
    rw [decide_eq_false e1] at hq
    have hq' : ∀ W, (binOp .eql 25 (.agg #[.int .i64 x0, .int .i64 x1, .int .i64 x2]) (.agg #[.int .i64 y0, .int .i64 y1, .int .i64 y2])).run Try.prog W = .ok (.bool false) W := hq
    clear e1 hq
    go_enter Try.func24, Try.ntmps24
    go_wp2
    go_ret
    exact ⟨ret_b (by rw [Hr.out]), by go_grown⟩
end Go.Proofs.Ytdhjnpafijockaa
