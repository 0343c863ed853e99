/- Blobs: brought over, measured, compared; their functions that hold no store. Written by wip/gen/src.py. -/
import Derived.Test.YtdoelmjaongjfaaBEq
import Derived.Test.YtdoelmjaongjfaaOpen
import Derived.Test.YtdoelmjaongjfaaPrioE
namespace Go.Proofs.Ytdoelmjaongjfaa
open Go.ChangeShapes Go.WideShapes Go.ChangeAt Go.RowKit
set_option linter.unusedVariables false
set_option linter.unusedSimpArgs false
set_option maxRecDepth 100000 in
theorem open_blob {H : Type} {enc : TypeId × Value → H} {w : World} {b0 : Nat} {r : Reach} {v : Value} {d : DataW H} {p : List MemPlace}
    (hv : Value.okWide Try.prog w r b0 51 v) (h : DataW.Trod enc Try.prog w 0 (fun _ => true) true 51 v d p) :
    ∃ (t : Int) (a : Option Addr) (n cap : Nat) (zs : List Int), v = .agg #[.int .u8 t, .slice a n cap] ∧ IsRow .u8 w a n cap zs ∧ (Lit.int .u8 t).wf = true := by
  obtain ⟨cs, rfl, hsz⟩ := okWide_struct Try.underlying51 hv
  have h10 : Try.prog.cellsOf 51 = 2 := by kernel_rfl
  rw [h10] at hsz
  obtain ⟨fuel, hf⟩ := h
  obtain ⟨xs, m, _, _, hlen, hxl, hfl⟩ := DataW.trod_struct Try.underlying51 hf
  have k0 := hfl 0 _ rfl
  have k1 := hfl 1 _ rfl
  have e0 : Try.prog.cellsOf 5 = 1 := by kernel_rfl
  have e1 : Try.prog.cellsOf 41 = 1 := by kernel_rfl
  simp only [Value.cells] at k0 k1
  have h3 : xs.length = 2 := hxl
  rw [List.getElem?_eq_getElem (by omega)] at k0 k1
  obtain ⟨t, hc, _, hcw⟩ := DataW.trod_int Try.underlying5 k0
  replace hc : (cs.toList.drop 0).take (Try.prog.cellsOf 5) = [Value.int .u8 t] := hc
  rw [e0] at hc
  have hrow : ∃ (a : Option Addr) (n cap : Nat) (zs : List Int), (cs.toList.drop 1).take 1 = [.slice a n cap] ∧ IsRow .u8 w a n cap zs := by
    rcases open_ints Try.underlying41 Try.underlying5 (by kernel_rfl) k1 with ⟨hcs, _⟩ | ⟨x, ln, cp, zs, hcs, _, hl', hm, hz, _, hcell, hwz⟩
    · exact ⟨none, 0, 0, [], hcs, .inl ⟨rfl, rfl, rfl, rfl⟩⟩
    · exact ⟨some x, ln, cp, zs, hcs, .inr ⟨x, rfl, hl', hm, by simpa using hz, hcell, hwz⟩⟩
  obtain ⟨a, n, cap, zs, hs, hr⟩ := hrow
  refine ⟨t, a, n, cap, zs, ?_, hr, hcw⟩
  have hall : cs.toList = [.int .u8 t, .slice a n cap] := by
    have hL : cs.toList.length = 2 := by simpa using hsz
    have q1 : cs.toList = (cs.toList.drop 0).take 1 ++ (cs.toList.drop 1).take 1 := by
      match cs.toList, hL with
      | [_, _], _ => rfl
    rw [q1, hc, hs]
    rfl
  have : cs = cs.toList.toArray := by simp
  rw [this, hall]
theorem heap_blk {w : World} {g : Nat} (h : g = w.heap.size) (o : Obj) : (w.alloc o).heap[g]? = some o := by
  subst h
  exact heap_alloc_last _ _
set_option maxRecDepth 100000 in
set_option maxHeartbeats 2000000 in
theorem toBl (t : Int) (a : Option Addr) (n cap : Nat) (k : List Int) (hn : n ≤ 1048576) (w : World) (hr : Rd .u8 w a n k) :
    Calls Try.prog 35 #[.agg #[.int .u8 t, .slice a n cap]] w fun e w' => ∃ g, e = .returned (.agg #[.int .u8 t, .slice (some ⟨g, 0, none⟩) n n]) ∧ w'.heap[g]? = some (.cells (ints .u8 k) 5) ∧ Below w.heap.size w w' := by
  have Hr := Lib.hid hr
  clear hr
  go_enter Try.func35, Try.ntmps35
  go_wp2_with fail
  refine (toBS a n cap k hn _ (Hr.out.below (by go_grown))).mono ?_
  rintro e w2 ⟨rfl, rfl⟩
  go_wp2
  go_returns
  exact ⟨_, rfl, heap_blk (by simp) _, by go_grown⟩
set_option maxRecDepth 100000 in
set_option maxHeartbeats 2000000 in
theorem szBl_in (t : Int) (a : Option Addr) (n cap : Nat) (left : Int) (h0 : 0 ≤ left) (h1 : left ≤ 1099511627776) (hn : (n : Int) ≤ left) (w : World) :
    Calls Try.prog 33 #[.agg #[.int .u8 t, .slice a n cap], .int .i64 left] w fun e w' => e = .returned (.int .i64 (left - n)) ∧ Below w.heap.size w w' := by
  have k2 : ¬ left - (n : Int) < 0 := by omega
  go_enter Try.func33, Try.ntmps33
  go_wp2_with fail
  refine (szBS_in a n cap left h0 h1 hn _).mono ?_
  rintro e w1 ⟨rfl, rfl⟩
  go_wp2
  go_ret
  exact ⟨rfl, by go_grown⟩
set_option maxRecDepth 100000 in
set_option maxHeartbeats 2000000 in
theorem szBl_out (t : Int) (a : Option Addr) (n cap : Nat) (left : Int) (h0 : 0 ≤ left) (h1 : left ≤ 1099511627776) (hm : n ≤ 9223372036854775807) (hn : left < (n : Int)) (w : World) :
    Calls Try.prog 33 #[.agg #[.int .u8 t, .slice a n cap], .int .i64 left] w fun e w' => e = .returned (.int .i64 (-1)) ∧ Below w.heap.size w w' := by
  go_enter Try.func33, Try.ntmps33
  go_wp2_with fail
  refine (szBS_out a n cap left h0 h1 hm hn _).mono ?_
  rintro e w1 ⟨rfl, rfl⟩
  go_wp2
  go_ret
  exact ⟨rfl, by go_grown⟩
set_option maxRecDepth 100000 in
set_option maxHeartbeats 2000000 in
theorem eqBl (t : Int) (a a' : Option Addr) (n ca cb : Nat) (k : List Int) (hn : n ≤ 1048576) (w : World) (hr : Rd .u8 w a n k) (hs : Rd .u8 w a' n k) :
    Calls Try.prog 30 #[.agg #[.int .u8 t, .slice a n ca], .agg #[.int .u8 t, .slice a' n cb]] w fun e w' => e = .returned (.bool true) ∧ Below w.heap.size w w' := by
  have Hr := Lib.hid hr
  have Hs := Lib.hid hs
  clear hr hs
  go_enter Try.func30, Try.ntmps30
  go_wp2_with fail
  refine (eqBS a a' n ca cb k hn _ (Hr.out.below (by go_grown)) (Hs.out.below (by go_grown))).mono ?_
  rintro e w2 ⟨rfl, hb2⟩
  have B2 := Lib.hid (below_call (show Below w.heap.size w _ from by go_grown) (by simp; omega) hb2)
  clear hb2
  go_wp2
  go_ret
  exact ⟨rfl, B2.out⟩
/-- Whether there are not too many bytes. -/
def blB (n : Nat) : Bool := decide (n ≤ 1024)
set_option maxRecDepth 100000 in
set_option maxHeartbeats 2000000 in
theorem vb_impl (t : Int) (a : Option Addr) (n cap : Nat) (hn : n ≤ 1048576) (w : World) :
    Calls Try.prog 75 #[.agg #[.int .u8 t, .slice a n cap]] w fun e w' => e = .returned (.bool (blB n)) ∧ Below w.heap.size w w' := by
  unfold blB
  by_cases h : n ≤ 1024
  · have h1 : (n : Int) ≤ 1024 := by omega
    rw [decide_eq_true h]
    go_enter Try.func75, Try.ntmps75
    go_wp2
    go_ret
    exact ⟨rfl, by go_grown⟩
  · have h1 : ¬ (n : Int) ≤ 1024 := by omega
    rw [decide_eq_false h]
    go_enter Try.func75, Try.ntmps75
    go_wp2
    go_ret
    exact ⟨rfl, by go_grown⟩
set_option maxRecDepth 100000 in
set_option maxHeartbeats 2000000 in
theorem vb_spec0 (g o : Nat) (a : Option Addr) (n cap : Nat) (hn : n ≤ 1048576) (w : World) (c1 : w.cell? ⟨g, o + 1, none⟩ = some (.slice a n cap)) :
    Calls Try.prog 71 #[.pointer (some ⟨g, o, none⟩)] w fun e w' => e = .returned (.bool (blB n)) ∧ w = w' := by
  unfold blB
  by_cases h : n ≤ 1024
  · have h1 : (n : Int) ≤ 1024 := by omega
    rw [decide_eq_true h]
    go_enter Try.func71, Try.ntmps71
    go_wp2
    go_ret
    exact ⟨rfl, rfl⟩
  · have h1 : ¬ (n : Int) ≤ 1024 := by omega
    rw [decide_eq_false h]
    go_enter Try.func71, Try.ntmps71
    go_wp2
    go_ret
    exact ⟨rfl, rfl⟩
end Go.Proofs.Ytdoelmjaongjfaa
