/- Cutters: opened, brought over, compared; one that has got nothing. -/
import Derived.Test.YtdamgodfgoackaaRule
import Derived.Test.YtdamgodfgoackaaBytes
import Derived.Test.YtdamgodfgoackaaRd
namespace Go.Proofs.Ytdamgodfgoackaa
open Go.ChangeShapes Go.WideShapes Go.ChangeAt Go.RowKit
set_option linter.unusedVariables false
theorem sizeCi : (Try.prog.info? 64).map (·.size) = some 5 := by kernel_rfl
theorem sizeCl : (Try.prog.info? 59).map (·.size) = some 5 := by kernel_rfl
set_option maxRecDepth 100000 in
theorem open_cutter {H : Type} {enc : TypeId × Value → H} {w : World} {b0 : Nat} {r : Reach} {v : Value} {d : DataW H} {p : List MemPlace}
    (hv : Value.okWide Try.prog w r b0 59 v) (h : DataW.Trod enc Try.prog w 0 (fun _ => true) true 59 v d p) :
    ∃ (l m b q : Int) (a : Option Addr) (n cap : Nat) (zs : List Int), v = .agg #[.int .i64 l, .int .i64 m, .int .i64 b, .int .u32 q, .slice a n cap] ∧ IsRow .u8 w a n cap zs ∧ (∀ z ∈ [l, m, b], (Lit.int .i64 z).wf = true) ∧ (Lit.int .u32 q).wf = true := by
  obtain ⟨cs, rfl, hsz⟩ := okWide_struct Try.underlying59 hv
  have h10 : Try.prog.cellsOf 59 = 5 := by kernel_rfl
  rw [h10] at hsz
  obtain ⟨fuel, hf⟩ := h
  obtain ⟨xs, m, _, _, hlen, hxl, hfl⟩ := DataW.trod_struct Try.underlying59 hf
  have k0 := hfl 0 _ rfl
  have k1 := hfl 1 _ rfl
  have k2 := hfl 2 _ rfl
  have e8 : Try.prog.cellsOf 57 = 3 := by kernel_rfl
  have e1 : Try.prog.cellsOf 22 = 1 := by kernel_rfl
  have e2 : Try.prog.cellsOf 31 = 1 := by kernel_rfl
  simp only [Value.cells] at k0 k1 k2
  have h3 : xs.length = 3 := hxl
  rw [List.getElem?_eq_getElem (by omega)] at k0 k1 k2
  obtain ⟨l, mm, b, hl8, w1, w2, w3⟩ := trod_rule k0
  replace hl8 : (cs.toList.drop 0).take (Try.prog.cellsOf 57) = [.int .i64 l, .int .i64 mm, .int .i64 b] := hl8
  rw [e8, List.drop_zero] at hl8
  obtain ⟨q, hc, _, hcw⟩ := DataW.trod_int Try.underlying31 k1
  replace hc : (cs.toList.drop 3).take (Try.prog.cellsOf 31) = [Value.int .u32 q] := hc
  rw [e2] at hc
  have hrow : ∃ (a : Option Addr) (n cap : Nat) (zs : List Int), (cs.toList.drop 4).take 1 = [.slice a n cap] ∧ IsRow .u8 w a n cap zs := by
    rcases open_ints Try.underlying22 Try.underlying5 (by kernel_rfl) k2 with ⟨hcs, _⟩ | ⟨x, ln, cp, zs, hcs, _, hl', hm, hz, _, hcell, hwz⟩
    · exact ⟨none, 0, 0, [], hcs, .inl ⟨rfl, rfl, rfl, rfl⟩⟩
    · exact ⟨some x, ln, cp, zs, hcs, .inr ⟨x, rfl, hl', hm, by simpa using hz, hcell, hwz⟩⟩
  obtain ⟨a, n, cap, zs, hs, hr⟩ := hrow
  refine ⟨l, mm, b, q, a, n, cap, zs, ?_, hr, by simp [w1, w2, w3], hcw⟩
  have hall : cs.toList = [.int .i64 l, .int .i64 mm, .int .i64 b, .int .u32 q, .slice a n cap] := by
    have hL : cs.toList.length = 5 := by simpa using hsz
    have q1 : cs.toList = cs.toList.take 3 ++ ((cs.toList.drop 3).take 1 ++ ((cs.toList.drop 4).take 1)) := by
      match cs.toList, hL with
      | [_, _, _, _, _], _ => rfl
    rw [q1, hl8, hs, hc]
    rfl
  have : cs = cs.toList.toArray := by simp
  rw [this, hall]
theorem heap_at {w : World} {g : Nat} (h : g = w.heap.size) (o : Obj) : (w.alloc o).heap[g]? = some o := by
  subst h
  exact heap_alloc_last _ _
set_option maxRecDepth 100000 in
set_option maxHeartbeats 2000000 in
theorem toC (l m b q : Int) (a : Option Addr) (n cap : Nat) (k : List Int) (hn : n ≤ 1048576) (w : World) (hr : Rd .u8 w a n k) :
    Calls Try.prog 42 #[.agg #[.int .i64 l, .int .i64 m, .int .i64 b, .int .u32 q, .slice a n cap]] w fun e w' => ∃ g, e = .returned (.agg #[.int .i64 l, .int .i64 m, .int .i64 b, .int .u32 q, .slice (some ⟨g, 0, none⟩) n n]) ∧ w'.heap[g]? = some (.cells (ints .u8 k) 5) ∧ Below w.heap.size w w' := by
  have Hr := Lib.hid hr
  clear hr
  go_enter Try.func42, Try.ntmps42
  go_wp2_with fail
  refine (toR _ _ _ _).mono ?_
  rintro e w1 ⟨rfl, rfl⟩
  go_wp2_with fail
  refine (toBS a n cap k hn _ (Hr.out.below (by go_grown))).mono ?_
  rintro e w2 ⟨rfl, rfl⟩
  go_wp2
  go_returns
  exact ⟨_, rfl, heap_at (by simp) _, by go_grown⟩
set_option maxRecDepth 100000 in
set_option maxHeartbeats 2000000 in
theorem eqR (l m b : Int) (w : World) :
    Calls Try.prog 90 #[.agg #[.int .i64 l, .int .i64 m, .int .i64 b], .agg #[.int .i64 l, .int .i64 m, .int .i64 b]] w fun e w' => e = .returned (.bool true) ∧ Below w.heap.size w w' := by
  go_enter Try.func90, Try.ntmps90
  go_wp2
  go_ret
  exact ⟨rfl, by go_grown⟩
set_option maxRecDepth 100000 in
set_option maxHeartbeats 2000000 in
theorem eqC (l m b q : Int) (a a' : Option Addr) (n ca cb : Nat) (k : List Int) (hn : n ≤ 1048576) (w : World) (hr : Rd .u8 w a n k) (hs : Rd .u8 w a' n k) :
    Calls Try.prog 44 #[.agg #[.int .i64 l, .int .i64 m, .int .i64 b, .int .u32 q, .slice a n ca], .agg #[.int .i64 l, .int .i64 m, .int .i64 b, .int .u32 q, .slice a' n cb]] w fun e w' => e = .returned (.bool true) ∧ Below w.heap.size w w' := by
  have Hr := Lib.hid hr
  have Hs := Lib.hid hs
  clear hr hs
  go_enter Try.func44, Try.ntmps44
  go_wp2_with fail
  refine (eqR _ _ _ _).mono ?_
  rintro e w1 ⟨rfl, hb1⟩
  have hB1 := Lib.hid (((((Below.refl w.heap.size w).alloc (by simp) _).alloc (by simp) _).trans (hb1.mono (by simp; omega))))
  have hA := (hb1.block w.heap.size (by simp; omega)).trans (heap_alloc2_old _ _ _)
  have hB := (hb1.block (w.heap.size + 1) (by simp)).trans (heap_alloc2_new _ _ _)
  have HA := Lib.hid hA
  have HB := Lib.hid hB
  have a8 := cell_of_row w1 w.heap.size 3 _ _ _ hA
  have b8 := cell_of_row w1 (w.heap.size + 1) 3 _ _ _ hB
  have a9 := cell_of_row w1 w.heap.size 4 _ _ _ hA
  have b9 := cell_of_row w1 (w.heap.size + 1) 4 _ _ _ hB
  clear hb1 hA hB
  simp only [List.getElem?_toArray, List.getElem?_cons_succ, List.getElem?_cons_zero] at a8 b8 a9 b9
  go_wp2_with fail
  refine (eqBS a a' n ca cb k hn _ (Hr.out.below hB1.out) (Hs.out.below hB1.out)).mono ?_
  rintro e w2 ⟨rfl, hb2⟩
  have hB2 := Lib.hid (below_call hB1.out hB1.out.size hb2)
  clear hb2
  clear a8 b8
  go_wp2
  go_ret
  exact ⟨rfl, hB2.out⟩
set_option maxRecDepth 100000 in
set_option maxHeartbeats 2000000 in
theorem szC_in (l m b q : Int) (a : Option Addr) (n cap : Nat) (left : Int) (h0 : 0 ≤ left) (h1 : left ≤ 1048576) (hn : (n : Int) ≤ left) (w : World) :
    Calls Try.prog 40 #[.agg #[.int .i64 l, .int .i64 m, .int .i64 b, .int .u32 q, .slice a n cap], .int .i64 left] w fun e w' => e = .returned (.int .i64 (left - n)) ∧ Below w.heap.size w w' := by
  go_enter Try.func40, Try.ntmps40
  go_wp2_with fail
  refine (szBS_in a n cap left h0 (by omega) hn _).mono ?_
  rintro e w' ⟨rfl, rfl⟩
  go_wp2
  go_ret
  exact ⟨rfl, (Below.refl _ _).alloc (by simp) _⟩
set_option maxRecDepth 100000 in
set_option maxHeartbeats 2000000 in
theorem szC_out (l m b q : Int) (a : Option Addr) (n cap : Nat) (left : Int) (h0 : 0 ≤ left) (h1 : left ≤ 1048576) (hm : n ≤ 9223372036854775807) (hn : left < (n : Int)) (w : World) :
    Calls Try.prog 40 #[.agg #[.int .i64 l, .int .i64 m, .int .i64 b, .int .u32 q, .slice a n cap], .int .i64 left] w fun e w' => e = .returned (.int .i64 (-1)) ∧ Below w.heap.size w w' := by
  go_enter Try.func40, Try.ntmps40
  go_wp2_with fail
  refine (szBS_out a n cap left h0 (by omega) hm hn _).mono ?_
  rintro e w' ⟨rfl, rfl⟩
  go_wp2
  go_ret
  exact ⟨rfl, (Below.refl _ _).alloc (by simp) _⟩
set_option maxRecDepth 100000 in
set_option maxHeartbeats 1000000 in
theorem markC0 (l m b q : Int) (a : Option Addr) (cap : Nat) (k : Int) (h0 : 0 ≤ k) (h1 : k ≤ 1099511627776) (w : World) :
    Calls Try.prog 63 #[.agg #[.int .i64 l, .int .i64 m, .int .i64 b, .int .u32 q, .slice a 0 cap], .int .i64 k] w fun e w' => e = .returned (.int .i64 k) ∧ Below w.heap.size w w' := by
  go_enter Try.func63, Try.ntmps63
  go_wp2_with fail
  refine (markBS0 a cap k _).mono ?_
  rintro e w' ⟨rfl, rfl⟩
  go_wp2
  go_ret
  exact ⟨rfl, (Below.refl _ _).alloc (by simp) _⟩
/-- The cutter that has got nothing, and the code. -/
def cutC (l m b : Int) : Array Value := if vR l m b then #[.int .i64 l, .int .i64 m, .int .i64 b, .int .u32 0, .slice none 0 0] else #[.int .i64 0, .int .i64 0, .int .i64 0, .int .u32 0, .slice none 0 0]
def cutE (l m b : Int) : Int := if vR l m b then 0 else 1
end Go.Proofs.Ytdamgodfgoackaa
