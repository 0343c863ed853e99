/- KeysOfStore, by program and specification. Written by hand. -/
import Derived.Test.YtdoelmjaongjfaaFill
import Derived.Test.YtdoelmjaongjfaaOps
import Derived.RangeFuncGives
import Derived.RangeFuncBound
import Derived.RangeFuncNested
import Derived.RangeFuncCalls
import Derived.RangeFuncLeaves
import Derived.Sort.MapsRangeIn
import Derived.Shelf.AbstractIn
import Derived.Shelf.RegionOpen
import Derived.TacticsInMore
import Derived.RegionIn
import Derived.LoopNIn
import Derived.LoopIn
import Derived.OwnWalkIn
import Derived.Test.YtdoelmjaongjfaaChunk
import Derived.RangeFuncBox
import Derived.Maps.AppendAt
import Derived.Shelf.SlSortCmp.NoneTotal
import Derived.Ground.SlsfProg
import Derived.Test.YtdoelmjaongjfaaProg
import Derived.Test.YtdoelmjaongjfaaGrd
import Derived.Test.YtdoelmjaongjfaaStoreB
namespace Go.Proofs.Ytdoelmjaongjfaa
open Go.ChangeShapes Go.WideShapes Go.ChangeAt Go.RowKit
set_option linter.unusedVariables false
set_option linter.unusedSimpArgs false
open Go.Shelf
attribute [local go_sem] Oper.semAt_some
section
variable {F : Fence} {n : Nat} {P : Program} {ops : Array Oper} {rest : List Oper} {o : Oper} {a : Act} {w : World} {Q : Exit → Act → World → Prop}
theorem wpListIn_load_row (hgd : o.guard = none) (ty : TypeId) (x : Operand) (ho : o.op = .load ty x)
    (g : Nat) (hx : a.eval x = .pointer (some ⟨g, 0, none⟩)) (t : TypeId) (cs : Array Value) (fr : Nat × Nat) (d : TypeDesc) (hg : w.heap[g]? = some (.cells cs t fr))
    (hu : P.underlying ty = some d) (hd : (match d with | .struct _ | .array _ _ => true | _ => false) = true) (hi : (P.info? ty).map (·.size) = some cs.size)
    (h : wpListIn F n P ops Q rest (a.put o.dst (.agg cs)) w) : wpListIn F n P ops Q (o :: rest) a w :=
  wpListIn_plain hgd fun _ hK => wpIn_value (v := .agg cs) (w1 := w) (by rw [ho]; intro c h; cases h) (by simp [Oper.about, ho])
    (by unfold execOp; simp only [ho, hx, Instr.loadAt, Instr.sureAddr, Sem.run_bind, Sem.run_pure, Result.andThen_ok, run_loadVar_row w g t ty cs fr d hg hu hd hi]) (hK _ _ h)
theorem wpListIn_store_row (hgd : o.guard = none) (ty : TypeId) (x y : Operand) (ho : o.op = .store ty x y)
    (g : Nat) (cells : Array Value) (hx : a.eval x = .pointer (some ⟨g, 0, none⟩)) (hy : a.eval y = .agg cells)
    (t : TypeId) (old : Array Value) (hg : w.heap[g]? = some (.cells old t (0, 0))) (hi : (P.info? ty).map (·.size) = some cells.size)
    (hold : old.size = cells.size) (h1 : cells.all (·.oneCell') = true)
    (h : wpListIn F n P ops Q rest (a.put o.dst undef) (w.setRow g cells)) : wpListIn F n P ops Q (o :: rest) a w :=
  wpListIn_plain hgd fun _ hK => wpIn_skip (w1 := w.setRow g cells) (by rw [ho]; intro c h; cases h) (by simp [Oper.about, ho])
    (by unfold execOp; simp only [ho, hx, hy, Instr.storeAt, Instr.sureAddr, Sem.run_bind, Sem.run_pure, Result.andThen_ok, run_storeVar_row w g t ty old cells hg hi hold h1]) (hK _ _ h)
theorem wpListIn_buildSlice_one (hgd : o.guard = none) (t e : TypeId) (x : Operand) (ho : o.op = .buildSlice t 1 #[(0, x)])
    {i : TypeInfo} {z : Value} (hu : P.underlying t = some (.slice e)) (hi : P.info? e = some i) (hz : i.zero = some z) (v : Array Value) (hx : a.eval x = .agg v) (hs : v.size = i.size) (hb : i.size ≤ 2 ^ 24) (h0 : 0 < i.size)
    (h : wpListIn F n P ops Q rest (a.put o.dst (.slice (some ⟨w.heap.size, 0, none⟩) 1 1)) (w.alloc (.cells v e))) : wpListIn F n P ops Q (o :: rest) a w :=
  wpListIn_plain hgd fun _ hK => wpIn_buildSlice_one t e x ho hu hi hz v hx hs hb h0 (hK _ _ h)
end
theorem grown_of_below {w w1 : World} (h : Below w.heap.size w w1) : w.grownBy w1 none := ⟨h.os, h.tape, h.output, h.size, fun k hk _ => h.block k hk⟩
def encK (x : KeyS) : Value := kv x.1
/-- The keys that stand in a list of entries. -/
def keysOfP (ps : List (List Int × Value)) (h : ∀ p ∈ ps, IsK p.1) : List KeyS := ps.attach.map fun p => ⟨p.1.1, h p.1 p.2⟩
set_option maxRecDepth 100000 in
set_option maxHeartbeats 2000000 in
theorem keys1_in (F : Fence) (n : Nat) (hF : F.fn 111) (hro : F.round = none) (hn : 1 ≤ n) (l Bm b : Nat) (ps : List (List Int × Value)) (J Jx : List KeyS → World → Prop)
    (hY : ∀ pre x W, J pre W → pre.length < ps.length → YieldAt F (n - 1) Try.prog l #[encK x] W fun e W' => (e = .returned (.bool true) ∧ J (pre ++ [x]) W' ∧ KeepsWalks W W') ∨ (e = .returned (.bool false) ∧ Jx (pre ++ [x]) W'))
    (W : World) (hJ : AbidesFrom W.heap.size J) (hm : W.cell? ⟨Bm, 0, none⟩ = some (.map (some b))) (hown : KMap Try.prog 46 W b ps) (h0 : J [] W) :
    CallsIn F n Try.prog 111 #[.func (.yield l) #[] #[], .pointer (some ⟨Bm, 0, none⟩)] W fun e W' => (∃ v, e = .returned v) ∧ ((∃ ss : List KeyS, (ss.map (·.1)).Perm (ps.map (·.1)) ∧ J ss W') ∨ (∃ pre : List KeyS, True ∧ Jx pre W')) := by
  obtain ⟨D, hD, hDs, hD1, hD2⟩ := hown.owns kty
  have hks := hown.key
  have hap := hown.apart kty
  have Hz := Lib.hid z32_ints
  refine callsIn_of_wp Try.func111 rfl hF ?_ hro
  simp only [Try.ntmps111, List.size_toArray, List.length_cons, List.length_nil, Nat.reduceAdd, Nat.reduceSub, Array.replicate_succ, Array.replicate_zero, List.push_toArray, List.append_toArray, List.nil_append, List.cons_append]
  gi_wp2_with (first
    | (gi_at_range; refine wpListIn_range_own _ rfl _ 80 rfl 46 43 kty.law shelfTy hR b ps.length _ rfl hD ?_; intro w0 hrg0 hg0 hs0)
    | gi_in)
  go_frame
  gi_loopw [3] (fun _ wr => ∃ (left : Lit → Bool) (cnt : Nat) (xs : List (List Int × Value)) (ss : List KeyS), wr.ranges Try.prog 46 hR b W.heap.size ps.length D left cnt ∧ xs.length + cnt ≤ ps.length ∧ Met Try.prog 46 ps left xs ∧ ss.map (·.1) = xs.map (·.1) ∧ J ss wr)
    (fun _ wr => wr.rangeLeft b W.heap.size)
  case atStart =>
    exact ⟨_, _, [], [], hrg0, by simp [hDs], Met.start kty hks hD2, rfl, hJ [] W w0 none h0 hg0 (fun r e => by cases e)⟩
  case round =>
    obtain ⟨left, cnt, xs, ss, hrg, hcs, hC, hss, hJs⟩ := hrel
    gi_wp2_with (first
      | (gi_at_next; refine wpListIn_next_ranges _ rfl _ rfl 46 kty.law hR kv id (fun key kl hk => by obtain ⟨x, _, hx⟩ := kv_of_keyOf kty hk; exact ⟨x, hx⟩) (fun v _ _ => ⟨v, rfl⟩) b W.heap.size ps.length D _ _ rfl hrg ?_ ?_)
      | gi_in)
    · intro hc0 hl0
      gi_wp2
      go_end0
      exact ⟨⟨_, rfl⟩, .inl ⟨ss, by rw [hss]; exact (hC.perm hap hl0).map _, hJs⟩⟩
    · intro x c kl yd yp w2 cnt2 hkey hlk hv hat hrg2 hlt hg2 hs2 hen
      have hx : IsK x := by
        obtain ⟨x', h1, h2⟩ := kv_of_keyOf kty hkey
        rw [kv_inj h2]
        exact h1
      obtain ⟨_, hC2⟩ := hC.step kty hap hD1 hD2 hkey hlk hv hat
      have hJ2 : J ss w2 := hJ ss wr w2 (some W.heap.size) hJs hg2 (fun r e => by cases e; exact ⟨Nat.le_refl _, hrg.iter_walk⟩)
      have LB := layB w2 (ints .u8 z32) (ints .u8 x) 46
      have LN := layN w2 (ints .u8 z32) (ints .u8 x) 46
      have hlen : ss.length = xs.length := by have := congrArg List.length hss; simpa using this
      obtain ⟨fn, tmps, assign, body, hy, hR⟩ := hY ss ⟨x, hx⟩ _ (hJ ss w2 _ none hJ2 (grown_of_below LB) (fun r e => by cases e)) (by omega)
      have hrg3 := hrg2.kept (grown_of_below LB) (by simp) (by simp)
      have hy' : (Instr.yield l #[.agg (ints .u8 x)]).run Try.prog _ = .ok (.round l fn tmps assign body) _ := hy
      have hen' : (Instr.entry (.pointer (some ⟨W.heap.size, 0, none⟩))).run Try.prog w2 = .ok (.tuple #[.agg (ints .u8 x), c]) w2 := hen
      have HXL := Lib.hid hx.1
      have HRG := Lib.hid hrg3
      have HRR := Lib.hid hR
      clear hs2 hy hen hR hrg3 hJ2
      rw [Hz.out] at hy' HRR HRG LN
      have HLN := Lib.hid LN
      clear LN LB
      gi_wp2_with (first
        | (refine wpListIn_store_row rfl 46 (.tmp 3) _ rfl w2.heap.size (ints .u8 x) rfl rfl 46 (ints .u8 z32) (by rw [Hz.out]; exact heap_alloc_last _ _) (by rw [ints_size, HXL.out]; exact sizeKey) (by rw [ints_size, ints_size, HXL.out]; rfl) (ints_one _ _) ?_)
        | (refine wpListIn_load_row rfl 46 (.tmp 3) rfl w2.heap.size rfl 46 (ints .u8 x) (0, 0) _ HLN.out Try.underlying46 rfl (by rw [ints_size, HXL.out]; exact sizeKey) ?_)
        | gi_in)
      refine HRR.out.mono ?_
      rintro e W3 (⟨rfl, hJ3, hk3⟩ | ⟨rfl, hJx3⟩)
      · gi_wp2
        have hrg4 := HRG.out.of_walks hk3
        go_roundw
        case rel => exact ⟨_, cnt2, xs ++ [(x, c)], ss ++ [⟨x, hx⟩], hrg4, by simp; omega, hC2, by rw [List.map_append, List.map_append, hss]; rfl, hJ3⟩
        case measure => rw [hrg4.left_eq, hrg.left_eq]; exact hlt
      · gi_wp2
        refine bodyPost_ret (results_none rfl _ _ _) rfl ?_
        exact ⟨⟨_, rfl⟩, .inr ⟨ss ++ [⟨x, hx⟩], trivial, hJx3⟩⟩
theorem keys_stops (F : Fence) (n : Nat) (hF : F.fn 111) (hro : F.round = none) (hn : 1 ≤ n) (Bm b : Nat) (ps : List (List Int × Value)) (w : World) (hBm : Bm < w.heap.size) (hm : w.cell? ⟨Bm, 0, none⟩ = some (.map (some b))) (hown : KMap Try.prog 46 w b ps) :
    SeqStopsK F n Try.prog 111 #[.pointer (some ⟨Bm, 0, none⟩)] (fun x : KeyS => #[encK x]) KeepsWalks (fun ss => (ss.map (·.1)).Perm (ps.map (·.1))) (fun _ => True) ps.length w := fun l J Jx W hW hJ _ hY h0 =>
  keys1_in F n hF hro hn l Bm b ps J Jx hY W hJ ((hW.cell (p := ⟨Bm, 0, none⟩) hBm).trans hm) (hown.later hW) h0
set_option maxRecDepth 100000 in
set_option maxHeartbeats 1000000 in
theorem keys_in (F : Fence) (n : Nat) (hF : F.fn 100) (hro : F.round = none) (mb : Option Nat) (w : World) :
    CallsIn F n Try.prog 100 #[.map mb] w fun e w' => e = .returned (.func (.func 111) #[] #[.pointer (some ⟨w.heap.size, 0, none⟩)]) ∧ w' = w.alloc (.cells #[.map mb] 80) := by
  refine callsIn_of_wp Try.func100 rfl hF ?_ hro
  simp only [Try.ntmps100, List.size_toArray, List.length_cons, List.length_nil, Nat.reduceAdd, Nat.reduceSub, Array.replicate_succ, Array.replicate_zero, List.push_toArray, List.append_toArray, List.nil_append, List.cons_append]
  gi_wp2
  go_ret
  exact ⟨rfl, rfl⟩
end Go.Proofs.Ytdoelmjaongjfaa
namespace Go.Proofs.Ytdoelmjaongjfaa
open Go.ChangeShapes Go.WideShapes Go.ChangeAt Go.RowKit
set_option linter.unusedVariables false
set_option linter.unusedSimpArgs false
open Go.Shelf
attribute [local go_sem] Oper.semAt_some
theorem new_cells (W : World) (l : List Int) (T : TypeId) : ∀ (j : Nat) (u : Value), (l.map (Value.int .u8))[j]? = some u → (W.alloc (.cells (ints .u8 l) T)).cell? ((⟨W.heap.size, 0, none⟩ : Addr).add j) = some u := by
  intro j u hu
  rw [addr_add, Nat.zero_add, cell_of_row _ W.heap.size j _ _ _ (heap_alloc_last W (.cells (ints .u8 l) T)), ← hu]
  simp [ints]
theorem one_cells (l : List Int) : ∀ u ∈ l.map (Value.int .u8), u.oneCell' = true := by
  intro u hu
  obtain ⟨z, _, rfl⟩ := List.mem_map.1 hu
  rfl
def AxK (Bs : Nat) (sv : Value) (x : KeyS) (a' : Act) (W : World) : Prop :=
  ∃ kb, a' = { tmps := #[.slice none 0 0, sv, .pointer (some ⟨Bs, 0, none⟩), undef, .slice none 0 0, .pointer (some ⟨kb, 0, none⟩), sv, .agg (ints .u8 x.1), undef, undef, undef, undef, undef], defers := [] } ∧ W.heap[kb]? = some (.cells (ints .u8 x.1) 46 (0, 0))
theorem AxK.own (Bs : Nat) (sv : Value) (x : KeyS) (a' : Act) (B : Nat) : OwnFrom B (fun (_ : Unit) W => AxK Bs sv x a' W) := fun s W W' row h hg hr => by
  obtain ⟨kb, e, hk⟩ := h
  refine ⟨kb, e, (hg.block kb (Array.getElem?_eq_some_iff.1 hk).1 (fun e' => ?_)).trans hk⟩
  obtain ⟨_, o, ho, hc⟩ := hr kb e'.symm
  rw [hk] at ho
  cases ho
  cases hc
set_option maxRecDepth 100000 in
set_option maxHeartbeats 4000000 in
theorem appendSeq_in (F : Fence) (n : Nat) (hF : F.fn 119) (hro : F.round = none) (hn : 2 ≤ n) (gf : Nat) (lb : Array Value) (hFg : F.fn gf) (eg : ∀ args w, (callFunc gf args).run Try.prog w = .ok (.enter gf args) w)
    (S Sp : List KeyS → Prop) (N : Nat) (hN : N ≤ 1048576) (w : World) (hseq : SeqStopsK F (n - 1) Try.prog gf lb (fun x : KeyS => #[encK x]) KeepsWalks S Sp N w) :
    CallsIn F n Try.prog 119 #[.slice none 0 0, .func (.func gf) #[] lb] w fun e w' => ∃ (v : Value) (ss : List KeyS), e = .returned v ∧ S ss ∧ w'.ownsRow w.heap.size 46 32 v ss.length ((flatK ss).map (Value.int .u8)) ∧ Below w.heap.size w w' := by
  have h1 : 1 ≤ n := by omega
  obtain ⟨i0, z0, hi0, hz0, hs0, hb0, hz1⟩ := keyParts2
  have Hz := Lib.hid z32_ints
  refine callsIn_of_wp_marks Try.func119 rfl hF ?_ hro
  simp only [Try.ntmps119, List.size_toArray, List.length_cons, List.length_nil, Nat.reduceAdd, Nat.reduceSub, Array.replicate_succ, Array.replicate_zero, List.push_toArray, List.append_toArray, List.nil_append, List.cons_append]
  gi_wp2
  have bO := Boxed.new w 34 (.slice none 0 0)
  have hB0 : Below w.heap.size w (w.alloc (.cells #[.slice none 0 0] 34)) := (Below.refl _ w).alloc (Nat.le_refl _) _
  obtain ⟨W0, hW0⟩ : ∃ W0, w.alloc (.cells #[.slice none 0 0] 34) = W0 := ⟨_, rfl⟩
  have hsz : W0.heap.size = w.heap.size + 1 := by rw [← hW0]; simp
  rw [hW0] at hB0 bO ⊢
  have hO1 : Own (fun (pre : List KeyS) (W : World) => ∃ v, Boxed W w.heap.size 34 v ∧ W.ownsRow w.heap.size 46 32 v pre.length ((flatK pre).map (Value.int .u8)) ∧ True) := by
    exact holdsRow_own (β := List KeyS) w.heap.size w.heap.size 34 46 32 (fun pre : List KeyS => pre.length) (fun pre : List KeyS => (flatK pre).map (Value.int .u8)) (fun (_ : List KeyS) (_ : Value) => True)
  have hO2 : OwnFrom W0.heap.size (fun (_ : List KeyS) W => Below w.heap.size w W) := ownFrom_below (Nat.le_refl _) (by omega)
  have hOw := OwnFrom.and (Own.from hO1 W0.heap.size) hO2
  refine wpIn_rangeFunc_ownH hro h1 (gf := gf) (lb := lb) rfl hFg eg hseq (fun h k => walksK_t h k) walksK_b hB0 (fun _ => rfl)
    (fun pre W => (∃ v, Boxed W w.heap.size 34 v ∧ W.ownsRow w.heap.size 46 32 v pre.length ((flatK pre).map (Value.int .u8)) ∧ True) ∧ Below w.heap.size w W)
    (fun _ _ _ => False) hOw (fun _ _ _ _ _ hs _ _ => hs) ⟨⟨_, bO, ⟨rfl, Or.inl ⟨rfl, rfl⟩⟩, trivial⟩, hB0⟩ (AxK w.heap.size (.func (.func gf) #[] lb)) (fun x a' => AxK.own _ _ x a' _) ?assign ?body ?done ?stop
  case assign =>
    rintro l pre ⟨x, hx⟩ W K ⟨⟨v, hv, hrow, _⟩, hB⟩ hK
    have LB := layB W (ints .u8 z32) (ints .u8 x) 46
    have LN := layN W (ints .u8 z32) (ints .u8 x) 46
    have hg := grown_of_below LB
    have hv2 := hv.kept hg (by simp)
    have hr2 := hrow.kept hg (by cases hvb : v.ownBlock with | none => exact Or.inl rfl | some q => exact Or.inr (by simp))
    have HXL := Lib.hid hx.1
    have HKK := Lib.hid (hK { tmps := #[.slice none 0 0, .func (.func gf) #[] lb, .pointer (some ⟨w.heap.size, 0, none⟩), undef, .slice none 0 0, .pointer (some ⟨W.heap.size, 0, none⟩), .func (.func gf) #[] lb, .agg (ints .u8 x), undef, undef, undef, undef, undef], defers := [] } _ ⟨LB.size, fun k o _ hk _ => (LB.block k (Array.getElem?_eq_some_iff.1 hk).1).trans hk⟩ ⟨LB.size, fun k o hk _ => (LB.block k (Array.getElem?_eq_some_iff.1 hk).1).trans hk⟩ ⟨⟨v, hv2, hr2, trivial⟩, hB.trans (LB.mono hB.size)⟩ ⟨W.heap.size, rfl, LN⟩)
    clear hK LB LN hg hv2 hr2 hv hrow hB
    rw [Hz.out] at HKK
    gi_wp2_with (first
      | (refine wpListIn_store_row rfl 46 (.tmp 5) _ rfl W.heap.size (ints .u8 x) rfl rfl 46 (ints .u8 z32) (by rw [Hz.out]; exact heap_alloc_last _ _) (by rw [ints_size, HXL.out]; exact sizeKey) (by rw [ints_size, ints_size, HXL.out]; rfl) (ints_one _ _) ?_)
      | gi_in)
    exact HKK.out
  case body =>
    rintro l pre X a' W - - ⟨⟨v, hv, hrow, _⟩, hB⟩ ⟨kb, rfl, hk⟩ hlt
    have HXL := Lib.hid X.2.1
    have HK := Lib.hid hk
    have hc := hv.cell
    have HV := Lib.hid hv
    have HR := Lib.hid hrow
    have HB := Lib.hid hB
    clear hk hv hrow hB
    gi_wp2_with (first
      | (refine wpListIn_load_row rfl 46 (.tmp 5) rfl kb rfl 46 (ints .u8 X.1) (0, 0) _ HK.out Try.underlying46 rfl (by rw [ints_size, HXL.out]; exact sizeKey) ?_)
      | (refine wpListIn_buildSlice_one rfl 34 46 _ rfl Try.underlying34 hi0 hz0 (ints .u8 X.1) rfl (by rw [ints_size, HXL.out, hs0]) (by rw [hs0]; decide) (by rw [hs0]; decide) ?_)
      | (gi_at_builtin; refine wpListIn_append_own _ rfl _ _ 34 rfl w.heap.size 46 i0 z0 32 32 Try.underlying34 hi0 hz0 hs0 hb0 hz1 (by decide) v pre.length ((flatK pre).map (Value.int .u8)) rfl (HR.out.alloc _) ⟨W.heap.size, 0, none⟩ 1 1 (X.1.map (Value.int .u8)) rfl (by rw [List.length_map, HXL.out]) (new_cells W X.1 46) (one_cells X.1) (by unfold maxLen; omega) (by omega) (by have := HB.out.size; simp; omega) ?_; intro v' w3 hown' hg3 hnil3
         obtain ⟨g4, c4, rfl⟩ := ownsRow_succ hown'
         obtain ⟨hv1, hv2, hr2, hk2, hb2⟩ := Boxed.appended (W := W) HV.out (by decide) HR.out HB.out.size (Nat.le_refl _) hown' hg3
         have hc3 := hv1.cell
         have hf3 := hv1.frozen
         go_frame)
      | gi_in)
    refine ⟨hk2.from _, hk2.walks, ⟨⟨_, hv2, ?_, trivial⟩, HB.out.trans hb2⟩⟩
    have e1 : (flatK (pre ++ [X])).map (Value.int .u8) = (flatK pre).map (Value.int .u8) ++ X.1.map (Value.int .u8) := by rw [flatK_snoc, List.map_append]
    have e2 : (pre ++ [X]).length = pre.length + 1 := by simp
    have h3 : (w3.setCell ⟨w.heap.size, 0, none⟩ (.slice (some ⟨g4, 0, none⟩) (pre.length + 1) c4)).ownsRow w.heap.size 46 32 (.slice (some ⟨g4, 0, none⟩) (pre.length + 1) c4) (pre ++ [X]).length ((flatK (pre ++ [X])).map (Value.int .u8)) := by
      rw [e1, e2]
      exact hr2
    exact h3
  case done =>
    rintro D ys W hD hS ⟨⟨v, hv, hrow, _⟩, hB⟩ hK
    have hc := hv.cell
    gi_wp2
    refine ⟨by simp, .inl ⟨_, _, rfl, run_takeDeferred hK, ?_⟩⟩
    exact ⟨_, results_tmp rfl _ _ _, v, ys, rfl, hS, ownsRow_putObj hrow _ hK rfl, hB.trans (belowK_b (w := w) (Nat.le_refl _) W D _ _ (by omega) hK rfl rfl)⟩
  case stop =>
    rintro D c pre W _ _ h _
    exact h.elim
set_option maxHeartbeats 1000000 in
theorem collect_in (F : Fence) (n : Nat) (hC : F.fn 109) (hA : F.fn 119) (hro : F.round = none) (hn : 3 ≤ n) (gf : Nat) (lb : Array Value) (hFg : F.fn gf) (eg : ∀ args w, (callFunc gf args).run Try.prog w = .ok (.enter gf args) w)
    (S Sp : List KeyS → Prop) (N : Nat) (hN : N ≤ 1048576) (w : World) (hseq : SeqStopsK F (n - 1 - 1) Try.prog gf lb (fun x : KeyS => #[encK x]) KeepsWalks S Sp N w) :
    CallsIn F n Try.prog 109 #[.func (.func gf) #[] lb] w fun e w' => ∃ (v : Value) (ss : List KeyS), e = .returned v ∧ S ss ∧ w'.ownsRow w.heap.size 46 32 v ss.length ((flatK ss).map (Value.int .u8)) ∧ Below w.heap.size w w' := by
  have h1 : 1 ≤ n := by omega
  refine callsIn_of_wp Try.func109 rfl hC ?_ hro
  simp only [Try.ntmps109, List.size_toArray, List.length_cons, List.length_nil, Nat.reduceAdd, Nat.reduceSub, Array.replicate_succ, Array.replicate_zero, List.push_toArray, List.append_toArray, List.nil_append, List.cons_append]
  gi_wp2_with (gi_at_call 119; refine (appendSeq_in F (n - 1) hA hro (by omega) gf lb hFg eg S Sp N hN _ hseq).mono ?_; rintro e w' ⟨v, ss, rfl, hS, hrow, hb⟩)
  go_ret
  exact ⟨v, ss, rfl, hS, hrow, hb⟩
end Go.Proofs.Ytdoelmjaongjfaa
namespace Go.Proofs
open Go.Shelf
def Try.sortKeys_ren : Go.Shelf.Ren := ⟨fun | 6 => 110 | 15 => 121 | 14 => 120 | 28 => 135 | 29 => 136 | 20 => 127 | 21 => 128 | 22 => 129 | 23 => 130 | 24 => 131 | 25 => 132 | 26 => 133 | 27 => 134 | 46 => 142 | 47 => 143 | 48 => 144 | 49 => 145 | 50 => 146 | 57 => 149 | n => n, fun | 22 => 34 | 24 => 46 | 25 => 126 | 3 => 3 | 39 => 147 | 0 => 0 | 53 => 137 | 55 => 162 | 4 => 4 | 46 => 154 | 45 => 153 | 50 => 158 | 5 => 5 | 9 => 9 | 66 => 168 | 70 => 172 | 76 => 179 | 77 => 180 | n => n, fun | n => n⟩
theorem Try.sortKeys : Go.Proofs.SlLaysF0.n6 Try.prog Try.sortKeys_ren := {
  mixed := by kernel_rfl
  f6 := ⟨Try.f110.name, by decide, Try.func110.trans (congrArg some (by kernel_rfl))⟩
  f14 := ⟨Try.f120.name, by decide, Try.func120.trans (congrArg some (by kernel_rfl))⟩
  f15 := Try.func121.trans (congrArg some (by kernel_rfl))
  f20 := ⟨Try.f127.name, by decide, Try.func127.trans (congrArg some (by kernel_rfl))⟩
  f21 := ⟨Try.f128.name, by decide, Try.func128.trans (congrArg some (by kernel_rfl))⟩
  f22 := ⟨Try.f129.name, by decide, Try.func129.trans (congrArg some (by kernel_rfl))⟩
  f23 := ⟨Try.f130.name, by decide, Try.func130.trans (congrArg some (by kernel_rfl))⟩
  f24 := ⟨Try.f131.name, by decide, Try.func131.trans (congrArg some (by kernel_rfl))⟩
  f25 := ⟨Try.f132.name, by decide, Try.func132.trans (congrArg some (by kernel_rfl))⟩
  f26 := ⟨Try.f133.name, by decide, Try.func133.trans (congrArg some (by kernel_rfl))⟩
  f27 := ⟨Try.f134.name, by decide, Try.func134.trans (congrArg some (by kernel_rfl))⟩
  f28 := Try.func135.trans (congrArg some (by kernel_rfl))
  f29 := Try.func136.trans (congrArg some (by kernel_rfl))
  f46 := ⟨Try.f142.name, by decide, Try.func142.trans (congrArg some (by kernel_rfl))⟩
  f47 := Try.func143.trans (congrArg some (by kernel_rfl))
  f48 := Try.func144.trans (congrArg some (by kernel_rfl))
  f49 := ⟨Try.f145.name, by decide, Try.func145.trans (congrArg some (by kernel_rfl))⟩
  f50 := ⟨Try.f146.name, by decide, Try.func146.trans (congrArg some (by kernel_rfl))⟩
  f57 := ⟨Try.f149.name, by decide, Try.func149.trans (congrArg some (by kernel_rfl))⟩
  t0 := Try.underlying0
  a0 := Try.isAgg0
  z0 := Try.sizeOf0
  v0 := Try.zeroValue0
  t3 := Try.underlying3
  a3 := Try.isAgg3
  z3 := Try.sizeOf3
  v3 := Try.zeroValue3
  t4 := Try.underlying4
  a4 := Try.isAgg4
  z4 := Try.sizeOf4
  v4 := Try.zeroValue4
  t5 := Try.underlying5
  a5 := Try.isAgg5
  z5 := Try.sizeOf5
  v5 := Try.zeroValue5
  t9 := Try.underlying9
  a9 := Try.isAgg9
  z9 := Try.sizeOf9
  v9 := Try.zeroValue9
  t22 := Try.underlying34
  a22 := Try.isAgg34
  z22 := Try.sizeOf34
  v22 := Try.zeroValue34
  t25 := Try.underlying126
  a25 := Try.isAgg126
  z25 := Try.sizeOf126
  v25 := Try.zeroValue126
  t39 := Try.underlying147
  a39 := Try.isAgg147
  z39 := Try.sizeOf147
  v39 := Try.zeroValue147
  t45 := Try.underlying153
  a45 := Try.isAgg153
  z45 := Try.sizeOf153
  v45 := Try.zeroValue153
  t46 := Try.underlying154
  a46 := Try.isAgg154
  z46 := Try.sizeOf154
  v46 := Try.zeroValue154
  t50 := Try.underlying158
  a50 := Try.isAgg158
  z50 := Try.sizeOf158
  v50 := Try.zeroValue158
  t53 := Try.underlying137
  a53 := Try.isAgg137
  z53 := Try.sizeOf137
  v53 := Try.zeroValue137
  t55 := Try.underlying162
  a55 := Try.isAgg162
  z55 := Try.sizeOf162
  v55 := Try.zeroValue162
  t66 := Try.underlying168
  a66 := Try.isAgg168
  z66 := Try.sizeOf168
  v66 := Try.zeroValue168
  t70 := Try.underlying172
  a70 := Try.isAgg172
  z70 := Try.sizeOf172
  v70 := Try.zeroValue172
  t76 := Try.underlying179
  a76 := Try.isAgg179
  z76 := Try.sizeOf179
  v76 := Try.zeroValue179
  t77 := Try.underlying180
  a77 := Try.isAgg180
  z77 := Try.sizeOf180
  v77 := Try.zeroValue180 }
end Go.Proofs
namespace Go.Proofs.Ytdoelmjaongjfaa
open Go.ChangeShapes Go.WideShapes Go.ChangeAt Go.RowKit
set_option linter.unusedVariables false
set_option linter.unusedSimpArgs false
open Go.Sort Go.Shelf
def encL (x : KeyS) : List Value := x.1.map (Value.int .u8)
theorem encL_len (x : KeyS) : (encL x).length = 32 := by unfold encL; rw [List.length_map]; exact x.2.1
theorem flatK_get : ∀ (ss : List KeyS) (i j : Nat) (x : KeyS), ss[i]? = some x → j < 32 → (flatK ss)[32 * i + j]? = x.1[j]?
  | [], _, _, _, h, _ => by simp at h
  | y :: r, 0, j, x, h, hj => by
    simp at h
    subst h
    show (y.1 ++ flatK r)[32 * 0 + j]? = _
    rw [List.getElem?_append_left (by rw [y.2.1]; omega)]
    congr 1
    omega
  | y :: r, i + 1, j, x, h, hj => by
    show (y.1 ++ flatK r)[32 * (i + 1) + j]? = _
    rw [List.getElem?_append_right (by rw [y.2.1]; omega), y.2.1, show 32 * (i + 1) + j - 32 = 32 * i + j by omega]
    exact flatK_get r i j x (by simpa using h) hj
theorem flat_cells (ss : List KeyS) : (Go.Sort.flatK encL 32 ss.toArray).toList = (flatK ss).map (Value.int .u8) := by
  apply List.ext_getElem (by rw [Array.length_toList, Go.Sort.size_flatK, List.length_map, flatK_len]; simp; omega)
  intro t h1 h2
  rw [Array.length_toList, Go.Sort.size_flatK] at h1
  have hs : ss.toArray.size = ss.length := by simp
  rw [hs] at h1
  have hi : t / 32 < ss.length := by omega
  have hj : t % 32 < 32 := by omega
  have e1 : (Go.Sort.flatK encL 32 ss.toArray)[t]! = (encL ss.toArray[t / 32]!)[t % 32]! := Go.Sort.get_flatK _ _ _ _ (by rw [hs]; exact h1)
  have e2 := flatK_get ss (t / 32) (t % 32) ss[t / 32] (List.getElem?_eq_getElem hi) hj
  rw [show 32 * (t / 32) + t % 32 = t by omega] at e2
  have e3 : ss.toArray[t / 32]! = ss[t / 32] := by simp [hi]
  rw [e3] at e1
  have hx : t % 32 < (ss[t / 32]).1.length := by rw [(ss[t / 32]).2.1]; exact hj
  rw [List.getElem?_eq_getElem hx] at e2
  have h3 : t < (flatK ss).length := by rw [flatK_len]; omega
  rw [List.getElem?_eq_getElem h3] at e2
  have e4 : (encL ss[t / 32])[t % 32]! = Value.int .u8 ((ss[t / 32]).1[t % 32]) := by
    rw [getElem!_pos _ _ (by rw [encL_len]; exact hj)]
    simp [encL]
  rw [e4] at e1
  rw [Array.getElem_toList, List.getElem_map, Option.some.inj e2, ← e1, getElem!_pos]
theorem holds_keys {w : World} {g n : Nat} {cur : Array Value} {e : TypeId} {ss : List KeyS} (hn : n = ss.length) (hb : w.heap[g]? = some (.cells cur e (0, 0))) (ht : cur.toList.take (n * 32) = (flatK ss).map (Value.int .u8)) : HoldsK encL 32 w g 0 ss.toArray := by
  intro j hj
  have hj0 := hj
  rw [Go.Sort.size_flatK] at hj
  have hs : ss.toArray.size = ss.length := by simp
  rw [hs] at hj
  refine ⟨?_, by simp [World.frozen?, hb]⟩
  have h1 : (cur.toList.take (n * 32))[j]? = (Go.Sort.flatK encL 32 ss.toArray).toList[j]? := by rw [ht, flat_cells]
  rw [List.getElem?_take_of_lt (by rw [hn]; exact hj)] at h1
  simp only [World.cell?, hb, Nat.zero_add, Option.isSome_none, Bool.false_eq_true, if_false]
  rw [← Array.getElem?_toList, h1, Array.getElem?_toList, Array.getElem?_eq_getElem hj0]
  show some _ = some (id _)
  exact congrArg some (getElem!_pos (Go.Sort.flatK encL 32 ss.toArray) j hj0).symm
theorem heap_sortedK {w : World} {g n : Nat} {os : Array Obj} {cur : Array Value} {e : TypeId} {fr : Nat × Nat} (d : Array KeyS) (hb : w.heap[g]? = some (.cells cur e fr)) :
    (sortWorldK encL 32 w g 0 n d os).heap[g]? = some (.cells (putCells id 0 (Go.Sort.flatK encL 32 d) cur) e fr) := by
  have hg : g < w.heap.size := (Array.getElem?_eq_some_iff.1 hb).1
  unfold sortWorldK putRowK
  rw [heap_grow_old _ _ (by simpa using hg)]
  simp [putRow, mapBlock, Sort.ahead, Array.getElem?_modify, hb, onCells]
theorem grownBy_sortedK {w : World} {g n : Nat} {os : Array Obj} (d : Array KeyS) : w.grownBy (sortWorldK encL 32 w g 0 n d os) (some g) := by
  unfold sortWorldK putRowK
  refine ⟨rfl, rfl, rfl, by simp, fun k hk hne => ?_⟩
  rw [heap_grow_old _ _ (by simpa using hk)]
  have : g ≠ k := fun e => hne (by rw [e])
  simp [putRow, mapBlock, Sort.ahead, Array.getElem?_modify, this]
theorem take_putCellsK (cur F : Array Value) (h : F.size ≤ cur.size) : (putCells id 0 F cur).toList.take F.size = F.toList := by
  apply List.ext_getElem?
  intro j
  by_cases hj : j < F.size
  · rw [List.getElem?_take_of_lt hj, Array.getElem?_toList]
    simp [putCells, hj, show j < cur.size by omega]
  · rw [List.getElem?_take_eq_none (by omega), List.getElem?_eq_none (by simp; omega)]
theorem owns_sortedK {w : World} {base g cap m n : Nat} {os : Array Obj} {cur : Array Value} {e : TypeId} {ts : List KeyS} (hl : ts.length = m) (hbase : base ≤ g) (hb : w.heap[g]? = some (.cells cur e (0, 0))) (h1 : m ≤ cap) (h2 : cap ≤ maxLen) (h3 : cur.size = cap * 32) :
    (sortWorldK encL 32 w g 0 n ts.toArray os).ownsRow base e 32 (.slice (some ⟨g, 0, none⟩) m cap) m ((flatK ts).map (Value.int .u8)) := by
  have hF : (Go.Sort.flatK encL 32 ts.toArray).size = m * 32 := by rw [Go.Sort.size_flatK]; simp [hl]
  refine ⟨by rw [List.length_map, flatK_len, hl]; omega, .inr ⟨g, cap, _, rfl, hbase, heap_sortedK _ hb, h1, h2, by simp [putCells, h3], ?_⟩⟩
  rw [← hF, take_putCellsK _ _ (by rw [hF]; omega), flat_cells]
set_option maxRecDepth 100000 in
set_option maxHeartbeats 1000000 in
theorem cmp_grow (a b : List Int) (ha : a.length = 32) (hb : b.length = 32) (fa : ∀ x ∈ a, 0 ≤ x ∧ x ≤ 255) (fb : ∀ x ∈ b, 0 ≤ x ∧ x ≤ 255) (w : World) :
    Calls Try.prog 96 #[.agg (ints .u8 a), .agg (ints .u8 b)] w fun e w' => e = .returned (.int .i64 (cmpI a b)) ∧ ∃ q os', w' = grow (w.drewN q) os' := by
  have Ha := Lib.hid ha
  have Hb := Lib.hid hb
  have Fa := Lib.hid fa
  have Fb := Lib.hid fb
  clear ha hb fa fb
  have c1 := Lib.hid (cells_of_row (κ := .u8) (l := a) (heap_alloc2_old w (.cells (ints .u8 a) 46) (.cells (ints .u8 b) 46)))
  have c2 := Lib.hid (cells_of_row (κ := .u8) (l := b) (heap_alloc2_new w (.cells (ints .u8 a) 46) (.cells (ints .u8 b) 46)))
  go_enter Try.func96, Try.ntmps96
  go_wp2_with fail
  go_quiet ((go_at_call 108; exact Calls.quiet_of_same (bytes_compare a b _ _ _ 32 Ha.out Hb.out Fa.out Fb.out (fun i hi => c1.out i (by rw [Ha.out]; exact hi)) (fun i hi => c2.out i (by rw [Hb.out]; exact hi)))))
  go_wp2
  go_ret
  exact ⟨rfl, _, #[.cells (ints .u8 a) 46, .cells (ints .u8 b) 46], by rw [alloc_eq_grow, alloc_eq_grow, grow_grow]; rfl⟩
end Go.Proofs.Ytdoelmjaongjfaa
namespace Go.Proofs.Ytdoelmjaongjfaa
open Go.ChangeShapes Go.WideShapes Go.ChangeAt Go.RowKit
set_option linter.unusedVariables false
set_option linter.unusedSimpArgs false
open Go.Sort Go.Shelf
theorem isAggK : ∀ w, (isAgg 46).run Try.prog w = .ok true w := Try.isAgg46
theorem sizeOfK : ∀ w, (Go.sizeOf 46).run Try.prog w = .ok 32 w := Try.sizeOf46
set_option maxRecDepth 100000 in
set_option maxHeartbeats 2000000 in
theorem ord_grow (x y : KeyS) (w : World) :
    Calls Try.prog 101 #[.agg (ints .u8 x.1), .agg (ints .u8 y.1)] w fun e w' => e = .returned (.int .i64 (cfK x y)) ∧ ∃ q os', w' = grow (w.drewN q) os' := by
  have HX := Lib.hid x.2
  have HY := Lib.hid y.2
  have hcmp := Lib.hid (fun W => cmp_grow x.1 y.1 x.2.1 y.2.1 x.2.2 y.2.2 W)
  have e1 : cfK x y = cmpI x.1 y.1 := rfl
  rw [e1]
  clear e1
  have c1 := Lib.hid (heap_alloc2_old w (.cells (ints .u8 x.1) 46) (.cells (ints .u8 y.1) 46))
  have c2 := Lib.hid (heap_alloc2_new w (.cells (ints .u8 x.1) 46) (.cells (ints .u8 y.1) 46))
  generalize x.1 = a at *
  generalize y.1 = b at *
  go_enter Try.func101, Try.ntmps101
  go_wp2_with (first
    | (refine wpList_load_row rfl 46 _ rfl w.heap.size rfl 46 (ints .u8 a) (0, 0) _ c1.out Try.underlying46 rfl (by rw [ints_size, HX.out.1]; exact sizeKey) ?_)
    | (refine wpList_load_row rfl 46 _ rfl (w.heap.size + 1) rfl 46 (ints .u8 b) (0, 0) _ c2.out Try.underlying46 rfl (by rw [ints_size, HY.out.1]; exact sizeKey) ?_)
    | (go_at_call 96; refine (hcmp.out _).mono ?_; rintro e w' ⟨rfl, q, os, rfl⟩))
  go_ret
  refine ⟨rfl, q, #[.cells (ints .u8 a) 46, .cells (ints .u8 b) 46] ++ os, ?_⟩
  rw [alloc_eq_grow, alloc_eq_grow, grow_grow]
  exact grow_grow (w.drewN q) _ os
theorem cmpLaysK (blk off size : Nat) (w : World) : CmpLays Try.prog 101 #[] encL 32 cfK blk off size w := fun _ _ _ _ x y => ord_grow x y _
theorem sort_keys (blk cap : Nat) (ks : List KeyS) (w : World) (hH : HoldsK encL 32 w blk 0 ks.toArray) (hblk : blk < w.heap.size) (hsz : ks.length ≤ 1048576) :
    Calls Try.prog 110 #[.slice (some ⟨blk, 0, none⟩) ks.length cap, .func (.func 101) #[] #[]] w fun e w' => e = .returned (.tuple #[]) ∧ ∃ n os, w' = sortWorldK encL 32 w blk 0 n (sortK ks).toArray os := by
  have eg : ∀ args w, (callFunc 101 args).run Try.prog w = .ok (.enter 101 args) w := enters_of Try.func101 (by kernel_rfl) rfl
  have h := AnyQ.slices_SortFunc_total Try.sortKeys 32 isAggK sizeOfK encL encL_len (fun x v hv => by simp only [encL, List.mem_map] at hv; obtain ⟨z, _, rfl⟩ := hv; rfl) cfK swoK 101 #[] blk 0 cap ks.toArray w eg (cmpLaysK blk 0 _ w) hH hblk (by simp; omega) totK
  have es : ks.toArray.size = ks.length := by simp
  rw [es] at h
  exact h
theorem sort_none (p : Option Addr) (cap : Nat) (fv : Value) (w : World) :
    Calls Try.prog 110 #[.slice p 0 cap, fv] w fun e w' => e = .returned (.tuple #[]) ∧ w' = w := AnyF.slices_SortFunc_none Try.sortKeys p cap fv w
theorem below_sorted {w : World} {base g n : Nat} {os : Array Obj} (d : Array KeyS) (h : base ≤ g) (hl : g < w.heap.size) : Below base w (sortWorldK encL 32 w g 0 n d os) := by
  have hg := grownBy_sortedK (w := w) (g := g) (n := n) (os := os) d
  exact ⟨hg.os, hg.tape, hg.output, hg.size, fun k hk => hg.block k (by omega) (by simp; omega)⟩
set_option maxRecDepth 100000 in
set_option maxHeartbeats 2000000 in
theorem sortedFunc_impl (gf : Nat) (lb : Array Value) (eg : ∀ args w, (callFunc gf args).run Try.prog w = .ok (.enter gf args) w)
    (S Sp : List KeyS → Prop) (N : Nat) (hN : N ≤ 1048576) (hS : ∀ ss, S ss → ss.length ≤ N) (w : World) (hseq : SeqStopsK Fence.wide 1 Try.prog gf lb (fun x : KeyS => #[encK x]) KeepsWalks S Sp N w) :
    Calls Try.prog 99 #[.func (.func gf) #[] lb, .func (.func 101) #[] #[]] w fun e w' => ∃ (v : Value) (ss : List KeyS), e = .returned v ∧ S ss ∧ w'.ownsRow w.heap.size 46 32 v ss.length ((flatK (sortK ss)).map (Value.int .u8)) ∧ Below w.heap.size w w' := by
  have hcol := callsIn_wide.1 (collect_in Fence.wide 3 trivial trivial rfl (by omega) gf lb trivial eg S Sp N hN w hseq)
  go_enter Try.func99, Try.ntmps99
  go_upto_region 2 with (go_at_call 109; refine hcol.mono ?_; rintro e w1 ⟨v, ss, rfl, hSs, hrow, hb⟩)
  have hl := hS ss hSs
  obtain ⟨_, hrow | ⟨g, cap, cur, rfl, hbase, hcb, h1, h2, h3, h4⟩⟩ := hrow
  · obtain ⟨rfl, h0⟩ := hrow
    have he : ss = [] := List.eq_nil_of_length_eq_zero h0
    subst he
    have hsn := Lib.hid (sort_none none 0 (.func (.func 101) #[] #[]))
    go_wp2_with (go_at_call 110; refine (hsn.out _).mono ?_; rintro e w2 ⟨rfl, rfl⟩)
    go_ret
    have e0 : sortK [] = [] := List.mergeSort_nil
    refine ⟨_, [], rfl, hSs, ?_, hb⟩
    rw [e0]
    exact ⟨rfl, .inl ⟨rfl, rfl⟩⟩
  · have hH : HoldsK encL 32 w1 g 0 ss.toArray := holds_keys rfl hcb h4
    have hg : g < w1.heap.size := (Array.getElem?_eq_some_iff.1 hcb).1
    have hsf := Lib.hid (sort_keys g cap ss w1 hH hg (by omega))
    have HC := Lib.hid hcb
    have HB := Lib.hid hb
    clear hcb hH hb hcol hseq h4
    go_wp2_with (go_at_call 110; refine hsf.out.mono ?_; rintro e w2 ⟨rfl, n, os, rfl⟩)
    go_ret
    exact ⟨_, ss, rfl, hSs, owns_sortedK ((sortK_perm ss).length_eq) hbase HC.out h1 h2 h3, HB.out.trans (below_sorted _ hbase hg)⟩
end Go.Proofs.Ytdoelmjaongjfaa
namespace Go.Proofs.Ytdoelmjaongjfaa
open Go.ChangeShapes Go.WideShapes Go.ChangeAt Go.RowKit
set_option linter.unusedVariables false
set_option linter.unusedSimpArgs false
set_option maxRecDepth 100000 in
set_option maxHeartbeats 4000000 in
theorem bk_specA (ga oa xa : Nat) (ta : Int) (n : Nat) (l : List Int) (w : World) (h0 : 0 ≤ ta) (h1 : ta ≤ 255) (hn : n ≤ 1048576) (hl : l.length = n) (fl : ∀ z ∈ l, 0 ≤ z ∧ z ≤ 255) (ha : BlAtO w ga oa xa ta n l) :
    Calls Try.prog 93 #[.pointer (some ⟨ga, oa, none⟩)] w fun e w' => e = .returned (.agg (ints .u8 (hashK ta l))) ∧ Below w.heap.size w w' := by
  have Hz := Lib.hid z32_ints
  have HA := Lib.hid (fun U (hU : Below w.heap.size w U) => ha.keep hU)
  have HH := Lib.hid (fun U (hU : Below w.heap.size w U) => hash_spec ta xa 0 n n l h0 h1 fl hn U hl (Nat.lt_of_lt_of_le (Array.getElem?_eq_some_iff.1 ha.2.2).1 hU.size) (fun j hj => by rw [cell_of_row U xa (0 + j) _ _ _ (keep_block ha.2.2 hU), Nat.zero_add, ints_get .u8 l j (by omega)]))
  have HV := Lib.hid (hashK_len ta l)
  have K := heap_alloc_last w (.cells (ints .u8 z32) 46)
  have B := (Below.refl w.heap.size w).alloc (Nat.le_refl _) (.cells (ints .u8 z32) 46)
  obtain ⟨W0, hW0⟩ : ∃ W0, w.alloc (.cells (ints .u8 z32) 46) = W0 := ⟨_, rfl⟩
  rw [hW0] at K B
  rw [Hz.out] at hW0
  have K0 := Lib.hid K
  have B0 := Lib.hid B
  generalize hashK ta l = V at HH HV ⊢
  clear K B ha hl fl h0 h1
  go_enter Try.func93, Try.ntmps93
  go_upto_region 1 with fail
  clear hW0
  refine wp_region_held_drew (S := Below w.heap.size w) (by kernel_rfl) B0.out.drew (fun hS => ?_)
  refine takeS (i := 0) (v := .pointer (some ⟨ga, oa, none⟩)) rfl rfl (by kernel_rfl) (by kernel_rfl) (by kernel_rfl) (fun _ _ _ h => h) (Or.inl ⟨by rfl, fun U hU => by go_simp⟩) hS ?_
  try simp only [List.setIfInBounds_toArray, List.set_cons_zero, List.set_cons_succ]
  refine takeS (i := 1) (v := .pointer (some ⟨ga, oa, none⟩)) rfl rfl (by kernel_rfl) (by kernel_rfl) (by kernel_rfl) (fun _ _ _ h => h) (Or.inl ⟨by rfl, fun U hU => by go_simp⟩) hS ?_
  try simp only [List.setIfInBounds_toArray, List.set_cons_zero, List.set_cons_succ]
  refine takeS (i := 2) (v := .pointer (some ⟨ga, oa, none⟩)) rfl rfl (by kernel_rfl) (by kernel_rfl) (by kernel_rfl) (fun _ _ _ h => h) (Or.inl ⟨by rfl, fun U hU => by go_simp⟩) hS ?_
  try simp only [List.setIfInBounds_toArray, List.set_cons_zero, List.set_cons_succ]
  refine takeS (i := 3) (v := .int .u8 ta) rfl rfl (by kernel_rfl) (by kernel_rfl) (by kernel_rfl) (fun _ _ _ h => h) (Or.inl ⟨by rfl, fun U hU => by have q0 := (HA.out U hU).1; go_simp⟩) hS ?_
  try simp only [List.setIfInBounds_toArray, List.set_cons_zero, List.set_cons_succ]
  refine takeS (i := 4) (v := .pointer (some ⟨ga, oa, none⟩)) rfl rfl (by kernel_rfl) (by kernel_rfl) (by kernel_rfl) (fun _ _ _ h => h) (Or.inl ⟨by rfl, fun U hU => by go_simp⟩) hS ?_
  try simp only [List.setIfInBounds_toArray, List.set_cons_zero, List.set_cons_succ]
  refine takeS (i := 5) (v := .pointer (some ⟨ga, oa, none⟩)) rfl rfl (by kernel_rfl) (by kernel_rfl) (by kernel_rfl) (fun _ _ _ h => h) (Or.inl ⟨by rfl, fun U hU => by go_simp⟩) hS ?_
  try simp only [List.setIfInBounds_toArray, List.set_cons_zero, List.set_cons_succ]
  refine takeS (i := 6) (v := .pointer (some ⟨ga, oa + 1, none⟩)) rfl rfl (by kernel_rfl) (by kernel_rfl) (by kernel_rfl) (fun _ _ _ h => h) (Or.inl ⟨by rfl, fun U hU => by go_simp⟩) hS ?_
  try simp only [List.setIfInBounds_toArray, List.set_cons_zero, List.set_cons_succ]
  refine takeS (i := 7) (v := .slice (some ⟨xa, 0, none⟩) n n) rfl rfl (by kernel_rfl) (by kernel_rfl) (by kernel_rfl) (fun _ _ _ h => h) (Or.inl ⟨by rfl, fun U hU => by have q0 := (HA.out U hU).2; go_simp⟩) hS ?_
  try simp only [List.setIfInBounds_toArray, List.set_cons_zero, List.set_cons_succ]
  refine wpAnyH_ready (rs := [8]) (by kernel_rfl) (by simp) ?_
  refine AllReadyH.cons rfl (fun KQ hK => ?_) AllReadyH.nil
  rw [if_pos (by rfl)]
  go_simp
  refine (HH.out _ hS).mono ?_
  rintro e w3 ⟨rfl, hb⟩
  have K3 := Lib.hid (keep_block (w := W0.drew) K0.out hb)
  have B3 := Lib.hid (below_call hS hS.size hb)
  refine hK.out _ _ B3.out (fun hS => ?_)
  clear hb hK
  refine wpAnyH_ready (rs := [9]) (by kernel_rfl) (by simp) ?_
  refine AllReadyH.cons rfl (fun KQ hK => ?_) AllReadyH.nil
  rw [if_pos (by rfl)]
  refine wp_store_row (o := ⟨none, _, _, _, _, _⟩) 46 _ _ rfl _ (ints .u8 V) rfl rfl 46 (ints .u8 z32) K3.out (by rw [ints_size, HV.out]; exact sizeKey) (by rw [ints_size, ints_size, HV.out]; rfl) (ints_one _ _) ?_
  simp only [Act.put]
  have BF := Lib.hid (Below.setRow B3.out (Nat.le_refl w.heap.size) (ints .u8 V))
  have KF := Lib.hid (setRow_heap _ _ (ints .u8 z32) (ints .u8 V) _ _ K3.out)
  refine hK.out _ _ BF.out (fun hS => ?_)
  clear hK
  refine wpAnyH_done (by kernel_rfl) ?_ _
  go_wp2_with fail
  refine bodyPost_ret (results_cell_row rfl _ _ w.heap.size 46 (ints .u8 V) (0, 0) _ rfl KF.out Try.underlying46 rfl (by rw [ints_size, HV.out]; exact sizeKey)) rfl ⟨rfl, BF.out⟩
end Go.Proofs.Ytdoelmjaongjfaa
namespace Go.Proofs.Ytdoelmjaongjfaa
open Go.ChangeShapes Go.WideShapes Go.ChangeAt Go.RowKit
set_option linter.unusedVariables false
set_option linter.unusedSimpArgs false
section
variable {P : Program}
theorem yields_rowS {ops : Array Oper} {S : World → Prop} {op : Oper} {a : Act} (hw : Region.wanted op (yielded ops a.tmps) = true) (ty : TypeId) (x : Operand) (ho : op.op = .load ty x)
    (b : Nat) (hx : a.eval x = .pointer (some ⟨b, 0, none⟩)) (cs : Array Value) (t : TypeId) (d : TypeDesc) (hg : ∀ w, S w → w.heap[b]? = some (.cells cs t (0, 0)))
    (hu : P.underlying ty = some d) (hd : (match d with | .struct _ | .array _ _ => true | _ => false) = true) (hi : (P.info? ty).map (·.size) = some cs.size) :
    YieldsIf P ops S op (.agg cs) a :=
  .inl ⟨hw, fun w hS => by
    unfold execOp
    simp only [ho, hx, Instr.loadAt, Instr.sureAddr, Sem.run_bind, Sem.run_pure, Result.andThen_ok, run_loadVar_row w b t ty cs (0, 0) d (hg w hS) hu hd hi]⟩
theorem yields_range {ops : Array Oper} {S : World → Prop} {op : Oper} {a : Act} (hw : Region.wanted op (yielded ops a.tmps) = true) (ty : TypeId) (x : Operand) (ho : op.op = .load ty x)
    (b o : Nat) (hx : a.eval x = .pointer (some ⟨b, o, none⟩)) (κ : IntKind) (l : List Int) (d : TypeDesc) (hg : ∀ w, S w → w.rangeAt b o (l.map (Value.int κ)))
    (hu : P.underlying ty = some d) (hd : d.isRow = true) (hi : (P.info? ty).map (·.size) = some l.length) :
    YieldsIf P ops S op (.agg (ints κ l)) a :=
  .inl ⟨hw, fun w hS => by
    unfold execOp
    simp only [ho, hx, Instr.loadAt, Instr.sureAddr, Sem.run_bind, Sem.run_pure, Result.andThen_ok, run_loadVar_mid w b o ty (l.map (Value.int κ)) d (hg w hS) hu hd (by rw [List.length_map]; exact hi)]
    rfl⟩
end
def OpnR (w : World) (bs : List BlV) (e : Ending) (w' : World) : Prop :=
  ((stP bs ∧ e = .returned (.tuple #[.pointer (some ⟨w.heap.size, 0, none⟩), .bool true]) ∧ ∃ v1 v2 ys, OpenP w' w.heap.size w.heap.size v1 v2 bs ys bs.length (bs.flatMap keyX)) ∨ (¬ stP bs ∧ e = .returned (.tuple #[.pointer (some ⟨w.heap.size, 0, none⟩), .bool false]))) ∧ Below w.heap.size w w'
theorem OpnR.no {w : World} {bs : List BlV} {w' : World} (h : ¬ stP bs) (hb : Below w.heap.size w w') : OpnR w bs (.returned (.tuple #[.pointer (some ⟨w.heap.size, 0, none⟩), .bool false])) w' := ⟨Or.inr ⟨h, rfl⟩, hb⟩
theorem flat_len (xs : List BlV) : (xs.flatMap keyX).length = 32 * xs.length := by
  induction xs with
  | nil => rfl
  | cons x r ih => rw [List.flatMap_cons, List.length_append, ih, (isK_keyX x).1, List.length_cons]; omega
/-- The last key of those that have been seen. -/
theorem OpenP.lastKey {w : World} {base X : Nat} {v1 v2 : Value} {bs : List BlV} {ys : List Nat} {k : Nat} {x : BlV} (h : OpenP w base X v1 v2 (bs.take k) ys k ((bs.take k).flatMap keyX)) (hk : 0 < k) (hx : bs[k - 1]? = some x) :
    ∃ kg cap, v2 = .slice (some ⟨kg, 0, none⟩) k cap ∧ k ≤ cap ∧ cap ≤ maxLen ∧ ∀ U, Below w.heap.size w U → U.rangeAt kg ((k - 1) * 32) ((keyX x).map (Value.int .u8)) := by
  obtain ⟨h1, h2⟩ := h.row2
  rcases h2 with ⟨_, h0⟩ | ⟨kg, cap, cur, hv, hb, hg, hc, hm, hs, ht⟩
  · omega
  · have hlt := (List.getElem?_eq_some_iff.1 hx).1
    have hT : (bs.take k).flatMap keyX = (bs.take (k - 1)).flatMap keyX ++ keyX x := by
      have e : bs.take k = bs.take (k - 1) ++ [x] := by
        conv => lhs; rw [show k = k - 1 + 1 by omega]
        rw [List.take_add_one, hx]
        rfl
      rw [e, List.flatMap_append]
      simp
    have hL : ((bs.take (k - 1)).flatMap keyX).length = 32 * (k - 1) := by
      rw [flat_len, List.length_take]
      omega
    refine ⟨kg, cap, hv, hc, hm, fun U hU j v hv2 => ?_⟩
    have hj : j < 32 := by
      have := (List.getElem?_eq_some_iff.1 hv2).1
      rw [List.length_map, (isK_keyX x).1] at this
      exact this
    rw [cell_of_row U kg ((k - 1) * 32 + j) _ _ _ (keep_block hg hU)]
    have h3 : (cur.toList.take (k * 32))[(k - 1) * 32 + j]? = some v := by
      rw [ht, hT, List.map_append, List.getElem?_append_right (by rw [List.length_map, hL]; omega), List.length_map, hL, show (k - 1) * 32 + j - 32 * (k - 1) = j by omega]
      exact hv2
    rw [List.getElem?_take_of_lt (by omega)] at h3
    simpa using h3
theorem rowSucc {w : World} {base : Nat} {e : TypeId} {size : Nat} {v : Value} {n : Nat} {xs : List Value} (h : w.ownsRow base e size v (n + 1) xs) : ∃ g c, v = .slice (some ⟨g, 0, none⟩) (n + 1) c := by
  rcases h.2 with ⟨_, h0⟩ | ⟨g, cap, cur, hv, _⟩
  · omega
  · exact ⟨g, cap, hv⟩
set_option maxRecDepth 100000 in
set_option maxHeartbeats 16000000 in
theorem open_spec (s0 g n : Nat) (bs : List BlV) (hn : n ≤ 1048576) (hl : bs.length = n) (hf : ∀ (i : Nat) (x : BlV), bs[i]? = some x → BlG x) (w : World) (hs : w.heap[s0]? = some (.cells #[.slice (some ⟨g, 0, none⟩) n n] 29)) (ha : OutB w g n n bs) :
    Calls Try.prog 57 #[.pointer (some ⟨s0, 0, none⟩)] w (OpnR w bs) := by
  obtain ⟨i0, z0, hi0, hz0, hs0, hb0, hc0⟩ := blParts
  obtain ⟨i1, z1, hi1, hz1, hs1, hb1, hc1⟩ := keyParts2
  have Hz := Lib.hid z32_ints
  have HS0 := Lib.hid hs
  have HA := Lib.hid ha
  have HF := Lib.hid hf
  have HL := Lib.hid hl
  have M0 := Lib.hid (OpenP.made w w.heap.size (Nat.le_refl _))
  have B0 := Lib.hid ((Below.refl w.heap.size w).alloc (Nat.le_refl _) (.cells #[.slice none 0 0, .slice none 0 0] 87))
  clear ha hf hl hs
  by_cases hbig : 128 < n
  · have q2 : (128 : Int) < (n : Int) := by omega
    have HN := Lib.hid (show ¬ stP bs from fun h => by have := h.1; rw [HL.out] at this; omega)
    have q0 : ∀ o, (w.alloc o).cell? ⟨s0, 0, none⟩ = some (.slice (some ⟨g, 0, none⟩) n n) := fun o => cell_of_row _ s0 0 _ _ _ (keep_block HS0.out ((Below.refl _ _).alloc (Nat.le_refl _) o))
    go_enter Try.func57, Try.ntmps57
    go_wp2_with fail
    go_returns
    exact OpnR.no HN.out B0.out
  have q2 : ¬ (128 : Int) < (n : Int) := by omega
  have q3 : (0 : Int) ≤ (n : Int) := by omega
  have q4 : (n : Int) ≤ 128 := by omega
  have q0 : ∀ o, (w.alloc o).cell? ⟨s0, 0, none⟩ = some (.slice (some ⟨g, 0, none⟩) n n) := fun o => cell_of_row _ s0 0 _ _ _ (keep_block HS0.out ((Below.refl _ _).alloc (Nat.le_refl _) o))
  go_enter Try.func57, Try.ntmps57
  go_wp2_with fail
  clear q0
  generalize w.alloc (.cells #[.slice none 0 0, .slice none 0 0] 87) = w2 at M0 B0 ⊢
  go_loopw [5] (fun i wr => ∃ k v1 v2 ys, k ≤ n ∧ i = .int .i64 ((k : Nat) : Int) ∧ Below w.heap.size w wr ∧ OpenP wr w.heap.size w.heap.size v1 v2 (bs.take k) ys k ((bs.take k).flatMap keyX) ∧ PreP bs k) (fun i _ => n - (intOf i).toNat)
  case atStart => exact ⟨0, _, _, _, by omega, rfl, B0.out, by simpa using M0.out, PreP.start bs⟩
  case round =>
    obtain ⟨k, v1, v2, ys, hk, rfl, hb, hop, hpre⟩ := hrel
    have B1 := Lib.hid hb
    have O1 := Lib.hid hop
    have PP := Lib.hid hpre
    have X1 := Lib.hid hop.box
    clear hb hop hpre M0 B0
    have q0 := cell_of_row _ s0 0 _ _ _ (keep_block HS0.out B1.out)
    by_cases hlt : k < n
    · have b0 : (0 : Int) ≤ (k : Int) := by omega
      have b1 : (k : Int) < (n : Int) := by omega
      obtain ⟨x, hx⟩ := get_of HL.out hlt
      obtain ⟨⟨f1, f2, f3⟩, f4, f5⟩ := HF.out k x hx
      obtain ⟨y, hya⟩ := HA.out.at hlt hx
      have hx0 := Lib.hid hx
      have HXW := Lib.hid (fun U (hU : Below w.heap.size w U) => hya.keep hU)
      have HYW := Lib.hid (fun U (hU : Below w.heap.size w U) => keep_block hya.2.2 hU)
      have XN := Lib.hid f2
      have HVB := Lib.hid (vb_spec0 g (k * 2) (some ⟨y, 0, none⟩) x.n x.n f1 wr (HXW.out wr B1.out).2)
      have HBK := Lib.hid (bk_specA g (k * 2) y x.t x.n x.l wr f4 f5 f1 f2 f3 ⟨(HXW.out wr B1.out).1, (HXW.out wr B1.out).2, HYW.out wr B1.out⟩)
      clear hya f1 f2 f3 f4 f5 hx
      by_cases hbl : x.n ≤ 1024
      · have e1 : blB x.n = true := by unfold blB; exact decide_eq_true hbl
        rw [e1] at HVB
        have XL := Lib.hid hbl
        clear e1 hbl
        obtain ⟨V, hV⟩ : ∃ V, keyX x = V := ⟨_, rfl⟩
        have HV := Lib.hid hV
        have VL := Lib.hid (show V.length = 32 by rw [← hV]; exact (isK_keyX x).1)
        have hV2 : hashK x.t x.l = V := hV
        rw [hV2] at HBK
        clear hV hV2
        obtain ⟨xt, xa, xn, xc, xl⟩ := x
        dsimp only at HVB HBK XN XL HXW HYW
        go_wp2_with fail
        refine HVB.out.mono ?_
        rintro e w' ⟨rfl, rfl⟩
        go_wp2_with fail
        refine HBK.out.mono ?_
        rintro e w3 ⟨rfl, hb⟩
        have LB := layB w3 (ints .u8 z32) (ints .u8 V) 46
        have HB3 := Lib.hid (hb.trans (LB.mono hb.size))
        have NK := Lib.hid (layN w3 (ints .u8 z32) (ints .u8 V) 46)
        have SZ3 := Lib.hid (show wr.heap.size ≤ w3.heap.size from hb.size)
        clear LB hb q0 HVB HBK
        go_upto_region 10 with (first | (refine wpList_store_row rfl 46 (.tmp 6) _ rfl w3.heap.size (ints .u8 V) rfl rfl 46 (ints .u8 z32) (by rw [Hz.out]; exact heap_alloc_last _ _) (by rw [ints_size, VL.out]; exact sizeKey) (by rw [ints_size, ints_size, VL.out, (show z32.length = 32 from rfl)]) (ints_one _ _) ?_))
        rw [← Hz.out]
        generalize (w3.alloc (.cells (ints .u8 z32) 46)).setRow w3.heap.size (ints .u8 V) = w5 at HB3 NK ⊢
        generalize w3.heap.size = gN at NK SZ3 ⊢
        have O5 := Lib.hid (O1.out.below HB3.out)
        have K5 := Lib.hid NK.out
        have B5 := Lib.hid (B1.out.trans (HB3.out.mono B1.out.size))
        have KNE := Lib.hid (show gN ≠ w.heap.size by have := (Array.getElem?_eq_some_iff.1 X1.out).1; have := SZ3.out; omega)
        have V2NE := Lib.hid (show v2.ownBlock ≠ some gN from fun e => by have := (O1.out.row2.lt gN e).2; have := SZ3.out; omega)
        have HTL := Lib.hid (show (bs.take k).length = k by rw [List.length_take, HL.out]; omega)
        have HTK := Lib.hid (show bs.take k ++ [(⟨xt, xa, xn, xc, xl⟩ : BlV)] = bs.take (k + 1) by rw [List.take_add_one, hx0.out]; rfl)
        have HFK := Lib.hid (show (bs.take (k + 1)).flatMap keyX = (bs.take k).flatMap keyX ++ V by rw [← HTK.out, List.flatMap_append]; simp [HV.out])
        clear HB3 NK
        try simp only [Act.put, List.setIfInBounds_toArray, List.set_cons_zero, List.set_cons_succ]
        go_cut [55] (fun s55 wx => ∃ u7, u7 = wx ∧ ((∃ PP2 : PreP bs (k + 1), s55 = .bool false) ∨ (¬ stP bs ∧ s55 = .bool true)) ∧ Below w5.heap.size w5 wx)
        case first =>
          by_cases hk0 : 0 < k
          · obtain ⟨z, hz⟩ := get_of (k := k - 1) HL.out (by omega)
            obtain ⟨kg, cap, rfl, hcap, hmax, hrg⟩ := O5.out.lastKey hk0 hz
            have hz0 := Lib.hid hz
            have RG := Lib.hid hrg
            have CP := Lib.hid hcap
            obtain ⟨LSK, hLS⟩ : ∃ LSK, keyX z = LSK := ⟨_, rfl⟩
            have LSE := Lib.hid hLS
            have LSL := Lib.hid (show LSK.length = 32 by rw [← hLS]; exact (isK_keyX z).1)
            rw [hLS] at RG
            clear hz hrg hLS
            have HCM := Lib.hid (fun U => cmp_spec0 LSK V LSL.out VL.out U)
            have b2 : (0 : Int) < (k : Int) := by omega
            have S1 := Lib.hid (show IntKind.i64.wrap ((k : Int) - 1) = (k : Int) - 1 from IntWalk.i64_in _ ⟨by omega, by omega⟩)
            have I1 := Lib.hid (show (0 : Int) ≤ (k : Int) - 1 ∧ ((k : Int) - 1).toNat = k - 1 ∧ (k : Int) - 1 < (k : Int) from ⟨by omega, by omega, by omega⟩)
            generalize hcv : cmpI LSK V = cv at HCM
            have HCV := Lib.hid hcv
            clear hcv
            by_cases hc : cv < 0
            · have hc1 : ¬ 0 ≤ cv := by omega
              have PP5 := Lib.hid (PP.out.step_pos hk0 hx0.out (ls := LSK) ⟨LSL.out, by rw [← LSE.out]; exact (isK_keyX z).2, fun u _ hu => by rw [hz0.out] at hu; cases hu; exact LSE.out.symm⟩ XL.out (by rw [HV.out, HCV.out]; exact hc))
              refine wp_region_held_drew (S := fun U => Below w5.heap.size w5 U) (by kernel_rfl) ((Below.refl _ _).drew) (fun hS => ?_)
              refine takeS (i := 0) (v := .int .i64 (k : Int)) rfl rfl (by kernel_rfl) (by kernel_rfl) (by kernel_rfl) (fun _ _ _ h => h) (Or.inl ⟨by rfl, fun U hU => by go_simp⟩) hS ?_
              try simp only [List.setIfInBounds_toArray, List.set_cons_zero, List.set_cons_succ]
              refine takeS (i := 1) (v := .bool true) rfl rfl (by kernel_rfl) (by kernel_rfl) (by kernel_rfl) (fun _ _ _ h => h) (Or.inl ⟨by rfl, fun U hU => by go_simp⟩) hS ?_
              try simp only [List.setIfInBounds_toArray, List.set_cons_zero, List.set_cons_succ]
              refine takeS (i := 2) (v := .bool true) rfl rfl (by kernel_rfl) (by kernel_rfl) (by kernel_rfl) (fun _ _ _ h => h) (Or.inl ⟨by rfl, fun U hU => by go_simp⟩) hS ?_
              try simp only [List.setIfInBounds_toArray, List.set_cons_zero, List.set_cons_succ]
              refine takeS (i := 3) (v := .pointer (some ⟨w.heap.size, 0, none⟩)) rfl rfl (by kernel_rfl) (by kernel_rfl) (by kernel_rfl) (fun _ _ _ h => h) (Or.inl ⟨by rfl, fun U hU => by go_simp⟩) hS ?_
              try simp only [List.setIfInBounds_toArray, List.set_cons_zero, List.set_cons_succ]
              refine takeS (i := 4) (v := .pointer (some ⟨w.heap.size, 0, none⟩)) rfl rfl (by kernel_rfl) (by kernel_rfl) (by kernel_rfl) (fun _ _ _ h => h) (Or.inl ⟨by rfl, fun U hU => by go_simp⟩) hS ?_
              try simp only [List.setIfInBounds_toArray, List.set_cons_zero, List.set_cons_succ]
              refine takeS (i := 5) (v := .pointer (some ⟨w.heap.size, 1, none⟩)) rfl rfl (by kernel_rfl) (by kernel_rfl) (by kernel_rfl) (fun _ _ _ h => h) (Or.inl ⟨by rfl, fun U hU => by go_simp⟩) hS ?_
              try simp only [List.setIfInBounds_toArray, List.set_cons_zero, List.set_cons_succ]
              refine takeS (i := 6) (v := .slice (some ⟨kg, 0, none⟩) k cap) rfl rfl (by kernel_rfl) (by kernel_rfl) (by kernel_rfl) (fun _ _ _ h => h) (Or.inl ⟨by rfl, fun U hU => by have cu := cell_of_row _ w.heap.size 1 _ _ _ (keep_block O5.out.box hU); go_simp⟩) hS ?_
              try simp only [List.setIfInBounds_toArray, List.set_cons_zero, List.set_cons_succ]
              refine takeS (i := 7) (v := .int .i64 (k : Int)) rfl rfl (by kernel_rfl) (by kernel_rfl) (by kernel_rfl) (fun _ _ _ h => h) (Or.inl ⟨by rfl, fun U hU => by go_simp⟩) hS ?_
              try simp only [List.setIfInBounds_toArray, List.set_cons_zero, List.set_cons_succ]
              refine takeS (i := 8) (v := .int .i64 ((k : Int) - 1)) rfl rfl (by kernel_rfl) (by kernel_rfl) (by kernel_rfl) (fun _ _ _ h => h) (Or.inl ⟨by rfl, fun U hU => by have q5 := S1.out; go_simp⟩) hS ?_
              try simp only [List.setIfInBounds_toArray, List.set_cons_zero, List.set_cons_succ]
              refine takeS (i := 9) (v := .pointer (some ⟨kg, (k - 1) * 32, none⟩)) rfl rfl (by kernel_rfl) (by kernel_rfl) (by kernel_rfl) (fun _ _ _ h => h) (Or.inl ⟨by rfl, fun U hU => by have q5 := I1.out; have q6 : ¬ (k : Int) < 1 := (by omega); go_simp⟩) hS ?_
              try simp only [List.setIfInBounds_toArray, List.set_cons_zero, List.set_cons_succ]
              refine takeS (i := 10) (v := .agg (ints .u8 LSK)) rfl rfl (by kernel_rfl) (by kernel_rfl) (by kernel_rfl) (fun _ _ _ h => h) (yields_range (by rfl) 46 _ rfl kg ((k - 1) * 32) rfl .u8 LSK _ (fun U hU => RG.out U hU) Try.underlying46 rfl (by rw [LSL.out]; exact sizeKey)) hS ?_
              try simp only [List.setIfInBounds_toArray, List.set_cons_zero, List.set_cons_succ]
              refine takeS (i := 11) (v := .agg (ints .u8 V)) rfl rfl (by kernel_rfl) (by kernel_rfl) (by kernel_rfl) (fun _ _ _ h => h) (yields_rowS (by rfl) 46 _ rfl gN rfl (ints .u8 V) 46 _ (fun U hU => keep_block K5.out hU) Try.underlying46 rfl (by rw [ints_size, VL.out]; exact sizeKey)) hS ?_
              try simp only [List.setIfInBounds_toArray, List.set_cons_zero, List.set_cons_succ]
              refine wpAnyH_ready (rs := [12]) (by kernel_rfl) (by simp) ?_
              refine AllReadyH.cons rfl (fun KQ hK => ?_) AllReadyH.nil
              rw [if_pos (by rfl)]
              go_simp
              refine (HCM.out _).mono ?_
              rintro e w6 ⟨rfl, hb⟩
              refine hK.out _ _ (below_call hS hS.size hb) (fun hS => ?_)
              clear hb hK
              refine takeS (i := 13) (v := .bool false) rfl rfl (by kernel_rfl) (by kernel_rfl) (by kernel_rfl) (fun _ _ _ h => h) (Or.inl ⟨by rfl, fun U hU => by go_simp⟩) hS ?_
              try simp only [List.setIfInBounds_toArray, List.set_cons_zero, List.set_cons_succ]
              refine takeS (i := 14) (v := .bool false) rfl rfl (by kernel_rfl) (by kernel_rfl) (by kernel_rfl) (fun _ _ _ h => h) (Or.inl ⟨by rfl, fun U hU => by go_simp⟩) hS ?_
              try simp only [List.setIfInBounds_toArray, List.set_cons_zero, List.set_cons_succ]
              refine wpAnyH_done (by kernel_rfl) ?_ _
              go_wp2_with fail
              go_meet
              exact ⟨_, rfl, Or.inl ⟨PP5.out, rfl⟩, hS⟩
            · have hc1 : 0 ≤ cv := by omega
              have HNO := Lib.hid (show ¬ stP bs from fun h => by
                have h2 := h.2.2 (k - 1) z _ hz0.out (by rw [show k - 1 + 1 = k by omega]; exact hx0.out)
                rw [LSE.out, HV.out, HCV.out] at h2
                exact hc h2)
              refine wp_region_held_drew (S := fun U => Below w5.heap.size w5 U) (by kernel_rfl) ((Below.refl _ _).drew) (fun hS => ?_)
              refine takeS (i := 0) (v := .int .i64 (k : Int)) rfl rfl (by kernel_rfl) (by kernel_rfl) (by kernel_rfl) (fun _ _ _ h => h) (Or.inl ⟨by rfl, fun U hU => by go_simp⟩) hS ?_
              try simp only [List.setIfInBounds_toArray, List.set_cons_zero, List.set_cons_succ]
              refine takeS (i := 1) (v := .bool true) rfl rfl (by kernel_rfl) (by kernel_rfl) (by kernel_rfl) (fun _ _ _ h => h) (Or.inl ⟨by rfl, fun U hU => by go_simp⟩) hS ?_
              try simp only [List.setIfInBounds_toArray, List.set_cons_zero, List.set_cons_succ]
              refine takeS (i := 2) (v := .bool true) rfl rfl (by kernel_rfl) (by kernel_rfl) (by kernel_rfl) (fun _ _ _ h => h) (Or.inl ⟨by rfl, fun U hU => by go_simp⟩) hS ?_
              try simp only [List.setIfInBounds_toArray, List.set_cons_zero, List.set_cons_succ]
              refine takeS (i := 3) (v := .pointer (some ⟨w.heap.size, 0, none⟩)) rfl rfl (by kernel_rfl) (by kernel_rfl) (by kernel_rfl) (fun _ _ _ h => h) (Or.inl ⟨by rfl, fun U hU => by go_simp⟩) hS ?_
              try simp only [List.setIfInBounds_toArray, List.set_cons_zero, List.set_cons_succ]
              refine takeS (i := 4) (v := .pointer (some ⟨w.heap.size, 0, none⟩)) rfl rfl (by kernel_rfl) (by kernel_rfl) (by kernel_rfl) (fun _ _ _ h => h) (Or.inl ⟨by rfl, fun U hU => by go_simp⟩) hS ?_
              try simp only [List.setIfInBounds_toArray, List.set_cons_zero, List.set_cons_succ]
              refine takeS (i := 5) (v := .pointer (some ⟨w.heap.size, 1, none⟩)) rfl rfl (by kernel_rfl) (by kernel_rfl) (by kernel_rfl) (fun _ _ _ h => h) (Or.inl ⟨by rfl, fun U hU => by go_simp⟩) hS ?_
              try simp only [List.setIfInBounds_toArray, List.set_cons_zero, List.set_cons_succ]
              refine takeS (i := 6) (v := .slice (some ⟨kg, 0, none⟩) k cap) rfl rfl (by kernel_rfl) (by kernel_rfl) (by kernel_rfl) (fun _ _ _ h => h) (Or.inl ⟨by rfl, fun U hU => by have cu := cell_of_row _ w.heap.size 1 _ _ _ (keep_block O5.out.box hU); go_simp⟩) hS ?_
              try simp only [List.setIfInBounds_toArray, List.set_cons_zero, List.set_cons_succ]
              refine takeS (i := 7) (v := .int .i64 (k : Int)) rfl rfl (by kernel_rfl) (by kernel_rfl) (by kernel_rfl) (fun _ _ _ h => h) (Or.inl ⟨by rfl, fun U hU => by go_simp⟩) hS ?_
              try simp only [List.setIfInBounds_toArray, List.set_cons_zero, List.set_cons_succ]
              refine takeS (i := 8) (v := .int .i64 ((k : Int) - 1)) rfl rfl (by kernel_rfl) (by kernel_rfl) (by kernel_rfl) (fun _ _ _ h => h) (Or.inl ⟨by rfl, fun U hU => by have q5 := S1.out; go_simp⟩) hS ?_
              try simp only [List.setIfInBounds_toArray, List.set_cons_zero, List.set_cons_succ]
              refine takeS (i := 9) (v := .pointer (some ⟨kg, (k - 1) * 32, none⟩)) rfl rfl (by kernel_rfl) (by kernel_rfl) (by kernel_rfl) (fun _ _ _ h => h) (Or.inl ⟨by rfl, fun U hU => by have q5 := I1.out; have q6 : ¬ (k : Int) < 1 := (by omega); go_simp⟩) hS ?_
              try simp only [List.setIfInBounds_toArray, List.set_cons_zero, List.set_cons_succ]
              refine takeS (i := 10) (v := .agg (ints .u8 LSK)) rfl rfl (by kernel_rfl) (by kernel_rfl) (by kernel_rfl) (fun _ _ _ h => h) (yields_range (by rfl) 46 _ rfl kg ((k - 1) * 32) rfl .u8 LSK _ (fun U hU => RG.out U hU) Try.underlying46 rfl (by rw [LSL.out]; exact sizeKey)) hS ?_
              try simp only [List.setIfInBounds_toArray, List.set_cons_zero, List.set_cons_succ]
              refine takeS (i := 11) (v := .agg (ints .u8 V)) rfl rfl (by kernel_rfl) (by kernel_rfl) (by kernel_rfl) (fun _ _ _ h => h) (yields_rowS (by rfl) 46 _ rfl gN rfl (ints .u8 V) 46 _ (fun U hU => keep_block K5.out hU) Try.underlying46 rfl (by rw [ints_size, VL.out]; exact sizeKey)) hS ?_
              try simp only [List.setIfInBounds_toArray, List.set_cons_zero, List.set_cons_succ]
              refine wpAnyH_ready (rs := [12]) (by kernel_rfl) (by simp) ?_
              refine AllReadyH.cons rfl (fun KQ hK => ?_) AllReadyH.nil
              rw [if_pos (by rfl)]
              go_simp
              refine (HCM.out _).mono ?_
              rintro e w6 ⟨rfl, hb⟩
              refine hK.out _ _ (below_call hS hS.size hb) (fun hS => ?_)
              clear hb hK
              refine takeS (i := 13) (v := .bool true) rfl rfl (by kernel_rfl) (by kernel_rfl) (by kernel_rfl) (fun _ _ _ h => h) (Or.inl ⟨by rfl, fun U hU => by go_simp⟩) hS ?_
              try simp only [List.setIfInBounds_toArray, List.set_cons_zero, List.set_cons_succ]
              refine takeS (i := 14) (v := .bool true) rfl rfl (by kernel_rfl) (by kernel_rfl) (by kernel_rfl) (fun _ _ _ h => h) (Or.inl ⟨by rfl, fun U hU => by go_simp⟩) hS ?_
              try simp only [List.setIfInBounds_toArray, List.set_cons_zero, List.set_cons_succ]
              refine wpAnyH_done (by kernel_rfl) ?_ _
              go_wp2_with fail
              go_meet
              exact ⟨_, rfl, Or.inr ⟨HNO.out, rfl⟩, hS⟩
          · obtain rfl : k = 0 := by omega
            have PP5 := Lib.hid (PreP.step_zero hx0.out XL.out)
            have b2 : decide ((0 : Int) < ((0 : Nat) : Int)) = false := by decide
            refine wp_region_held_drew (S := fun U => Below w5.heap.size w5 U) (by kernel_rfl) ((Below.refl _ _).drew) (fun hS => ?_)
            refine takeS (i := 0) (v := .int .i64 ((0 : Nat) : Int)) rfl rfl (by kernel_rfl) (by kernel_rfl) (by kernel_rfl) (fun _ _ _ h => h) (Or.inl ⟨by rfl, fun U hU => by go_simp⟩) hS ?_
            try simp only [List.setIfInBounds_toArray, List.set_cons_zero, List.set_cons_succ]
            refine takeS (i := 1) (v := .bool false) rfl rfl (by kernel_rfl) (by kernel_rfl) (by kernel_rfl) (fun _ _ _ h => h) (Or.inl ⟨by rfl, fun U hU => by go_simp⟩) hS ?_
            try simp only [List.setIfInBounds_toArray, List.set_cons_zero, List.set_cons_succ]
            refine takeS (i := 2) (v := .bool false) rfl rfl (by kernel_rfl) (by kernel_rfl) (by kernel_rfl) (fun _ _ _ h => h) (Or.inl ⟨by rfl, fun U hU => by go_simp⟩) hS ?_
            try simp only [List.setIfInBounds_toArray, List.set_cons_zero, List.set_cons_succ]
            refine takeS (i := 3) (v := undef) rfl rfl (by kernel_rfl) (by kernel_rfl) (by kernel_rfl) (fun _ _ _ h => h) (Or.inr ⟨by rfl, rfl⟩) hS ?_
            try simp only [List.setIfInBounds_toArray, List.set_cons_zero, List.set_cons_succ]
            refine takeS (i := 4) (v := undef) rfl rfl (by kernel_rfl) (by kernel_rfl) (by kernel_rfl) (fun _ _ _ h => h) (Or.inr ⟨by rfl, rfl⟩) hS ?_
            try simp only [List.setIfInBounds_toArray, List.set_cons_zero, List.set_cons_succ]
            refine takeS (i := 5) (v := undef) rfl rfl (by kernel_rfl) (by kernel_rfl) (by kernel_rfl) (fun _ _ _ h => h) (Or.inr ⟨by rfl, rfl⟩) hS ?_
            try simp only [List.setIfInBounds_toArray, List.set_cons_zero, List.set_cons_succ]
            refine takeS (i := 6) (v := undef) rfl rfl (by kernel_rfl) (by kernel_rfl) (by kernel_rfl) (fun _ _ _ h => h) (Or.inr ⟨by rfl, rfl⟩) hS ?_
            try simp only [List.setIfInBounds_toArray, List.set_cons_zero, List.set_cons_succ]
            refine takeS (i := 7) (v := undef) rfl rfl (by kernel_rfl) (by kernel_rfl) (by kernel_rfl) (fun _ _ _ h => h) (Or.inr ⟨by rfl, rfl⟩) hS ?_
            try simp only [List.setIfInBounds_toArray, List.set_cons_zero, List.set_cons_succ]
            refine takeS (i := 8) (v := undef) rfl rfl (by kernel_rfl) (by kernel_rfl) (by kernel_rfl) (fun _ _ _ h => h) (Or.inr ⟨by rfl, rfl⟩) hS ?_
            try simp only [List.setIfInBounds_toArray, List.set_cons_zero, List.set_cons_succ]
            refine takeS (i := 9) (v := undef) rfl rfl (by kernel_rfl) (by kernel_rfl) (by kernel_rfl) (fun _ _ _ h => h) (Or.inr ⟨by rfl, rfl⟩) hS ?_
            try simp only [List.setIfInBounds_toArray, List.set_cons_zero, List.set_cons_succ]
            refine takeS (i := 10) (v := undef) rfl rfl (by kernel_rfl) (by kernel_rfl) (by kernel_rfl) (fun _ _ _ h => h) (Or.inr ⟨by rfl, rfl⟩) hS ?_
            try simp only [List.setIfInBounds_toArray, List.set_cons_zero, List.set_cons_succ]
            refine takeS (i := 11) (v := undef) rfl rfl (by kernel_rfl) (by kernel_rfl) (by kernel_rfl) (fun _ _ _ h => h) (Or.inr ⟨by rfl, rfl⟩) hS ?_
            try simp only [List.setIfInBounds_toArray, List.set_cons_zero, List.set_cons_succ]
            refine takeS (i := 12) (v := undef) rfl rfl (by kernel_rfl) (by kernel_rfl) (by kernel_rfl) (fun _ _ _ h => h) (Or.inr ⟨by rfl, rfl⟩) hS ?_
            try simp only [List.setIfInBounds_toArray, List.set_cons_zero, List.set_cons_succ]
            refine takeS (i := 13) (v := undef) rfl rfl (by kernel_rfl) (by kernel_rfl) (by kernel_rfl) (fun _ _ _ h => h) (Or.inr ⟨by rfl, rfl⟩) hS ?_
            try simp only [List.setIfInBounds_toArray, List.set_cons_zero, List.set_cons_succ]
            refine takeS (i := 14) (v := .bool false) rfl rfl (by kernel_rfl) (by kernel_rfl) (by kernel_rfl) (fun _ _ _ h => h) (Or.inl ⟨by rfl, fun U hU => by go_simp⟩) hS ?_
            try simp only [List.setIfInBounds_toArray, List.set_cons_zero, List.set_cons_succ]
            refine wpAnyH_done (by kernel_rfl) ?_ _
            go_wp2_with fail
            go_meet
            exact ⟨_, rfl, Or.inl ⟨PP5.out, rfl⟩, hS⟩
        case rest =>
          obtain ⟨w7, rfl, hh, hb⟩ := hcut
          have O7 := Lib.hid (O5.out.below hb)
          have K7 := Lib.hid (keep_block K5.out hb)
          have B7 := Lib.hid (B5.out.trans (hb.mono B5.out.size))
          clear hb O5 K5 B5 O1 B1 X1
          rcases hh with ⟨PP2, hs55⟩ | ⟨hno, hs55⟩ <;> subst hs55
          · have PP5 := Lib.hid PP2
            clear PP2
            go_upto_region 12 with fail
            go_cut [] (fun wx => ∃ u8, u8 = wx ∧ ∃ v1' ys', OpenP wx w.heap.size w.heap.size v1' v2 (bs.take (k + 1)) ys' k ((bs.take k).flatMap keyX) ∧ wx.heap[gN]? = some (.cells (ints .u8 V) 46) ∧ Below w.heap.size w wx)
            case first =>
              have KD := Lib.hid (keep_block K7.out ((Below.refl w7.heap.size w7).drew))
              have OD := Lib.hid (O7.out.below ((Below.refl _ _).drew))
              have BD := Lib.hid (B7.out.drew)
              refine wp_region_held_drew (S := fun U => Below w.heap.size w U) (by kernel_rfl) (BD.out) (fun hS => ?_)
              generalize w7.drew = WD at OD BD KD hS ⊢
              refine takeS (i := 0) (v := .pointer (some ⟨w.heap.size, 0, none⟩)) rfl rfl (by kernel_rfl) (by kernel_rfl) (by kernel_rfl) (fun _ _ _ h => h) (Or.inl ⟨by rfl, fun U hU => by go_simp⟩) hS ?_
              try simp only [List.setIfInBounds_toArray, List.set_cons_zero, List.set_cons_succ]
              refine takeS (i := 1) (v := .pointer (some ⟨w.heap.size, 0, none⟩)) rfl rfl (by kernel_rfl) (by kernel_rfl) (by kernel_rfl) (fun _ _ _ h => h) (Or.inl ⟨by rfl, fun U hU => by go_simp⟩) hS ?_
              try simp only [List.setIfInBounds_toArray, List.set_cons_zero, List.set_cons_succ]
              refine takeS (i := 2) (v := .pointer (some ⟨w.heap.size, 0, none⟩)) rfl rfl (by kernel_rfl) (by kernel_rfl) (by kernel_rfl) (fun _ _ _ h => h) (Or.inl ⟨by rfl, fun U hU => by go_simp⟩) hS ?_
              try simp only [List.setIfInBounds_toArray, List.set_cons_zero, List.set_cons_succ]
              refine takeS (i := 3) (v := .pointer (some ⟨w.heap.size, 0, none⟩)) rfl rfl (by kernel_rfl) (by kernel_rfl) (by kernel_rfl) (fun _ _ _ h => h) (Or.inl ⟨by rfl, fun U hU => by go_simp⟩) hS ?_
              try simp only [List.setIfInBounds_toArray, List.set_cons_zero, List.set_cons_succ]
              refine takeS (i := 5) (v := .pointer (some ⟨s0, 0, none⟩)) rfl rfl (by kernel_rfl) (by kernel_rfl) (by kernel_rfl) (fun _ _ _ h => h) (Or.inl ⟨by rfl, fun U hU => by go_simp⟩) hS ?_
              try simp only [List.setIfInBounds_toArray, List.set_cons_zero, List.set_cons_succ]
              refine takeS (i := 6) (v := .pointer (some ⟨s0, 0, none⟩)) rfl rfl (by kernel_rfl) (by kernel_rfl) (by kernel_rfl) (fun _ _ _ h => h) (Or.inl ⟨by rfl, fun U hU => by go_simp⟩) hS ?_
              try simp only [List.setIfInBounds_toArray, List.set_cons_zero, List.set_cons_succ]
              refine takeS (i := 7) (v := .pointer (some ⟨s0, 0, none⟩)) rfl rfl (by kernel_rfl) (by kernel_rfl) (by kernel_rfl) (fun _ _ _ h => h) (Or.inl ⟨by rfl, fun U hU => by go_simp⟩) hS ?_
              try simp only [List.setIfInBounds_toArray, List.set_cons_zero, List.set_cons_succ]
              refine takeS (i := 8) (v := .slice (some ⟨g, 0, none⟩) n n) rfl rfl (by kernel_rfl) (by kernel_rfl) (by kernel_rfl) (fun _ _ _ h => h) (Or.inl ⟨by rfl, fun U hU => by have cu := cell_of_row _ s0 0 _ _ _ (keep_block HS0.out hU); go_simp⟩) hS ?_
              try simp only [List.setIfInBounds_toArray, List.set_cons_zero, List.set_cons_succ]
              refine takeS (i := 9) (v := .int .i64 (k : Int)) rfl rfl (by kernel_rfl) (by kernel_rfl) (by kernel_rfl) (fun _ _ _ h => h) (Or.inl ⟨by rfl, fun U hU => by go_simp⟩) hS ?_
              try simp only [List.setIfInBounds_toArray, List.set_cons_zero, List.set_cons_succ]
              refine takeS (i := 10) (v := .pointer (some ⟨g, k * 2, none⟩)) rfl rfl (by kernel_rfl) (by kernel_rfl) (by kernel_rfl) (fun _ _ _ h => h) (Or.inl ⟨by rfl, fun U hU => by go_simp⟩) hS ?_
              try simp only [List.setIfInBounds_toArray, List.set_cons_zero, List.set_cons_succ]
              refine takeS (i := 11) (v := .agg #[.int .u8 xt, .slice (some ⟨y, 0, none⟩) xn xn]) rfl rfl (by kernel_rfl) (by kernel_rfl) (by kernel_rfl) (fun _ _ _ h => h) (Or.inl ⟨by rfl, fun U hU => by obtain ⟨cu0, cu1⟩ := HXW.out U hU; go_simp⟩) hS ?_
              try simp only [List.setIfInBounds_toArray, List.set_cons_zero, List.set_cons_succ]
              have OA := Lib.hid (OD.out.below ((Below.refl WD.heap.size WD).alloc (Nat.le_refl _) (.cells #[.int .u8 xt, .slice (some ⟨y, 0, none⟩) xn xn] 43)))
              have KA := Lib.hid (keep_block KD.out ((Below.refl WD.heap.size WD).alloc (Nat.le_refl _) (.cells #[.int .u8 xt, .slice (some ⟨y, 0, none⟩) xn xn] 43)))
              have BA := Lib.hid (BD.out.alloc BD.out.size (.cells #[.int .u8 xt, .slice (some ⟨y, 0, none⟩) xn xn] 43))
              have RA := Lib.hid (show (WD.alloc (.cells #[.int .u8 xt, .slice (some ⟨y, 0, none⟩) xn xn] 43)).ownsRow w.heap.size 43 2 v1 k (blC (bs.take k) ys) from by have h := OA.out.row1; rw [HTL.out] at h; exact h)
              refine wpAnyH_ready (rs := [4, 12]) (by kernel_rfl) (by simp) ?_
              refine AllReadyH.cons rfl (fun KQ hK => ?_) (AllReadyH.cons rfl (fun KQ hK => ?_) AllReadyH.nil)
              · rw [if_pos (by rfl)]
                have cg := cell_of_row _ w.heap.size 0 _ _ _ OD.out.box
                go_simp
                refine hK.out _ _ hS (fun hS => ?_)
                clear hK cg
                refine wpAnyH_ready (rs := [12]) (by kernel_rfl) (by simp) ?_
                refine AllReadyH.cons rfl (fun KQ hK => ?_) AllReadyH.nil
                rw [if_pos (by rfl)]
                refine wp_buildSlice_oneS 27 43 _ rfl Try.underlying27 hi0 hz0 #[.int .u8 xt, .slice (some ⟨y, 0, none⟩) xn xn] rfl (by rw [hs0]; rfl) (by rw [hs0]; decide) (by rw [hs0]; decide) ?_
                simp only [Act.put]
                refine hK.out _ _ (BD.out.alloc BD.out.size _) (fun hS => ?_)
                clear hK
                refine wpAnyH_ready (rs := [13]) (by kernel_rfl) (by simp) ?_
                refine AllReadyH.cons rfl (fun KQ hK => ?_) AllReadyH.nil
                rw [if_pos (by rfl)]
                refine wp_append_own _ _ _ 27 rfl w.heap.size 43 i0 z0 2 32 Try.underlying27 hi0 hz0 hs0 hb0 hc0 (by decide) v1 k (blC (bs.take k) ys) rfl RA.out ⟨WD.heap.size, 0, none⟩ 1 1 [.int .u8 xt, .slice (some ⟨y, 0, none⟩) xn xn] rfl (by rfl) ?k1_1 ?k1_2 ?k1_3 ?k1_4 ?k1_5 ?_
                case k1_1 =>
                  intro p u hu
                  rw [addr_add, Nat.zero_add, cell_of_row _ WD.heap.size p _ _ _ (heap_alloc_last WD (.cells #[.int .u8 xt, .slice (some ⟨y, 0, none⟩) xn xn] 43)), ← hu]
                  simp [ints]
                case k1_2 => intro u hu; simp at hu; rcases hu with rfl | rfl <;> rfl
                case k1_3 => unfold maxLen; omega
                case k1_4 => omega
                case k1_5 => have := BD.out.size; simp; omega
                intro v4 w4 hown4 hgrow4 hnil4
                obtain ⟨g4, c4, rfl⟩ := rowSucc hown4
                have hyd := HYW.out WD BD.out
                obtain ⟨hX4, hO4⟩ := OA.out.app1 (x := ⟨xt, xa, xn, xc, xl⟩) hgrow4 (by rw [HTL.out]; exact hown4) (keep_block hyd ((Below.refl _ _).alloc (Nat.le_refl _) _))
                have X4 := Lib.hid hX4
                have O4 := Lib.hid hO4
                have KK4 := Lib.hid ((hgrow4.block gN (Array.getElem?_eq_some_iff.1 KA.out).1 (fun e => row_ne OA.out.row1 KA.out (by decide) e.symm)).trans KA.out)
                have B4 := Lib.hid (BA.out.grown hgrow4 BA.out.size (fun q hq => (OA.out.row1.lt q hq).1))
                clear hX4 hO4 hown4 hgrow4 hnil4
                refine hK.out _ _ (B4.out) (fun hS => ?_)
                clear hK
                refine takeS (i := 14) (v := .pointer (some ⟨w.heap.size, 0, none⟩)) rfl rfl (by kernel_rfl) (by kernel_rfl) (by kernel_rfl) (fun _ _ _ h => h) (Or.inl ⟨by rfl, fun U hU => by go_simp⟩) hS ?_
                try simp only [List.setIfInBounds_toArray, List.set_cons_zero, List.set_cons_succ]
                refine takeS (i := 15) (v := .pointer (some ⟨w.heap.size, 0, none⟩)) rfl rfl (by kernel_rfl) (by kernel_rfl) (by kernel_rfl) (fun _ _ _ h => h) (Or.inl ⟨by rfl, fun U hU => by go_simp⟩) hS ?_
                try simp only [List.setIfInBounds_toArray, List.set_cons_zero, List.set_cons_succ]
                refine wpAnyH_ready (rs := [16]) (by kernel_rfl) (by simp) ?_
                refine AllReadyH.cons rfl (fun KQ hK => ?_) AllReadyH.nil
                rw [if_pos (by rfl)]
                have cg := cell_of_row w4 w.heap.size 0 _ _ _ X4.out
                have cf := frozen_of_row w4 w.heap.size 0 _ _ X4.out
                go_simp
                refine hK.out _ _ (B4.out.grown (grown_setCell w4 w.heap.size 0 (.slice (some ⟨g4, 0, none⟩) (k + 1) c4)) B4.out.size (fun q hq => by cases hq; omega)) (fun hS => ?_)
                clear hK cg cf
                refine wpAnyH_done (by kernel_rfl) ?_ _
                go_wp2_with fail
                go_meet
                have GX := Lib.hid (grown_setCell w4 w.heap.size 0 (.slice (some ⟨g4, 0, none⟩) (k + 1) c4))
                have KK5 := Lib.hid ((GX.out.block gN (Array.getElem?_eq_some_iff.1 KK4.out).1 (fun e => KNE.out (by cases e; rfl))).trans KK4.out)
                exact ⟨_, rfl, _, ys ++ [y], by rw [← HTK.out]; exact O4.out, KK5.out, hS⟩
              · rw [if_pos (by rfl)]
                refine wp_buildSlice_oneS 27 43 _ rfl Try.underlying27 hi0 hz0 #[.int .u8 xt, .slice (some ⟨y, 0, none⟩) xn xn] rfl (by rw [hs0]; rfl) (by rw [hs0]; decide) (by rw [hs0]; decide) ?_
                simp only [Act.put]
                refine hK.out _ _ (BD.out.alloc BD.out.size _) (fun hS => ?_)
                clear hK
                refine wpAnyH_ready (rs := [4]) (by kernel_rfl) (by simp) ?_
                refine AllReadyH.cons rfl (fun KQ hK => ?_) AllReadyH.nil
                rw [if_pos (by rfl)]
                have cg := cell_of_row _ w.heap.size 0 _ _ _ OA.out.box
                go_simp
                refine hK.out _ _ hS (fun hS => ?_)
                clear hK cg
                refine wpAnyH_ready (rs := [13]) (by kernel_rfl) (by simp) ?_
                refine AllReadyH.cons rfl (fun KQ hK => ?_) AllReadyH.nil
                rw [if_pos (by rfl)]
                refine wp_append_own _ _ _ 27 rfl w.heap.size 43 i0 z0 2 32 Try.underlying27 hi0 hz0 hs0 hb0 hc0 (by decide) v1 k (blC (bs.take k) ys) rfl RA.out ⟨WD.heap.size, 0, none⟩ 1 1 [.int .u8 xt, .slice (some ⟨y, 0, none⟩) xn xn] rfl (by rfl) ?k2_1 ?k2_2 ?k2_3 ?k2_4 ?k2_5 ?_
                case k2_1 =>
                  intro p u hu
                  rw [addr_add, Nat.zero_add, cell_of_row _ WD.heap.size p _ _ _ (heap_alloc_last WD (.cells #[.int .u8 xt, .slice (some ⟨y, 0, none⟩) xn xn] 43)), ← hu]
                  simp [ints]
                case k2_2 => intro u hu; simp at hu; rcases hu with rfl | rfl <;> rfl
                case k2_3 => unfold maxLen; omega
                case k2_4 => omega
                case k2_5 => have := BD.out.size; simp; omega
                intro v4 w4 hown4 hgrow4 hnil4
                obtain ⟨g4, c4, rfl⟩ := rowSucc hown4
                have hyd := HYW.out WD BD.out
                obtain ⟨hX4, hO4⟩ := OA.out.app1 (x := ⟨xt, xa, xn, xc, xl⟩) hgrow4 (by rw [HTL.out]; exact hown4) (keep_block hyd ((Below.refl _ _).alloc (Nat.le_refl _) _))
                have X4 := Lib.hid hX4
                have O4 := Lib.hid hO4
                have KK4 := Lib.hid ((hgrow4.block gN (Array.getElem?_eq_some_iff.1 KA.out).1 (fun e => row_ne OA.out.row1 KA.out (by decide) e.symm)).trans KA.out)
                have B4 := Lib.hid (BA.out.grown hgrow4 BA.out.size (fun q hq => (OA.out.row1.lt q hq).1))
                clear hX4 hO4 hown4 hgrow4 hnil4
                refine hK.out _ _ (B4.out) (fun hS => ?_)
                clear hK
                refine takeS (i := 14) (v := .pointer (some ⟨w.heap.size, 0, none⟩)) rfl rfl (by kernel_rfl) (by kernel_rfl) (by kernel_rfl) (fun _ _ _ h => h) (Or.inl ⟨by rfl, fun U hU => by go_simp⟩) hS ?_
                try simp only [List.setIfInBounds_toArray, List.set_cons_zero, List.set_cons_succ]
                refine takeS (i := 15) (v := .pointer (some ⟨w.heap.size, 0, none⟩)) rfl rfl (by kernel_rfl) (by kernel_rfl) (by kernel_rfl) (fun _ _ _ h => h) (Or.inl ⟨by rfl, fun U hU => by go_simp⟩) hS ?_
                try simp only [List.setIfInBounds_toArray, List.set_cons_zero, List.set_cons_succ]
                refine wpAnyH_ready (rs := [16]) (by kernel_rfl) (by simp) ?_
                refine AllReadyH.cons rfl (fun KQ hK => ?_) AllReadyH.nil
                rw [if_pos (by rfl)]
                have cg := cell_of_row w4 w.heap.size 0 _ _ _ X4.out
                have cf := frozen_of_row w4 w.heap.size 0 _ _ X4.out
                go_simp
                refine hK.out _ _ (B4.out.grown (grown_setCell w4 w.heap.size 0 (.slice (some ⟨g4, 0, none⟩) (k + 1) c4)) B4.out.size (fun q hq => by cases hq; omega)) (fun hS => ?_)
                clear hK cg cf
                refine wpAnyH_done (by kernel_rfl) ?_ _
                go_wp2_with fail
                go_meet
                have GX := Lib.hid (grown_setCell w4 w.heap.size 0 (.slice (some ⟨g4, 0, none⟩) (k + 1) c4))
                have KK5 := Lib.hid ((GX.out.block gN (Array.getElem?_eq_some_iff.1 KK4.out).1 (fun e => KNE.out (by cases e; rfl))).trans KK4.out)
                exact ⟨_, rfl, _, ys ++ [y], by rw [← HTK.out]; exact O4.out, KK5.out, hS⟩
            case rest =>
              obtain ⟨w8, rfl, v1', ys', hO, hK8, hB8⟩ := hcut
              have O8 := Lib.hid hO
              have K8 := Lib.hid hK8
              have B8 := Lib.hid hB8
              clear hO hK8 hB8 O7 K7 B7
              go_upto_region 13 with fail
              have OD := Lib.hid (O8.out.below ((Below.refl _ _).drew))
              have BD := Lib.hid (B8.out.drew)
              have KD := Lib.hid (keep_block K8.out ((Below.refl w8.heap.size w8).drew))
              refine wp_region_held_drew (S := fun U => Below w.heap.size w U ∧ U.heap[gN]? = some (.cells (ints .u8 V) 46)) (by kernel_rfl) (⟨BD.out, KD.out⟩) (fun hS => ?_)
              generalize w8.drew = WD at OD BD KD hS ⊢
              refine takeS (i := 0) (v := .pointer (some ⟨w.heap.size, 0, none⟩)) rfl rfl (by kernel_rfl) (by kernel_rfl) (by kernel_rfl) (fun _ _ _ h => h) (Or.inl ⟨by rfl, fun U hU => by go_simp⟩) hS ?_
              try simp only [List.setIfInBounds_toArray, List.set_cons_zero, List.set_cons_succ]
              refine takeS (i := 1) (v := .pointer (some ⟨w.heap.size, 0, none⟩)) rfl rfl (by kernel_rfl) (by kernel_rfl) (by kernel_rfl) (fun _ _ _ h => h) (Or.inl ⟨by rfl, fun U hU => by go_simp⟩) hS ?_
              try simp only [List.setIfInBounds_toArray, List.set_cons_zero, List.set_cons_succ]
              refine takeS (i := 2) (v := .pointer (some ⟨w.heap.size, 0, none⟩)) rfl rfl (by kernel_rfl) (by kernel_rfl) (by kernel_rfl) (fun _ _ _ h => h) (Or.inl ⟨by rfl, fun U hU => by go_simp⟩) hS ?_
              try simp only [List.setIfInBounds_toArray, List.set_cons_zero, List.set_cons_succ]
              refine takeS (i := 3) (v := .pointer (some ⟨w.heap.size, 1, none⟩)) rfl rfl (by kernel_rfl) (by kernel_rfl) (by kernel_rfl) (fun _ _ _ h => h) (Or.inl ⟨by rfl, fun U hU => by go_simp⟩) hS ?_
              try simp only [List.setIfInBounds_toArray, List.set_cons_zero, List.set_cons_succ]
              refine takeS (i := 5) (v := .agg (ints .u8 V)) rfl rfl (by kernel_rfl) (by kernel_rfl) (by kernel_rfl) (fun _ _ _ h => h) (yields_rowS (by rfl) 46 _ rfl gN rfl (ints .u8 V) 46 _ (fun U hU => hU.2) Try.underlying46 rfl (by rw [ints_size, VL.out]; exact sizeKey)) hS ?_
              try simp only [List.setIfInBounds_toArray, List.set_cons_zero, List.set_cons_succ]
              have OA := Lib.hid (OD.out.below ((Below.refl WD.heap.size WD).alloc (Nat.le_refl _) (.cells (ints .u8 V) 46)))
              have KA := Lib.hid (keep_block KD.out ((Below.refl WD.heap.size WD).alloc (Nat.le_refl _) (.cells (ints .u8 V) 46)))
              have BA := Lib.hid (BD.out.alloc BD.out.size (.cells (ints .u8 V) 46))
              refine wpAnyH_ready (rs := [4, 6]) (by kernel_rfl) (by simp) ?_
              refine AllReadyH.cons rfl (fun KQ hK => ?_) (AllReadyH.cons rfl (fun KQ hK => ?_) AllReadyH.nil)
              · rw [if_pos (by rfl)]
                have cg := cell_of_row _ w.heap.size 1 _ _ _ OD.out.box
                go_simp
                refine hK.out _ _ hS (fun hS => ?_)
                clear hK cg
                refine wpAnyH_ready (rs := [6]) (by kernel_rfl) (by simp) ?_
                refine AllReadyH.cons rfl (fun KQ hK => ?_) AllReadyH.nil
                rw [if_pos (by rfl)]
                refine wp_buildSlice_oneS 34 46 _ rfl Try.underlying34 hi1 hz1 (ints .u8 V) rfl (by rw [hs1, ints_size, VL.out]) (by rw [hs1]; decide) (by rw [hs1]; decide) ?_
                simp only [Act.put]
                refine hK.out _ _ ⟨BD.out.alloc BD.out.size _, KA.out⟩ (fun hS => ?_)
                clear hK
                refine wpAnyH_ready (rs := [7]) (by kernel_rfl) (by simp) ?_
                refine AllReadyH.cons rfl (fun KQ hK => ?_) AllReadyH.nil
                rw [if_pos (by rfl)]
                refine wp_append_own _ _ _ 34 rfl w.heap.size 46 i1 z1 32 32 Try.underlying34 hi1 hz1 hs1 hb1 hc1 (by decide) v2 k (((bs.take k).flatMap keyX).map (Value.int .u8)) rfl OA.out.row2 ⟨WD.heap.size, 0, none⟩ 1 1 (V.map (Value.int .u8)) rfl (by rw [List.length_map, VL.out]) ?k3_1 ?k3_2 ?k3_3 ?k3_4 ?k3_5 ?_
                case k3_1 =>
                  intro p u hu
                  rw [addr_add, Nat.zero_add, cell_of_row _ WD.heap.size p _ _ _ (heap_alloc_last WD (.cells (ints .u8 V) 46)), ← hu]
                  simp [ints]
                case k3_2 => intro u hu; obtain ⟨z, _, rfl⟩ := List.mem_map.1 hu; rfl
                case k3_3 => unfold maxLen; omega
                case k3_4 => omega
                case k3_5 => have := BD.out.size; simp; omega
                intro v4 w4 hown4 hgrow4 hnil4
                obtain ⟨g4, c4, rfl⟩ := rowSucc hown4
                obtain ⟨hX4, hO4⟩ := OA.out.app2 (k := V) hgrow4 hown4
                have X4 := Lib.hid hX4
                have O4 := Lib.hid hO4
                have KK4 := Lib.hid ((hgrow4.block gN (Array.getElem?_eq_some_iff.1 KA.out).1 (fun e => V2NE.out e.symm)).trans KA.out)
                have B4 := Lib.hid (BA.out.grown hgrow4 BA.out.size (fun q hq => (OA.out.row2.lt q hq).1))
                clear hX4 hO4 hown4 hgrow4 hnil4
                refine hK.out _ _ (⟨B4.out, KK4.out⟩) (fun hS => ?_)
                clear hK
                refine takeS (i := 8) (v := .pointer (some ⟨w.heap.size, 0, none⟩)) rfl rfl (by kernel_rfl) (by kernel_rfl) (by kernel_rfl) (fun _ _ _ h => h) (Or.inl ⟨by rfl, fun U hU => by go_simp⟩) hS ?_
                try simp only [List.setIfInBounds_toArray, List.set_cons_zero, List.set_cons_succ]
                refine takeS (i := 9) (v := .pointer (some ⟨w.heap.size, 1, none⟩)) rfl rfl (by kernel_rfl) (by kernel_rfl) (by kernel_rfl) (fun _ _ _ h => h) (Or.inl ⟨by rfl, fun U hU => by go_simp⟩) hS ?_
                try simp only [List.setIfInBounds_toArray, List.set_cons_zero, List.set_cons_succ]
                refine wpAnyH_ready (rs := [10]) (by kernel_rfl) (by simp) ?_
                refine AllReadyH.cons rfl (fun KQ hK => ?_) AllReadyH.nil
                rw [if_pos (by rfl)]
                have cg := cell_of_row w4 w.heap.size 1 _ _ _ X4.out
                have cf := frozen_of_row w4 w.heap.size 1 _ _ X4.out
                go_simp
                refine hK.out _ _ (⟨B4.out.grown (grown_setCell w4 w.heap.size 1 (.slice (some ⟨g4, 0, none⟩) (k + 1) c4)) B4.out.size (fun q hq => by cases hq; omega), ((grown_setCell w4 w.heap.size 1 (.slice (some ⟨g4, 0, none⟩) (k + 1) c4)).block gN (Array.getElem?_eq_some_iff.1 KK4.out).1 (fun e => KNE.out (by cases e; rfl))).trans KK4.out⟩) (fun hS => ?_)
                clear hK cg cf
                refine wpAnyH_done (by kernel_rfl) ?_ _
                have O9 := Lib.hid O4.out
                have B9 := Lib.hid hS.1
                clear hS O4
                go_wp2_with fail
                go_roundw
                case rel => exact ⟨k + 1, _, _, _, by omega, by go_num, B9.out, by rw [HFK.out]; exact O9.out, PP5.out⟩
                case measure => simp [intOf]; omega
              · rw [if_pos (by rfl)]
                refine wp_buildSlice_oneS 34 46 _ rfl Try.underlying34 hi1 hz1 (ints .u8 V) rfl (by rw [hs1, ints_size, VL.out]) (by rw [hs1]; decide) (by rw [hs1]; decide) ?_
                simp only [Act.put]
                refine hK.out _ _ ⟨BD.out.alloc BD.out.size _, KA.out⟩ (fun hS => ?_)
                clear hK
                refine wpAnyH_ready (rs := [4]) (by kernel_rfl) (by simp) ?_
                refine AllReadyH.cons rfl (fun KQ hK => ?_) AllReadyH.nil
                rw [if_pos (by rfl)]
                have cg := cell_of_row _ w.heap.size 1 _ _ _ OA.out.box
                go_simp
                refine hK.out _ _ hS (fun hS => ?_)
                clear hK cg
                refine wpAnyH_ready (rs := [7]) (by kernel_rfl) (by simp) ?_
                refine AllReadyH.cons rfl (fun KQ hK => ?_) AllReadyH.nil
                rw [if_pos (by rfl)]
                refine wp_append_own _ _ _ 34 rfl w.heap.size 46 i1 z1 32 32 Try.underlying34 hi1 hz1 hs1 hb1 hc1 (by decide) v2 k (((bs.take k).flatMap keyX).map (Value.int .u8)) rfl OA.out.row2 ⟨WD.heap.size, 0, none⟩ 1 1 (V.map (Value.int .u8)) rfl (by rw [List.length_map, VL.out]) ?k4_1 ?k4_2 ?k4_3 ?k4_4 ?k4_5 ?_
                case k4_1 =>
                  intro p u hu
                  rw [addr_add, Nat.zero_add, cell_of_row _ WD.heap.size p _ _ _ (heap_alloc_last WD (.cells (ints .u8 V) 46)), ← hu]
                  simp [ints]
                case k4_2 => intro u hu; obtain ⟨z, _, rfl⟩ := List.mem_map.1 hu; rfl
                case k4_3 => unfold maxLen; omega
                case k4_4 => omega
                case k4_5 => have := BD.out.size; simp; omega
                intro v4 w4 hown4 hgrow4 hnil4
                obtain ⟨g4, c4, rfl⟩ := rowSucc hown4
                obtain ⟨hX4, hO4⟩ := OA.out.app2 (k := V) hgrow4 hown4
                have X4 := Lib.hid hX4
                have O4 := Lib.hid hO4
                have KK4 := Lib.hid ((hgrow4.block gN (Array.getElem?_eq_some_iff.1 KA.out).1 (fun e => V2NE.out e.symm)).trans KA.out)
                have B4 := Lib.hid (BA.out.grown hgrow4 BA.out.size (fun q hq => (OA.out.row2.lt q hq).1))
                clear hX4 hO4 hown4 hgrow4 hnil4
                refine hK.out _ _ (⟨B4.out, KK4.out⟩) (fun hS => ?_)
                clear hK
                refine takeS (i := 8) (v := .pointer (some ⟨w.heap.size, 0, none⟩)) rfl rfl (by kernel_rfl) (by kernel_rfl) (by kernel_rfl) (fun _ _ _ h => h) (Or.inl ⟨by rfl, fun U hU => by go_simp⟩) hS ?_
                try simp only [List.setIfInBounds_toArray, List.set_cons_zero, List.set_cons_succ]
                refine takeS (i := 9) (v := .pointer (some ⟨w.heap.size, 1, none⟩)) rfl rfl (by kernel_rfl) (by kernel_rfl) (by kernel_rfl) (fun _ _ _ h => h) (Or.inl ⟨by rfl, fun U hU => by go_simp⟩) hS ?_
                try simp only [List.setIfInBounds_toArray, List.set_cons_zero, List.set_cons_succ]
                refine wpAnyH_ready (rs := [10]) (by kernel_rfl) (by simp) ?_
                refine AllReadyH.cons rfl (fun KQ hK => ?_) AllReadyH.nil
                rw [if_pos (by rfl)]
                have cg := cell_of_row w4 w.heap.size 1 _ _ _ X4.out
                have cf := frozen_of_row w4 w.heap.size 1 _ _ X4.out
                go_simp
                refine hK.out _ _ (⟨B4.out.grown (grown_setCell w4 w.heap.size 1 (.slice (some ⟨g4, 0, none⟩) (k + 1) c4)) B4.out.size (fun q hq => by cases hq; omega), ((grown_setCell w4 w.heap.size 1 (.slice (some ⟨g4, 0, none⟩) (k + 1) c4)).block gN (Array.getElem?_eq_some_iff.1 KK4.out).1 (fun e => KNE.out (by cases e; rfl))).trans KK4.out⟩) (fun hS => ?_)
                clear hK cg cf
                refine wpAnyH_done (by kernel_rfl) ?_ _
                have O9 := Lib.hid O4.out
                have B9 := Lib.hid hS.1
                clear hS O4
                go_wp2_with fail
                go_roundw
                case rel => exact ⟨k + 1, _, _, _, by omega, by go_num, B9.out, by rw [HFK.out]; exact O9.out, PP5.out⟩
                case measure => simp [intOf]; omega
          · have HNO := Lib.hid hno
            clear hno
            go_wp2_with fail
            go_returns
            exact OpnR.no HNO.out B7.out
      · have e1 : blB x.n = false := by unfold blB; exact decide_eq_false hbl
        rw [e1] at HVB
        have HNO := Lib.hid (show ¬ stP bs from fun h => hbl (h.2.1 k x hx0.out))
        clear e1 hbl
        go_wp2_with fail
        refine HVB.out.mono ?_
        rintro e w' ⟨rfl, rfl⟩
        go_wp2_with fail
        go_returns
        exact OpnR.no HNO.out B1.out
    · obtain rfl : k = n := by omega
      have HYES := Lib.hid (PP.out.whole HL.out (by omega))
      have e3 : bs.take k = bs := List.take_of_length_le (by rw [HL.out]; omega)
      rw [e3] at O1
      clear e3
      go_wp2_with fail
      go_returns
      exact ⟨Or.inl ⟨HYES.out, rfl, _, _, _, by rw [HL.out]; exact O1.out⟩, B1.out⟩
end Go.Proofs.Ytdoelmjaongjfaa
namespace Go.Proofs.Ytdoelmjaongjfaa
open Go.ChangeShapes Go.WideShapes Go.ChangeAt Go.RowKit
set_option linter.unusedVariables false
set_option linter.unusedSimpArgs false
open Classical in
noncomputable def stV (bs : List BlV) : Bool := if stP bs then true else false
theorem stV_yes {bs : List BlV} (h : stP bs) : stV bs = true := by unfold stV; exact if_pos h
theorem stV_no {bs : List BlV} (h : ¬ stP bs) : stV bs = false := by unfold stV; exact if_neg h
set_option maxRecDepth 100000 in
set_option maxHeartbeats 2000000 in
theorem vs_spec (g n : Nat) (bs : List BlV) (hn : n ≤ 1048576) (hl : bs.length = n) (hf : ∀ (i : Nat) (x : BlV), bs[i]? = some x → BlG x) (w : World) (ha : OutB w g n n bs) :
    Calls Try.prog 15 #[.agg #[.slice (some ⟨g, 0, none⟩) n n]] w fun e w' => e = .returned (.bool (stV bs)) ∧ Below w.heap.size w w' := by
  have HO := Lib.hid (open_spec w.heap.size g n bs hn hl hf (w.alloc (.cells #[.slice (some ⟨g, 0, none⟩) n n] 29)) (heap_alloc_last _ _) (ha.below ((Below.refl _ _).alloc (Nat.le_refl _) _)))
  clear ha hf hl
  go_enter Try.func15, Try.ntmps15
  go_wp2_with fail
  refine HO.out.mono ?_
  rintro e w1 ⟨h, hb⟩
  have HB := Lib.hid (show Below w.heap.size w w1 from ((Below.refl _ _).alloc (Nat.le_refl _) _).trans (hb.mono (by simp)))
  clear hb
  rcases h with ⟨hP, rfl, -⟩ | ⟨hP, rfl⟩
  · have HS := Lib.hid (stV_yes hP)
    clear hP
    go_wp2_with fail
    go_ret
    exact ⟨by rw [HS.out]; rfl, HB.out⟩
  · have HS := Lib.hid (stV_no hP)
    clear hP
    go_wp2_with fail
    go_ret
    exact ⟨by rw [HS.out]; rfl, HB.out⟩
set_option maxRecDepth 100000 in
set_option maxHeartbeats 2000000 in
theorem vs_impl (g n : Nat) (bs : List BlV) (hn : n ≤ 1048576) (hl : bs.length = n) (hf : ∀ (i : Nat) (x : BlV), bs[i]? = some x → BlG x) (w : World) (ha : OutB w g n n bs) :
    Calls Try.prog 17 #[.agg #[.slice (some ⟨g, 0, none⟩) n n]] w fun e w' => e = .returned (.bool (stV bs)) ∧ Below w.heap.size w w' := by
  have HO := Lib.hid (sof_impl g n bs hn hl hf (w.alloc (.cells #[.slice (some ⟨g, 0, none⟩) n n] 29)) (ha.below ((Below.refl _ _).alloc (Nat.le_refl _) _)))
  clear ha hf hl
  go_enter Try.func17, Try.ntmps17
  go_wp2_with fail
  refine HO.out.mono ?_
  rintro e w1 ⟨h, hb⟩
  have HB := Lib.hid (show Below w.heap.size w w1 from ((Below.refl _ _).alloc (Nat.le_refl _) _).trans (hb.mono (by simp)))
  clear hb
  rcases h with ⟨hP, m, rfl, -, -⟩ | ⟨hP, rfl⟩
  · have HS := Lib.hid (stV_yes hP)
    clear hP
    go_wp2_with fail
    go_ret
    exact ⟨by rw [HS.out]; rfl, HB.out⟩
  · have HS := Lib.hid (stV_no hP)
    clear hP
    go_wp2_with fail
    go_ret
    exact ⟨by rw [HS.out]; rfl, HB.out⟩
end Go.Proofs.Ytdoelmjaongjfaa
namespace Go.Proofs.Ytdoelmjaongjfaa
open Go.ChangeShapes Go.WideShapes Go.ChangeAt Go.RowKit
set_option linter.unusedVariables false
set_option linter.unusedSimpArgs false
open Go.Sort Go.Shelf
def keyK (x : BlV) : KeyS := ⟨keyX x, isK_keyX x⟩
theorem flatK_keyK : ∀ bs : List BlV, flatK (bs.map keyK) = bs.flatMap keyX
  | [] => rfl
  | x :: r => by
    show keyX x ++ flatK (r.map keyK) = keyX x ++ r.flatMap keyX
    rw [flatK_keyK r]
theorem cmp_trans3 {a b c : BlV} (h1 : cmpI (keyX a) (keyX b) < 0) (h2 : cmpI (keyX b) (keyX c) < 0) : cmpI (keyX a) (keyX c) < 0 :=
  cmpI_trans _ _ _ (by rw [(isK_keyX a).1, (isK_keyX b).1]) (by rw [(isK_keyX b).1, (isK_keyX c).1]) h1 h2
theorem stP_asc : ∀ {bs : List BlV}, (∀ (i : Nat) (x y : BlV), bs[i]? = some x → bs[i + 1]? = some y → cmpI (keyX x) (keyX y) < 0) → bs.Pairwise (fun x y => cmpI (keyX x) (keyX y) < 0)
  | [], _ => List.Pairwise.nil
  | [x], _ => List.pairwise_singleton _ _
  | x :: y :: r, h => by
    have hr := stP_asc (bs := y :: r) (fun i a b ha hb => h (i + 1) a b (by simpa using ha) (by simpa using hb))
    have h0 : cmpI (keyX x) (keyX y) < 0 := h 0 x y rfl rfl
    refine List.Pairwise.cons (fun z hz => ?_) hr
    rcases List.mem_cons.1 hz with rfl | hz
    · exact h0
    · exact cmp_trans3 h0 ((List.pairwise_cons.1 hr).1 z hz)
theorem sortK_st {bs : List BlV} (h : stP bs) : sortK (bs.map keyK) = bs.map keyK := sortK_asc (List.pairwise_map.2 (stP_asc h.2.2))
open Classical in
noncomputable def toK (l : List Int) : KeyS := if h : IsK l then ⟨l, h⟩ else default
theorem toK_val (x : KeyS) : toK x.1 = x := by unfold toK; exact dif_pos x.2
theorem perm_val {l l' : List KeyS} (h : (l.map (·.1)).Perm (l'.map (·.1))) : l.Perm l' := by
  have h2 := h.map toK
  rw [List.map_map, List.map_map] at h2
  have e : (toK ∘ fun x : KeyS => x.1) = id := funext toK_val
  rw [show (toK ∘ fun x : KeyS => x.1) = id from e, List.map_id, List.map_id] at h2
  exact h2
theorem shelf_keys {w : World} {xs : List BlV} {ps : List (List Int × Value)} (h2 : ps.length = xs.length) (h3 : ∀ (i : Nat) (p : List Int × Value) (x : BlV), ps[i]? = some p → xs[i]? = some x → p.1 = keyX x ∧ BlHere w p.2 x) : ps.map (·.1) = (xs.map keyK).map (·.1) := by
  apply List.ext_getElem (by simp [h2])
  intro i a b
  simp at a b
  simp only [List.getElem_map]
  exact (h3 i ps[i] xs[i] (List.getElem?_eq_getElem (by omega)) (List.getElem?_eq_getElem (by omega))).1
theorem row_mono {w : World} {base base' : Nat} {e : TypeId} {size : Nat} {v : Value} {n : Nat} {xs : List Value} (h : w.ownsRow base' e size v n xs) (hb : base ≤ base') : w.ownsRow base e size v n xs :=
  ⟨h.1, h.2.imp id fun ⟨g, c, cur, hv, hc, r⟩ => ⟨g, c, cur, hv, Nat.le_trans hb hc, r⟩⟩
set_option maxRecDepth 100000 in
set_option maxHeartbeats 2000000 in
theorem keys_impl (m : Nat) (xs : List BlV) (hx : xs.length ≤ 1048576) (w : World) (hsh : ShelfAt w m xs) :
    Calls Try.prog 63 #[.map (some m)] w fun e w' => ∃ v, e = .returned v ∧ w'.ownsRow w.heap.size 46 32 v xs.length ((flatK (sortK (xs.map keyK))).map (Value.int .u8)) ∧ Below w.heap.size w w' := by
  obtain ⟨ps, hK, hlen, hps⟩ := hsh
  have hkeys := shelf_keys hlen hps
  have B0 : Below w.heap.size w (w.alloc (.cells #[.map (some m)] 80)) := (Below.refl _ w).alloc (Nat.le_refl _) _
  have hseq := keys_stops Fence.wide 1 trivial rfl (by omega) w.heap.size m ps (w.alloc (.cells #[.map (some m)] 80)) (by simp) (cell_of_row _ w.heap.size 0 _ _ _ (heap_alloc_last w _)) (hK.later B0)
  have hsf := Lib.hid (sortedFunc_impl _ _ (enters_of Try.func111 (by kernel_rfl) rfl) _ _ ps.length (by omega) (fun ss h => by have := h.length_eq; simp at this; omega) _ hseq)
  have hkk := Lib.hid (callsIn_wide.1 (keys_in Fence.wide 3 trivial rfl (some m) w))
  clear hseq hK hps
  go_enter Try.func63, Try.ntmps63
  go_wp2_with (first
    | (go_at_call 100; refine hkk.out.mono ?_; rintro e w1 ⟨rfl, rfl⟩)
    | (go_at_call 99; refine hsf.out.mono ?_; rintro e w2 ⟨v, ss, rfl, hS, hrow, hb⟩))
  go_ret
  rw [hkeys] at hS
  have hperm := perm_val hS
  have hl : ss.length = xs.length := by rw [hperm.length_eq]; simp
  rw [sortK_of_perm hperm, hl] at hrow
  exact ⟨v, rfl, row_mono hrow (by simp), B0.trans (hb.mono (by simp))⟩
open Classical in
/-- The keys that are told of a store, and the code. -/
noncomputable def koL (bs : List BlV) : List BlV := if stP bs then bs else []
noncomputable def koC (bs : List BlV) : Int := if stV bs then 0 else 1
theorem koL_yes {bs : List BlV} (h : stP bs) : koL bs = bs := by unfold koL; exact if_pos h
theorem koL_no {bs : List BlV} (h : ¬ stP bs) : koL bs = [] := by unfold koL; exact if_neg h
theorem koC_yes {bs : List BlV} (h : stP bs) : koC bs = 0 := by unfold koC; rw [stV_yes h]; rfl
theorem koC_no {bs : List BlV} (h : ¬ stP bs) : koC bs = 1 := by unfold koC; rw [stV_no h]; rfl
def KoR (w : World) (bs : List BlV) (e : Ending) (w' : World) : Prop := ∃ v, e = .returned (.tuple #[v, .int .i64 (koC bs)]) ∧ w'.ownsRow w.heap.size 46 32 v (koL bs).length (((koL bs).flatMap keyX).map (Value.int .u8)) ∧ Below w.heap.size w w'
set_option maxRecDepth 100000 in
set_option maxHeartbeats 2000000 in
theorem kos_spec (g n : Nat) (bs : List BlV) (hn : n ≤ 1048576) (hl : bs.length = n) (hf : ∀ (i : Nat) (x : BlV), bs[i]? = some x → BlG x) (w : World) (ha : OutB w g n n bs) :
    Calls Try.prog 21 #[.agg #[.slice (some ⟨g, 0, none⟩) n n]] w (KoR w bs) := by
  have HO := Lib.hid (open_spec w.heap.size g n bs hn hl hf (w.alloc (.cells #[.slice (some ⟨g, 0, none⟩) n n] 29)) (heap_alloc_last _ _) (ha.below ((Below.refl _ _).alloc (Nat.le_refl _) _)))
  clear ha hf hl
  go_enter Try.func21, Try.ntmps21
  go_wp2_with fail
  refine HO.out.mono ?_
  rintro e w1 ⟨h, hb⟩
  have HB := Lib.hid (show Below w.heap.size w w1 from ((Below.refl _ _).alloc (Nat.le_refl _) _).trans (hb.mono (by simp)))
  clear hb
  rcases h with ⟨hP, rfl, v1, v2, ys, hop⟩ | ⟨hP, rfl⟩
  · have HP := Lib.hid hP
    have H2 := Lib.hid hop.row2
    have q1 : w1.cell? ⟨w.heap.size + 1, 1, none⟩ = some v2 := by have q := cell_of_row _ _ 1 _ _ _ hop.box; simpa using q
    have q0 : w1.cell? ⟨w.heap.size + 1, 0, none⟩ = some v1 := by have q := cell_of_row _ _ 0 _ _ _ hop.box; simpa using q
    clear hP hop
    go_wp2_with fail
    go_returns
    refine ⟨v2, by rw [koC_yes HP.out]; rfl, ?_, HB.out⟩
    rw [koL_yes HP.out]
    exact row_mono H2.out (by simp)
  · have HP := Lib.hid hP
    clear hP
    go_wp2_with fail
    go_returns
    refine ⟨_, by rw [koC_no HP.out]; rfl, ?_, ?_⟩
    · rw [koL_no HP.out]
      exact ⟨rfl, .inr ⟨w1.heap.size, 0, #[], rfl, HB.out.size, heap_alloc_last _ _, Nat.le_refl _, by unfold maxLen; omega, rfl, rfl⟩⟩
    · exact HB.out.alloc HB.out.size _
set_option maxRecDepth 100000 in
set_option maxHeartbeats 2000000 in
theorem kos_impl (g n : Nat) (bs : List BlV) (hn : n ≤ 1048576) (hl : bs.length = n) (hf : ∀ (i : Nat) (x : BlV), bs[i]? = some x → BlG x) (w : World) (ha : OutB w g n n bs) :
    Calls Try.prog 22 #[.agg #[.slice (some ⟨g, 0, none⟩) n n]] w (KoR w bs) := by
  have HO := Lib.hid (sof_impl g n bs hn hl hf (w.alloc (.cells #[.slice (some ⟨g, 0, none⟩) n n] 29)) (ha.below ((Below.refl _ _).alloc (Nat.le_refl _) _)))
  have HL := Lib.hid hl
  clear ha hf hl
  go_enter Try.func22, Try.ntmps22
  go_wp2_with fail
  refine HO.out.mono ?_
  rintro e w1 ⟨h, hb⟩
  have HB := Lib.hid (show Below w.heap.size w w1 from ((Below.refl _ _).alloc (Nat.le_refl _) _).trans (hb.mono (by simp)))
  clear hb
  rcases h with ⟨hP, m, rfl, hm, hsh⟩ | ⟨hP, rfl⟩
  · have HP := Lib.hid hP
    have HK := Lib.hid (keys_impl m bs (by have := HL.out; omega) w1 hsh)
    clear hP hsh
    go_wp2_with (go_at_call 63; refine HK.out.mono ?_; rintro e w2 ⟨v, rfl, hrow, hb⟩)
    go_returns
    rw [sortK_st HP.out, flatK_keyK] at hrow
    refine ⟨v, by rw [koC_yes HP.out]; rfl, ?_, below_call HB.out HB.out.size hb⟩
    rw [koL_yes HP.out]
    exact row_mono hrow HB.out.size
  · have HP := Lib.hid hP
    clear hP
    go_wp2_with fail
    go_returns
    refine ⟨_, by rw [koC_no HP.out]; rfl, ?_, HB.out⟩
    rw [koL_no HP.out]
    exact ⟨rfl, .inl ⟨rfl, rfl⟩⟩
end Go.Proofs.Ytdoelmjaongjfaa
