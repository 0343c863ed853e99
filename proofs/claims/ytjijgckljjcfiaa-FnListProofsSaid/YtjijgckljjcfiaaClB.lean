/- Two pairs of keys as a value. Written by wip/gen/clb.py. -/
import Derived.Test.YtjijgckljjcfiaaPairsP
import Derived.Test.YtjijgckljjcfiaaClM
namespace Go.Proofs.Ytjijgckljjcfiaa
open Go.ChangeShapes Go.WideShapes Go.ChangeAt Go.RowKit
set_option linter.unusedVariables false
set_option linter.unusedSimpArgs false
def z128 : List Int := List.replicate 128 0
set_option maxRecDepth 100000 in
theorem z128_ints : ints .u8 z128 = Try.zeroCells38 := by kernel_rfl
theorem sizeClash : (Try.prog.info? 38).map (·.size) = some 128 := by kernel_rfl
theorem built4 {P : Program} {t : TypeId} {fs : Array Field} (hu : P.underlying t = some (.struct fs)) (hi : ((P.info? t).bind (·.zero)).map (fun z => z.cells.size) = some 128)
    (hp : fs.toList.mapM (fun f => (P.info? f.type).map fun i => (f.offset, i.size)) = some [(0, 32), (32, 32), (64, 32), (96, 32)]) (u v x y : Array Value) (su : u.size = 32) (sv : v.size = 32) (sx : x.size = 32) (sy : y.size = 32) :
    P.built t [(0, .agg u), (1, .agg v), (2, .agg x), (3, .agg y)] = some (u ++ (v ++ (x ++ y))) := by
  cases hq : P.info? t with
  | none => simp [hq] at hi
  | some it =>
    cases hz : it.zero with
    | none => simp [hq, hz] at hi
    | some z =>
      have hs : z.cells.size = 128 := by simpa [hq, hz] using hi
      unfold Program.built
      simp only [hq, hu, hz, hp]
      rw [fill_step _ _ u 0 0 _ (by simp [su]) (by omega), fill_step _ _ v 1 32 _ (by simp [sv]) (by rw [fill_size]; omega), fill_step _ _ x 2 64 _ (by simp [sx]) (by rw [fill_size, fill_size]; omega), fill_step _ _ y 3 96 _ (by simp [sy]) (by rw [fill_size, fill_size, fill_size]; omega)]
      rw [Instr.fill]
      congr 1
      apply Array.ext_getElem?
      intro i
      rw [fill_fold 96 y _ (by rw [fill_size, fill_size, fill_size]; omega), fill_fold 64 x _ (by rw [fill_size, fill_size]; omega), fill_fold 32 v _ (by rw [fill_size]; omega), fill_fold 0 u _ (by omega), Array.getElem?_append, Array.getElem?_append, Array.getElem?_append, su, sv, sx]
      by_cases h1 : i < 32
      · rw [if_neg (by omega), if_neg (by omega), if_neg (by omega), if_pos (by omega), if_pos h1, Nat.sub_zero]
      · by_cases h2 : i < 64
        · rw [if_neg (by omega), if_neg (by omega), if_pos (by omega), if_neg h1, if_pos (by omega)]
        · by_cases h3 : i < 96
          · rw [if_neg (by omega), if_pos (by omega), if_neg h1, if_neg (by omega), if_pos (by omega), show i - 32 - 32 = i - 64 by omega]
          · by_cases h4 : i < 128
            · rw [if_pos (by omega), if_neg h1, if_neg (by omega), if_neg (by omega), show i - 32 - 32 - 32 = i - 96 by omega]
            · rw [if_neg (by omega), if_neg (by omega), if_neg (by omega), if_neg (by omega), if_neg h1, if_neg (by omega), if_neg (by omega), Array.getElem?_eq_none (by omega), Array.getElem?_eq_none (by omega)]
theorem built_clash (x y u v : List Int) (hx : x.length = 32) (hy : y.length = 32) (hu : u.length = 32) (hv : v.length = 32) : Try.prog.built 38 [(0, .agg (ints .u8 x)), (1, .agg (ints .u8 y)), (2, .agg (ints .u8 u)), (3, .agg (ints .u8 v))] = some (ints .u8 (x ++ (y ++ (u ++ v)))) := by
  rw [ints_app, ints_app, ints_app]
  exact built4 Try.underlying38 (by kernel_rfl) (by kernel_rfl) _ _ _ _ (by rw [ints_size, hx]) (by rw [ints_size, hy]) (by rw [ints_size, hu]) (by rw [ints_size, hv])
/-- The four keys of such a value. -/
theorem four_len {x y u v : List Int} (hx : x.length = 32) (hy : y.length = 32) (hu : u.length = 32) (hv : v.length = 32) : (x ++ (y ++ (u ++ v))).length = 128 := by simp [hx, hy, hu, hv]
theorem four_0 {x y u v : List Int} (hx : x.length = 32) : ((x ++ (y ++ (u ++ v))).drop 0).take 32 = x := by rw [List.drop_zero, List.take_left' hx]
theorem four_1 {x y u v : List Int} (hx : x.length = 32) (hy : y.length = 32) : ((x ++ (y ++ (u ++ v))).drop 32).take 32 = y := by rw [List.drop_left' hx, List.take_left' hy]
theorem four_2 {x y u v : List Int} (hx : x.length = 32) (hy : y.length = 32) (hu : u.length = 32) : ((x ++ (y ++ (u ++ v))).drop 64).take 32 = u := by
  rw [show (64 : Nat) = 32 + 32 from rfl, ← List.drop_drop, List.drop_left' hx, List.drop_left' hy, List.take_left' hu]
theorem four_3 {x y u v : List Int} (hx : x.length = 32) (hy : y.length = 32) (hu : u.length = 32) (hv : v.length = 32) : ((x ++ (y ++ (u ++ v))).drop 96).take 32 = v := by
  rw [show (96 : Nat) = 32 + (32 + 32) from rfl, ← List.drop_drop, List.drop_left' hx, ← List.drop_drop, List.drop_left' hy, List.drop_left' hu, List.take_of_length_le (by omega)]
theorem four_rng {w : World} {g : Nat} {x y u v : List Int} {T : TypeId} {fr : Nat × Nat} (hx : x.length = 32) (hy : y.length = 32) (hu : u.length = 32) (hv : v.length = 32) (h : w.heap[g]? = some (.cells (ints .u8 (x ++ (y ++ (u ++ v)))) T fr)) :
    w.rangeAt g 0 (x.map (Value.int .u8)) ∧ w.rangeAt g 32 (y.map (Value.int .u8)) ∧ w.rangeAt g 64 (u.map (Value.int .u8)) ∧ w.rangeAt g 96 (v.map (Value.int .u8)) := by
  have hl := four_len hx hy hu hv
  refine ⟨?_, ?_, ?_, ?_⟩
  · have := row_part h 0 (by omega); rwa [four_0 hx] at this
  · have := row_part h 32 (by omega); rwa [four_1 hx hy] at this
  · have := row_part h 64 (by omega); rwa [four_2 hx hy hu] at this
  · have := row_part h 96 (by omega); rwa [four_3 hx hy hu hv] at this
theorem ints_extract (l : List Int) (o : Nat) : (ints .u8 l).extract o (o + 32) = ints .u8 ((l.drop o).take 32) := by
  apply Array.ext_getElem?
  intro i
  rw [Array.getElem?_extract]
  unfold ints
  simp only [List.getElem?_toArray, List.getElem?_map, List.getElem?_take, List.getElem?_drop, List.size_toArray, List.length_map]
  by_cases h : i < 32
  · by_cases h2 : o + i < l.length
    · rw [if_pos (by omega), if_pos h]
    · rw [if_neg (by omega), if_pos h, List.getElem?_eq_none (by omega)]; rfl
  · rw [if_neg (by omega), if_neg h]; rfl
theorem part_key (l : List Int) (o : Nat) (W : World) : (part 28 (ints .u8 l) o).run Try.prog W = .ok (.agg (ints .u8 ((l.drop o).take 32))) W := by
  have h : Try.prog.info? 28 ≠ none := by
    intro h
    have := sizeKey
    rw [h] at this
    simp at this
  cases hq : Try.prog.info? 28 with
  | none => exact absurd hq h
  | some ik =>
    have hz : ik.size = 32 := by have := sizeKey; rw [hq] at this; simpa using this
    have hprog : Sem.run Try.prog program W = .ok Try.prog W := rfl
    simp only [part, isAgg, Sem.run_bind, run_underlying Try.underlying28 W, Result.andThen_ok, sizeOf, typeInfo, hprog, hq, Sem.run_pure, Sem.run_ite, if_true, hz, ints_extract]
set_option maxRecDepth 100000 in
theorem eqIn4 (x y u v x' y' u' v' : List Int) (hx : x.length = 32) (hy : y.length = 32) (hu : u.length = 32) (hv : v.length = 32) (hx' : x'.length = 32) (hy' : y'.length = 32) (hu' : u'.length = 32) (hv' : v'.length = 32) (W : World) :
    (Op.equalIn 10000 38 (.agg (ints .u8 (x ++ (y ++ (u ++ v))))) (.agg (ints .u8 (x' ++ (y' ++ (u' ++ v')))))).run Try.prog W = .ok (decide (x = x') && (decide (y = y') && (decide (u = u') && decide (v = v')))) W := by
  have hm : (Try.prog.fieldsOf 38).toList.map (fun f => (f.type, f.offset, f.name == "_")) = [(28, 0, false), (28, 32, false), (28, 64, false), (28, 96, false)] := by kernel_rfl
  have hE : ∀ (a b : List Int), a.length = 32 → b.length = 32 → (Op.equalIn 9999 28 (.agg (ints .u8 a)) (.agg (ints .u8 b))).run Try.prog W = .ok (decide (a = b)) W := fun a b ha hb => run_equalIn_ints Try.underlying28 Try.underlying5 (by kernel_rfl) a b ha hb 9997 W
  rw [run_equalIn_struct W 9999 38 _ _ Try.underlying38 (by kernel_rfl)]
  generalize (Try.prog.fieldsOf 38).toList = fs at hm ⊢
  match fs, hm with
  | [], hm => simp at hm
  | [_], hm => simp at hm
  | [_, _], hm => simp at hm
  | [_, _, _], hm => simp at hm
  | _ :: _ :: _ :: _ :: _ :: _, hm => simp at hm
  | [f0, f1, f2, f3], hm =>
  simp only [List.map_cons, List.map_nil, List.cons.injEq, Prod.mk.injEq, beq_eq_false_iff_ne, and_true] at hm
  obtain ⟨⟨t0, o0, n0⟩, ⟨t1, o1, n1⟩, ⟨t2, o2, n2⟩, t3, o3, n3⟩ := hm
  simp only [Op.eqFields, t0, t1, t2, t3, o0, o1, o2, o3, n0, n1, n2, n3, ne_eq, not_false_eq_true, if_true, Sem.run_bind, part_key, Result.andThen_ok, four_0 hx, four_0 hx', four_1 hx hy, four_1 hx' hy', four_2 hx hy hu, four_2 hx' hy' hu', four_3 hx hy hu hv, four_3 hx' hy' hu' hv', hE _ _ hx hx', hE _ _ hy hy', hE _ _ hu hu', hE _ _ hv hv', Sem.run_ite, Sem.run_pure]
  by_cases e0 : x = x' <;> by_cases e1 : y = y' <;> by_cases e2 : u = u' <;> by_cases e3 : v = v' <;> simp [e0, e1, e2, e3]
theorem yields_neqC {ops : Array Oper} {S : World → Prop} {op : Oper} {a : Act} (hw : Region.wanted op (yielded ops a.tmps) = true) (x y : Operand) (r : TypeId) (ho : op.op = .binOp .neq 38 x y r)
    (xs ys : Array Value) (hx : a.eval x = .agg xs) (hy : a.eval y = .agg ys) (b : Bool) (hq : ∀ U, (Op.equalIn 10000 38 (.agg xs) (.agg ys)).run Try.prog U = .ok b U) :
    YieldsIf Try.prog ops S op (.bool (!b)) a :=
  .inl ⟨hw, fun w hS => by
    have hm : Try.prog.eqGuardType Try.prog.depth 38 = false := by kernel_rfl
    unfold execOp
    simp [ho, hx, hy, run_eqGuard_agg w _ 38 x y xs ys hm, run_neq_struct, hq]⟩
set_option maxRecDepth 100000 in
set_option maxHeartbeats 2000000 in
theorem turned_impl (x y u v : List Int) (hx : x.length = 32) (hy : y.length = 32) (hu : u.length = 32) (hv : v.length = 32) (w : World) :
    Calls Try.prog 131 #[.agg (ints .u8 (x ++ (y ++ (u ++ v))))] w fun z w' => z = .returned (.agg (ints .u8 (u ++ (v ++ (x ++ y))))) ∧ Below w.heap.size w w' := by
  have Hz := Lib.hid z128_ints
  have HX := Lib.hid hx
  have HY := Lib.hid hy
  have HU := Lib.hid hu
  have HV := Lib.hid hv
  have HL := Lib.hid (four_len hu hv hx hy)
  have HB := Lib.hid (built_clash u v x y hu hv hx hy)
  have A0 := heap_alloc2_old w (.cells (ints .u8 (x ++ (y ++ (u ++ v)))) 38) (.cells (ints .u8 z128) 38)
  have A1 := Lib.hid (heap_alloc2_new w (.cells (ints .u8 (x ++ (y ++ (u ++ v)))) 38) (.cells (ints .u8 z128) 38))
  have BW := Lib.hid (((Below.refl w.heap.size w).alloc (Nat.le_refl _) (.cells (ints .u8 (x ++ (y ++ (u ++ v)))) 38)).alloc (by simp) (.cells (ints .u8 z128) 38))
  have HR := Lib.hid (four_rng hx hy hu hv A0)
  clear A0 hx hy hu hv
  generalize x ++ (y ++ (u ++ v)) = c at A1 BW HR ⊢
  generalize u ++ (v ++ (x ++ y)) = d at HL HB ⊢
  obtain ⟨W0, hW0⟩ : ∃ W0, (w.alloc (.cells (ints .u8 c) 38)).alloc (.cells (ints .u8 z128) 38) = W0 := ⟨_, rfl⟩
  rw [hW0] at A1 BW HR
  rw [Hz.out] at hW0
  go_enter Try.func131, Try.ntmps131
  go_wp2_with (first | (refine wpList_load_ints rfl 28 (.tmp 3) rfl (w.heap.size) 64 rfl .u8 u _ HR.out.2.2.1 Try.underlying28 rfl (by rw [HU.out]; exact sizeKey) ?_) | (refine wpList_load_ints rfl 28 (.tmp 5) rfl (w.heap.size) 96 rfl .u8 v _ HR.out.2.2.2 Try.underlying28 rfl (by rw [HV.out]; exact sizeKey) ?_) | (refine wpList_load_ints rfl 28 (.tmp 7) rfl (w.heap.size) 0 rfl .u8 x _ HR.out.1 Try.underlying28 rfl (by rw [HX.out]; exact sizeKey) ?_) | (refine wpList_load_ints rfl 28 (.tmp 9) rfl (w.heap.size) 32 rfl .u8 y _ HR.out.2.1 Try.underlying28 rfl (by rw [HY.out]; exact sizeKey) ?_) | (refine wpList_built rfl 38 _ (ints .u8 d) rfl (by simp only [List.map_toArray, List.map_cons, List.map_nil]; exact HB.out) ?_) | (refine wpList_store_row rfl 38 _ _ rfl (w.heap.size + 1) (ints .u8 d) rfl rfl 38 (ints .u8 z128) A1.out (by rw [ints_size, HL.out]; exact sizeClash) (by rw [ints_size, ints_size, HL.out]; rfl) (ints_one _ _) ?_))
  refine bodyPost_ret (results_cell_row rfl _ _ (w.heap.size + 1) 38 (ints .u8 d) (0, 0) _ rfl (setRow_heap _ _ (ints .u8 z128) _ _ _ A1.out) Try.underlying38 rfl (by rw [ints_size, HL.out]; exact sizeClash)) rfl ⟨rfl, ?_⟩
  exact Below.setRow BW.out (by omega) _
set_option maxRecDepth 100000 in
set_option maxHeartbeats 2000000 in
theorem unlike_impl (x y u v : List Int) (hx : x.length = 32) (hy : y.length = 32) (hu : u.length = 32) (hv : v.length = 32) (w : World) :
    Calls Try.prog 114 #[.agg (ints .u8 (x ++ (y ++ (u ++ v))))] w fun z w' => z = .returned (.bool (!decide (x = u ∧ y = v))) ∧ Below w.heap.size w w' := by
  have HT := Lib.hid (fun W => turned_impl x y u v hx hy hu hv W)
  have HE := Lib.hid (fun W => eqIn4 x y u v u v x y hx hy hu hv hu hv hx hy W)
  have HL := Lib.hid (four_len hx hy hu hv)
  have hb : (decide (x = u) && (decide (y = v) && (decide (u = x) && decide (v = y)))) = decide (x = u ∧ y = v) := by
    by_cases e0 : x = u <;> by_cases e1 : y = v <;> simp [e0, e1]
  rw [hb] at HE
  generalize decide (x = u ∧ y = v) = b at HE ⊢
  clear hx hy hu hv hb
  generalize x ++ (y ++ (u ++ v)) = c at HT HE HL ⊢
  generalize u ++ (v ++ (x ++ y)) = d at HT HE
  have A0 := Lib.hid (heap_alloc_last w (.cells (ints .u8 c) 38))
  have BW := Lib.hid ((Below.refl w.heap.size w).alloc (Nat.le_refl _) (.cells (ints .u8 c) 38))
  go_enter Try.func114, Try.ntmps114
  go_wp2_with fail
  generalize w.alloc (.cells (ints .u8 c) 38) = W0 at A0 BW ⊢
  refine wp_region_held_drew (S := Below (W0).heap.size (W0)) (by kernel_rfl) ((Below.refl _ _).drew) (fun hS => ?_)
  refine take_at (i := 0) (v := .agg (ints .u8 c)) rfl rfl (by kernel_rfl) (by kernel_rfl) (by kernel_rfl) (fun _ _ _ h => h) (yields_box (by rfl) 38 _ rfl (w.heap.size) rfl _ 38 _ A0.out Try.underlying38 rfl (by rw [ints_size, HL.out]; exact sizeClash)) hS ?_
  try simp only [List.setIfInBounds_toArray, List.set_cons_zero, List.set_cons_succ]
  refine take_at (i := 1) (v := .agg (ints .u8 c)) rfl rfl (by kernel_rfl) (by kernel_rfl) (by kernel_rfl) (fun _ _ _ h => h) (yields_box (by rfl) 38 _ rfl (w.heap.size) rfl _ 38 _ A0.out Try.underlying38 rfl (by rw [ints_size, HL.out]; exact sizeClash)) hS ?_
  try simp only [List.setIfInBounds_toArray, List.set_cons_zero, List.set_cons_succ]
  refine wpAnyH_ready (rs := [2]) (by kernel_rfl) (by simp) ?_
  refine AllReadyH.cons rfl (fun KQ hK => ?_) AllReadyH.nil
  rw [if_pos (by rfl)]
  go_simp
  refine (HT.out _).mono ?_
  rintro e w2 ⟨rfl, hb⟩
  refine hK.out _ _ (below_call hS hS.size hb) (fun hS => ?_)
  clear hb hK
  refine take_at (i := 3) (v := .bool (!b)) rfl rfl (by kernel_rfl) (by kernel_rfl) (by kernel_rfl) (fun _ _ _ h => h) (yields_neqC (by rfl) _ _ _ rfl _ _ rfl rfl b (fun U => HE.out U)) hS ?_
  try simp only [List.setIfInBounds_toArray, List.set_cons_zero, List.set_cons_succ]
  refine take_at (i := 4) (v := .bool (!b)) rfl rfl (by kernel_rfl) (by kernel_rfl) (by kernel_rfl) (fun _ _ _ h => h) (Or.inl ⟨by rfl, fun U hU => by go_simp⟩) hS ?_
  try simp only [List.setIfInBounds_toArray, List.set_cons_zero, List.set_cons_succ]
  refine wpAnyH_done (by kernel_rfl) ?_ _
  go_wp2_with fail
  go_ret
  exact ⟨rfl, BW.out.trans (hS.mono BW.out.size)⟩
set_option maxRecDepth 100000 in
set_option maxHeartbeats 2000000 in
theorem eqClash_ (x y u v : List Int) (hx : x.length = 32) (hy : y.length = 32) (hu : u.length = 32) (hv : v.length = 32) (w : World) :
    Calls Try.prog 35 #[.agg (ints .u8 (x ++ (y ++ (u ++ v)))), .agg (ints .u8 (x ++ (y ++ (u ++ v))))] w fun z w' => z = .returned (.bool true) ∧ Below w.heap.size w w' := by
  have HX := Lib.hid hx
  have HY := Lib.hid hy
  have HU := Lib.hid hu
  have HV := Lib.hid hv
  have A0 := heap_alloc2_old w (.cells (ints .u8 (x ++ (y ++ (u ++ v)))) 38) (.cells (ints .u8 (x ++ (y ++ (u ++ v)))) 38)
  have A1 := heap_alloc2_new w (.cells (ints .u8 (x ++ (y ++ (u ++ v)))) 38) (.cells (ints .u8 (x ++ (y ++ (u ++ v)))) 38)
  have BW := Lib.hid (((Below.refl w.heap.size w).alloc (Nat.le_refl _) (.cells (ints .u8 (x ++ (y ++ (u ++ v)))) 38)).alloc (by simp) (.cells (ints .u8 (x ++ (y ++ (u ++ v)))) 38))
  have HR := Lib.hid (four_rng hx hy hu hv A0)
  have HS := Lib.hid (four_rng hx hy hu hv A1)
  clear A0 A1 hx hy hu hv
  generalize x ++ (y ++ (u ++ v)) = c at BW HR HS ⊢
  obtain ⟨W0, hW0⟩ : ∃ W0, (w.alloc (.cells (ints .u8 c) 38)).alloc (.cells (ints .u8 c) 38) = W0 := ⟨_, rfl⟩
  rw [hW0] at BW HR HS
  go_enter Try.func35, Try.ntmps35
  go_wp2_with (first | (refine wpList_load_ints rfl 28 (.tmp 5) rfl (w.heap.size) 0 rfl .u8 x _ HR.out.1 Try.underlying28 rfl (by rw [HX.out]; exact sizeKey) ?_) | (refine wpList_load_ints rfl 28 (.tmp 7) rfl (w.heap.size + 1) 0 rfl .u8 x _ HS.out.1 Try.underlying28 rfl (by rw [HX.out]; exact sizeKey) ?_))
  clear hW0
  refine (eqKey_ x HX.out _).mono ?_
  rintro e w1 ⟨rfl, hb⟩
  have B1 := Lib.hid hb
  clear hb
  go_wp2_with (first | (refine wpList_load_ints rfl 28 (.tmp 11) rfl (w.heap.size) 32 rfl .u8 y _ (rangeAt_below HR.out.2.1 B1.out) Try.underlying28 rfl (by rw [HY.out]; exact sizeKey) ?_) | (refine wpList_load_ints rfl 28 (.tmp 13) rfl (w.heap.size + 1) 32 rfl .u8 y _ (rangeAt_below HS.out.2.1 B1.out) Try.underlying28 rfl (by rw [HY.out]; exact sizeKey) ?_))
  refine (eqKey_ y HY.out _).mono ?_
  rintro e w2 ⟨rfl, hb⟩
  have B2 := Lib.hid (below_call B1.out B1.out.size hb)
  clear hb
  go_wp2_with (first | (refine wpList_load_ints rfl 28 (.tmp 17) rfl (w.heap.size) 64 rfl .u8 u _ (rangeAt_below HR.out.2.2.1 B2.out) Try.underlying28 rfl (by rw [HU.out]; exact sizeKey) ?_) | (refine wpList_load_ints rfl 28 (.tmp 19) rfl (w.heap.size + 1) 64 rfl .u8 u _ (rangeAt_below HS.out.2.2.1 B2.out) Try.underlying28 rfl (by rw [HU.out]; exact sizeKey) ?_))
  refine (eqKey_ u HU.out _).mono ?_
  rintro e w3 ⟨rfl, hb⟩
  have B3 := Lib.hid (below_call B2.out B2.out.size hb)
  clear hb
  go_wp2_with (first | (refine wpList_load_ints rfl 28 (.tmp 23) rfl (w.heap.size) 96 rfl .u8 v _ (rangeAt_below HR.out.2.2.2 B3.out) Try.underlying28 rfl (by rw [HV.out]; exact sizeKey) ?_) | (refine wpList_load_ints rfl 28 (.tmp 25) rfl (w.heap.size + 1) 96 rfl .u8 v _ (rangeAt_below HS.out.2.2.2 B3.out) Try.underlying28 rfl (by rw [HV.out]; exact sizeKey) ?_))
  refine (eqKey_ v HV.out _).mono ?_
  rintro e w4 ⟨rfl, hb⟩
  have B4 := Lib.hid (below_call B3.out B3.out.size hb)
  clear hb
  go_wp2_with fail
  go_ret
  exact ⟨rfl, BW.out.trans (B4.out.mono BW.out.size)⟩
end Go.Proofs.Ytjijgckljjcfiaa
