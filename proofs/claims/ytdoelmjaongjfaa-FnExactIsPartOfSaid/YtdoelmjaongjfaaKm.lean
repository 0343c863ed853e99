/- Maps whose keys have thirty-two bytes: such a map as a list of keys and values. Written by hand. -/
import Derived.Test.YtdoelmjaongjfaaBase
import Derived.Maps.Range
import Derived.Maps.OwnOps
import Derived.DeepKeys4
namespace Go.Proofs.Ytdoelmjaongjfaa
open Go.ChangeShapes Go.WideShapes Go.ChangeAt Go.RowKit
set_option linter.unusedVariables false
set_option linter.unusedSimpArgs false
open Go.MapKept
open Go.Maps (Keyed)
open Go.WideElems (Fit rd rg pl rd_key rd_val rg_of rd_mk)
/-- Thirty-two bytes. -/
def IsK (l : List Int) : Prop := l.length = 32 ∧ ∀ z ∈ l, 0 ≤ z ∧ z ≤ 255
def kv (l : List Int) : Value := .agg (ints .u8 l)
theorem kv_inj {l k : List Int} (h : kv l = kv k) : l = k := by
  have h1 : l.map (Value.int .u8) = k.map (Value.int .u8) := by simpa [kv, ints] using h
  exact (List.map_inj_right (fun x y e => by injection e)).1 h1
structure KeyTy (P : Program) (K U : TypeId) : Prop where
  arr : P.underlying K = some (.array 32 U)
  byt : P.underlying U = some (.int .u8)
  kt : P.keyType K = true
  cK : P.cellsOf K = 32
  cU : P.cellsOf U = 1
  pos : 0 < P.types.size
  law : Keyed P K
theorem mapM_all {α β : Type} (f : α → Option β) (g : α → β) : ∀ l : List α, (∀ x ∈ l, f x = some (g x)) → l.mapM f = some (l.map g)
  | [], _ => rfl
  | x :: r, h => by
    rw [List.mapM_cons, h x (by simp), mapM_all f g r (fun y hy => h y (by simp [hy]))]
    rfl
theorem mapM_each {α β : Type} (f : α → Option β) : ∀ (l : List α) (ys : List β), l.mapM f = some ys → ∀ x ∈ l, ∃ y, f x = some y
  | [], _, _, x, hx => by simp at hx
  | a :: r, ys, h, x, hx => by
    rw [List.mapM_cons] at h
    cases ha : f a with
    | none => rw [ha] at h; cases h
    | some y =>
      rw [ha] at h
      cases hr : r.mapM f with
      | none => rw [hr] at h; cases h
      | some zs =>
        rcases List.mem_cons.1 hx with rfl | hx
        · exact ⟨y, ha⟩
        · exact mapM_each f r zs hr x hx
theorem wf_u8 {z : Int} (h : 0 ≤ z ∧ z ≤ 255) : (Lit.int .u8 z).wf = true := by
  obtain ⟨h0, h1⟩ := h
  have e0 : IntKind.u8.min = 0 := rfl
  have e1 : IntKind.u8.max = 255 := rfl
  simp [Lit.wf, e0, e1]
  omega
theorem wf_u8_inv {z : Int} (h : (Lit.int .u8 z).wf = true) : 0 ≤ z ∧ z ≤ 255 := by
  have e0 : IntKind.u8.min = 0 := rfl
  have e1 : IntKind.u8.max = 255 := rfl
  simp [Lit.wf, e0, e1] at h
  omega
section
variable {P : Program} {K U : TypeId}
theorem keyOf_kv (T : KeyTy P K U) {l : List Int} (h : IsK l) : ∃ kl, keyOf P K (kv l) = some kl := by
  have hf : (kv l).formed P K = true := by simp [Value.formed, kv, T.arr, ints_size, T.cK, h.1]
  obtain ⟨m, hm⟩ : ∃ m, P.types.size = m + 1 := ⟨P.types.size - 1, by have := T.pos; omega⟩
  have hlits : P.keyLits (P.types.size + 1) K (kv l).cells.toList = some ((List.range 32).map fun i => [Lit.int .u8 (l[i]?.getD 0)]).flatten := by
    rw [hm]
    unfold Program.keyLits
    simp only [T.arr]
    rw [if_pos (by simp [kv, Value.cells, ints, T.cK, h.1])]
    rw [mapM_all _ (fun i => [Lit.int .u8 (l[i]?.getD 0)])]
    · rfl
    · intro i hi
      have hi32 : i < 32 := List.mem_range.1 hi
      have hil : i < l.length := by rw [h.1]; exact hi32
      have e : ((kv l).cells.toList.drop (i * P.cellsOf U)).take (P.cellsOf U) = [Value.int .u8 (l[i]?.getD 0)] := by
        rw [T.cU]
        simp only [kv, Value.cells, ints, Nat.mul_one]
        rw [← List.map_drop, ← List.map_take, List.drop_eq_getElem_cons hil, List.getElem?_eq_getElem hil]
        rfl
      rw [e]
      unfold Program.keyLits
      simp only [T.byt]
      rw [if_pos ⟨trivial, wf_u8 (h.2 _ (by rw [List.getElem?_eq_getElem hil]; exact List.getElem_mem hil))⟩]
  unfold keyOf
  simp only [T.arr, T.kt, hf, Bool.and_self, if_true, hlits]
  exact ⟨_, rfl⟩
theorem kv_of_keyOf (T : KeyTy P K U) {v : Value} {kl : Lit} (h : keyOf P K v = some kl) : ∃ l, IsK l ∧ v = kv l := by
  obtain ⟨m, hm⟩ : ∃ m, P.types.size = m + 1 := ⟨P.types.size - 1, by have := T.pos; omega⟩
  unfold keyOf at h
  simp only [T.arr, T.kt, Bool.true_and] at h
  split at h
  · rename_i hf
    obtain ⟨ls, hls, _⟩ := Option.map_eq_some_iff.1 h
    have hcs : ∃ cs, v = .agg cs ∧ cs.size = 32 := by
      cases v <;> simp [Value.formed, T.arr, T.cK] at hf
      exact ⟨_, rfl, hf⟩
    obtain ⟨cs, rfl, hsz⟩ := hcs
    rw [hm] at hls
    unfold Program.keyLits at hls
    simp only [T.arr] at hls
    split at hls
    · obtain ⟨lss, hlss, _⟩ := Option.map_eq_some_iff.1 hls
      have each : ∀ i, i < 32 → ∃ z, cs.toList[i]? = some (.int .u8 z) ∧ 0 ≤ z ∧ z ≤ 255 := by
        intro i hi
        obtain ⟨y, hy⟩ := mapM_each _ _ _ hlss i (List.mem_range.2 hi)
        have hil : i < cs.toList.length := by simpa [hsz] using hi
        have e : ((Value.agg cs).cells.toList.drop (i * P.cellsOf U)).take (P.cellsOf U) = [cs.toList[i]] := by
          rw [T.cU]
          simp only [Value.cells, Nat.mul_one]
          rw [List.drop_eq_getElem_cons hil]
          rfl
        rw [e] at hy
        obtain ⟨z, hz, _⟩ := Go.keyLits_int' T.byt hy
        obtain hz := List.head_eq_of_cons_eq hz
        rw [hz] at hy
        unfold Program.keyLits at hy
        simp only [T.byt] at hy
        split at hy
        · rename_i hw
          exact ⟨z, by rw [List.getElem?_eq_getElem hil, hz], wf_u8_inv hw.2⟩
        · cases hy
      refine ⟨cs.toList.map fun v => match v with | .int _ z => z | _ => 0, ⟨by simp [hsz], ?_⟩, ?_⟩
      · intro z hz
        obtain ⟨v, hv, rfl⟩ := List.mem_map.1 hz
        obtain ⟨i, hi, rfl⟩ := List.getElem_of_mem hv
        obtain ⟨z, hz, hb⟩ := each i (by simpa [hsz] using hi)
        rw [List.getElem?_eq_getElem hi] at hz
        obtain hz := Option.some.inj hz
        rw [hz]
        exact hb
      · unfold kv ints
        congr 1
        apply Array.ext'
        simp only [List.map_map]
        apply List.ext_getElem (by simp)
        intro i h1 h2
        obtain ⟨z, hz, _⟩ := each i (by simpa [hsz] using h1)
        rw [List.getElem?_eq_getElem h1] at hz
        obtain hz := Option.some.inj hz
        simp only [List.getElem_map, Function.comp_apply]
        rw [hz]
    · cases hls
  · cases h
/-- The value as it stands, told as a datum. -/
def hR (v : Value) : Option (DataW Value × List MemPlace) := some (.held v, [])
def pairOf (e : MapEntry) : Value × Value := (e.key, e.val)
def pairTo (p : List Int × Value) : Value × Value := (kv p.1, p.2)
/-- Block b is a map with the keys and values of ps. -/
def KMap (P : Program) (K : TypeId) (w : World) (b : Nat) (ps : List (List Int × Value)) : Prop :=
  ∃ es clock, w.heap[b]? = some (.map es clock) ∧ Fit P K hR es clock ∧ es.toList.map pairOf = ps.map pairTo ∧ ∀ p ∈ ps, IsK p.1
variable {w : World} {b : Nat} {ps : List (List Int × Value)}
theorem KMap.lt (h : KMap P K w b ps) : b < w.heap.size := by
  obtain ⟨es, clock, hb, _⟩ := h
  exact (Array.getElem?_eq_some_iff.1 hb).1
theorem KMap.same {w' : World} (h : KMap P K w b ps) (e : w'.heap[b]? = w.heap[b]?) : KMap P K w' b ps := by
  obtain ⟨es, clock, hb, r⟩ := h
  exact ⟨es, clock, e.trans hb, r⟩
theorem KMap.below {w' : World} {B : Nat} (h : KMap P K w b ps) (hB : b < B) (hb : Below B w w') : KMap P K w' b ps := h.same (hb.block b hB)
theorem KMap.later {w' : World} (h : KMap P K w b ps) (hb : Below w.heap.size w w') : KMap P K w' b ps := h.below h.lt hb
theorem KMap.kept {w' : World} {row : Option Nat} (h : KMap P K w b ps) (hg : w.grownBy w' row) (hne : some b ≠ row) : KMap P K w' b ps := h.same (hg.block b h.lt hne)
theorem KMap.key (h : KMap P K w b ps) : ∀ p ∈ ps, IsK p.1 := by
  obtain ⟨_, _, _, _, _, h⟩ := h
  exact h
theorem KMap.made (w : World) : KMap P K (w.alloc (.map #[] 0)) w.heap.size [] :=
  ⟨#[], 0, (MapKept.heap_alloc w _).1, ⟨by simp, stamped_empty 0, by simp⟩, rfl, by simp⟩
theorem pairs_len {es : Array MapEntry} (h : es.toList.map pairOf = ps.map pairTo) : es.size = ps.length := by
  have := congrArg List.length h
  simpa using this
theorem pairs_at {es : Array MapEntry} (h : es.toList.map pairOf = ps.map pairTo) {j : Nat} {e : MapEntry} (he : es[j]? = some e) : ∃ p, ps[j]? = some p ∧ e.key = kv p.1 ∧ e.val = p.2 := by
  have h1 : (es.toList.map pairOf)[j]? = some (pairOf e) := by simp [he]
  rw [h, List.getElem?_map] at h1
  obtain ⟨p, hp, e2⟩ := Option.map_eq_some_iff.1 h1
  simp only [pairTo, pairOf, Prod.mk.injEq] at e2
  exact ⟨p, hp, e2.1.symm, e2.2.symm⟩
theorem pairs_to {es : Array MapEntry} (h : es.toList.map pairOf = ps.map pairTo) {j : Nat} {p : List Int × Value} (hp : ps[j]? = some p) : ∃ e, es[j]? = some e ∧ e.key = kv p.1 ∧ e.val = p.2 := by
  have h1 : (ps.map pairTo)[j]? = some (pairTo p) := by simp [hp]
  rw [← h, List.getElem?_map] at h1
  obtain ⟨e, he, e2⟩ := Option.map_eq_some_iff.1 h1
  simp only [pairTo, pairOf, Prod.mk.injEq] at e2
  exact ⟨e, by simpa using he, e2.1, e2.2⟩
/-- No key stands twice. -/
theorem KMap.apart (T : KeyTy P K U) (h : KMap P K w b ps) : ps.Pairwise (fun p q => p.1 ≠ q.1) := by
  obtain ⟨es, clock, _, F, hp, _⟩ := h
  have hn : es.toList.Pairwise (fun x y => x.key ≠ y.key) := ((stamped_iff es clock).1 F.stamped).2.2
  have h1 : (es.toList.map pairOf).Pairwise (fun p q => p.1 ≠ q.1) := List.pairwise_map.2 hn
  rw [hp] at h1
  exact (List.pairwise_map.1 h1).imp (fun hne e => hne (by simp [pairTo, e]))
theorem KMap.len_le (h : KMap P K w b ps) : ps.length ≤ maxLen := by
  obtain ⟨es, clock, _, F, hp, _⟩ := h
  rw [← pairs_len hp]
  exact F.size
/-- What such a list has for a key. -/
def getK (ps : List (List Int × Value)) (k : List Int) : Option Value := (ps.find? (fun p => p.1 == k)).map (·.2)
theorem getK_none {k : List Int} : getK ps k = none ↔ ∀ p ∈ ps, p.1 ≠ k := by
  unfold getK
  rw [Option.map_eq_none_iff, List.find?_eq_none]
  simp
theorem getK_at {k : List Int} {v : Value} (ha : ps.Pairwise (fun p q => p.1 ≠ q.1)) (hm : (k, v) ∈ ps) : getK ps k = some v := by
  unfold getK
  induction ps with
  | nil => simp at hm
  | cons p r ih =>
    obtain ⟨h1, h2⟩ := List.pairwise_cons.1 ha
    rw [List.find?_cons]
    rcases List.mem_cons.1 hm with rfl | hm
    · simp
    · have : (p.1 == k) = false := by
        rw [beq_eq_false_iff_ne]
        exact h1 (k, v) hm
      rw [this]
      exact ih h2 hm
theorem getK_mem {k : List Int} {v : Value} (h : getK ps k = some v) : (k, v) ∈ ps := by
  unfold getK at h
  obtain ⟨p, hp, rfl⟩ := Option.map_eq_some_iff.1 h
  have h1 := List.find?_some hp
  have h2 := List.mem_of_find?_eq_some hp
  obtain ⟨a, c⟩ := p
  simp at h1
  subst h1
  exact h2
/-- The search for a key in such a map. -/
theorem find_pairs (T : KeyTy P K U) {es : Array MapEntry} {clock : Nat} (F : Fit P K hR es clock) (hp : es.toList.map pairOf = ps.map pairTo) {k : List Int} (hk : IsK k) (w : World) :
    ((Instr.findKey K (kv k) es.toList).run P w = .ok none w ∧ (∀ p ∈ ps, p.1 ≠ k) ∧ ∀ e ∈ es.toList, e.key ≠ kv k) ∨
    ∃ j e v, (Instr.findKey K (kv k) es.toList).run P w = .ok (some (j, v)) w ∧ es[j]? = some e ∧ e.key = kv k ∧ e.val = v ∧ ps[j]? = some (k, v) := by
  obtain ⟨kl, hkl⟩ := keyOf_kv T hk
  rcases T.law.find w hkl es.toList F.keys with ⟨h1, h2⟩ | ⟨j, e, h1, h2, h3⟩
  · refine Or.inl ⟨h1, fun p hpm e => ?_, h2⟩
    obtain ⟨j, hj⟩ := List.getElem?_of_mem hpm
    obtain ⟨x, hx, hx1, _⟩ := pairs_to hp hj
    exact h2 x (List.mem_of_getElem? (by simpa using hx)) (by rw [hx1, e])
  · have hj : es[j]? = some e := by simpa using h2
    obtain ⟨p, hp1, hp2, hp3⟩ := pairs_at hp hj
    obtain ⟨a, v⟩ := p
    have : a = k := kv_inj (hp2.symm.trans h3)
    subst this
    exact Or.inr ⟨j, e, v, by rw [h1, hp3], hj, h3, hp3, hp1⟩
def lookV (c : Bool) (o : Option Value) (z : Value) : Value := match o with
  | some v => if c then .tuple #[v, .bool true] else v
  | none => if c then .tuple #[z, .bool false] else z
variable {t e : TypeId}
/-- 'm[k]' (c = false) and 'v, ok := m[k]' (c = true). -/
theorem KMap.look (c : Bool) (T : KeyTy P K U) (h : KMap P K w b ps) (ht : P.underlying t = some (.map K e)) {z : Value} (hz : (zeroValue e).run P w = .ok z w) {k : List Int} (hk : IsK k) :
    (Instr.lookup t (.map (some b)) (kv k) c).run P w = .ok (lookV c (getK ps k) z) w := by
  have ha := h.apart T
  obtain ⟨es, clock, hb, F, hp, hks⟩ := h
  obtain ⟨kl, hkl⟩ := keyOf_kv T hk
  rcases find_pairs T F hp hk w with ⟨h1, h2, _⟩ | ⟨j, e0, v, h1, h2, h3, h4, h5⟩
  · rw [getK_none.2 h2]
    cases c <;> simp [Instr.lookup, run_underlying ht, MapKept.run_getObj_map hb, T.law.check w _ hkl, h1, hz, Result.andThen, lookV]
  · rw [getK_at ha (List.mem_of_getElem? h5)]
    cases c <;> simp [Instr.lookup, run_underlying ht, MapKept.run_getObj_map hb, T.law.check w _ hkl, h1, Result.andThen, lookV]
/-- 'm[k] = v'. -/
def putK (ps : List (List Int × Value)) (k : List Int) (v : Value) : List (List Int × Value) :=
  if ps.any (fun p => p.1 == k) then ps.map (fun p => if p.1 == k then (k, v) else p) else ps ++ [(k, v)]
theorem putK_new {k : List Int} {v : Value} (h : ∀ p ∈ ps, p.1 ≠ k) : putK ps k v = ps ++ [(k, v)] := by
  unfold putK
  rw [if_neg]
  simp only [List.any_eq_true, beq_iff_eq, not_exists, not_and]
  exact h
theorem putK_set {k : List Int} {u v : Value} {j : Nat} (ha : ps.Pairwise (fun p q => p.1 ≠ q.1)) (h : ps[j]? = some (k, u)) : putK ps k v = ps.set j (k, v) := by
  unfold putK
  rw [if_pos (List.any_eq_true.2 ⟨_, List.mem_of_getElem? h, by simp⟩)]
  apply List.ext_getElem?
  intro i
  rw [List.getElem?_map, List.getElem?_set]
  have hj := (List.getElem?_eq_some_iff.1 h).1
  by_cases hij : j = i
  · subst hij
    rw [if_pos rfl, if_pos hj, h]
    simp
  · rw [if_neg hij]
    cases hi : ps[i]? with
    | none => rfl
    | some q =>
      have hne : q.1 ≠ k := by
        have hil := (List.getElem?_eq_some_iff.1 hi).1
        have e1 := (List.getElem?_eq_some_iff.1 hi).2
        have e2 := (List.getElem?_eq_some_iff.1 h).2
        rcases Nat.lt_or_gt_of_ne hij with hlt | hgt
        · have := List.pairwise_iff_getElem.1 ha j i hj hil hlt
          rw [e1, e2] at this
          exact fun e => this e.symm
        · have := List.pairwise_iff_getElem.1 ha i j hil hj hgt
          rw [e1, e2] at this
          exact this
      simp [hne]
theorem KMap.put (T : KeyTy P K U) (h : KMap P K w b ps) (ht : P.underlying t = some (.map K e)) (hroom : ps.length < maxLen) {k : List Int} (hk : IsK k) (v : Value) :
    ∃ w', (Instr.mapUpdate t (.map (some b)) (kv k) v).run P w = .ok () w' ∧ KMap P K w' b (putK ps k v) ∧ w.grownBy w' (some b) ∧ w'.heap.size = w.heap.size := by
  have ha := h.apart T
  obtain ⟨es, clock, hb, F, hp, hks⟩ := h
  obtain ⟨kl, hkl⟩ := keyOf_kv T hk
  have hl := pairs_len hp
  have turned : ∀ es' clock', w.grownBy (Go.ChangeMaps.setBlock w b (.map es' clock')) (some b) ∧ (Go.ChangeMaps.setBlock w b (.map es' clock')).heap.size = w.heap.size := fun es' clock' =>
    ⟨World.mapTurned.grown ⟨es, clock, es', clock', hb, rfl⟩, by simp [Go.ChangeMaps.setBlock]⟩
  rcases find_pairs T F hp hk w with ⟨h1, h2, h3⟩ | ⟨j, e0, u, h1, h2, h3, h4, h5⟩
  · refine ⟨_, ?_, ⟨es.push ⟨kv k, v, clock⟩, clock + 1, Go.ChangeMaps.heap_setBlock_same hb _, ⟨by simp; omega, stamped_push F.stamped h3, ?_⟩, ?_, ?_⟩, turned _ _⟩
    · simp [Instr.mapUpdate, run_underlying ht, MapKept.run_getObj_map hb, T.law.check w false hkl, h1, MapKept.run_setObj_map _ hb, Result.andThen, Go.ChangeMaps.setBlock]
    · intro x hx
      simp only [Array.toList_push, List.mem_append, List.mem_singleton] at hx
      rcases hx with hx | rfl
      · exact F.reads x hx
      · exact ⟨_, rd_mk hkl (R := hR) (yv := (.held v, [])) rfl⟩
    · rw [putK_new h2, Array.toList_push, List.map_append, List.map_append, hp]
      rfl
    · rw [putK_new h2]
      intro p hpm
      rcases List.mem_append.1 hpm with hpm | hpm
      · exact hks p hpm
      · simp at hpm
        subst hpm
        exact hk
  · have hj : es.toList[j]? = some e0 := by simpa using h2
    have hkeyf : ∀ e', es[j]? = some e' → ({ e' with key := kv k, val := v } : MapEntry).key = e'.key := fun e' he' => by rw [h2] at he'; cases he'; exact h3.symm
    have hlist : (es.modify j (fun e' => { e' with key := kv k, val := v })).toList = es.toList.set j { e0 with key := kv k, val := v } := by rw [Array.toList_modify, Go.ChangeMaps.modify_eq_set _ _ _ _ hj]
    refine ⟨_, ?_, ⟨es.modify j (fun e' => { e' with key := kv k, val := v }), clock, Go.ChangeMaps.heap_setBlock_same hb _, ⟨by simpa using F.size, stamped_modify F.stamped _ _ (fun _ _ => rfl) (fun e' _ he' => hkeyf e' he'), ?_⟩, ?_, ?_⟩, turned _ _⟩
    · simp [Instr.mapUpdate, run_underlying ht, MapKept.run_getObj_map hb, T.law.check w false hkl, h1, h2, h3, T.law.stays w hkl, MapKept.run_setObj_map _ hb, Result.andThen, Go.ChangeMaps.setBlock]
    · intro x hx
      rw [hlist] at hx
      rcases List.mem_or_eq_of_mem_set hx with hx | rfl
      · exact F.reads x hx
      · exact ⟨_, rd_mk hkl (R := hR) (yv := (.held v, [])) rfl⟩
    · rw [putK_set ha h5, hlist, List.map_set, List.map_set, hp]
      rfl
    · rw [putK_set ha h5]
      intro p hpm
      rcases List.mem_or_eq_of_mem_set hpm with hpm | rfl
      · exact hks p hpm
      · exact hk
/-- 'delete(m, k)'. -/
def delK (ps : List (List Int × Value)) (k : List Int) : List (List Int × Value) := ps.filter (fun p => !(p.1 == k))
theorem KMap.del (T : KeyTy P K U) (h : KMap P K w b ps) (ht : P.underlying t = some (.map K e)) {k : List Int} (hk : IsK k) (ty : TypeId) :
    ∃ w', (Builtin.delete_ #[t, K] ty #[.map (some b), kv k]).run P w = .ok (.tuple #[]) w' ∧ KMap P K w' b (delK ps k) ∧ w.grownBy w' (some b) ∧ w'.heap.size = w.heap.size := by
  have ha := h.apart T
  obtain ⟨es, clock, hb, F, hp, hks⟩ := h
  obtain ⟨kl, hkl⟩ := keyOf_kv T hk
  have turned : ∀ es' clock', w.grownBy (Go.ChangeMaps.setBlock w b (.map es' clock')) (some b) ∧ (Go.ChangeMaps.setBlock w b (.map es' clock')).heap.size = w.heap.size := fun es' clock' =>
    ⟨World.mapTurned.grown ⟨es, clock, es', clock', hb, rfl⟩, by simp [Go.ChangeMaps.setBlock]⟩
  rcases find_pairs T F hp hk w with ⟨h1, h2, h3⟩ | ⟨j, e0, u, h1, h2, h3, h4, h5⟩
  · have hd : delK ps k = ps := List.filter_eq_self.2 (fun p hpm => by simpa using h2 p hpm)
    rw [hd]
    refine ⟨_, ?_, ⟨es, clock, Go.ChangeMaps.heap_setBlock_same hb _, F, hp, hks⟩, turned _ _⟩
    simp [Builtin.delete_, run_underlying ht, MapKept.run_getObj_map hb, T.law.check w _ hkl, h1, MapKept.run_setObj_map _ hb, Result.andThen, Go.ChangeMaps.setBlock]
  · have hj : es.toList[j]? = some e0 := by simpa using h2
    have hjl : j < es.toList.length := (List.getElem?_eq_some_iff.1 hj).1
    have hjs : j < es.size := by simpa using hjl
    have hsub : (es.eraseIdxIfInBounds j).toList = es.toList.eraseIdx j := by
      unfold Array.eraseIdxIfInBounds
      rw [dif_pos hjs]
      simp
    have hd : delK ps k = ps.eraseIdx j := by
      have h6 : (fun p : List Int × Value => !(p.1 == k)) (k, u) = false := by simp
      unfold delK
      have hjp := (List.getElem?_eq_some_iff.1 h5).1
      have e5 := (List.getElem?_eq_some_iff.1 h5).2
      have hsplit : ps = ps.take j ++ (k, u) :: ps.drop (j + 1) := by
        rw [← e5, ← List.drop_eq_getElem_cons hjp, List.take_append_drop]
      rw [List.eraseIdx_eq_take_drop_succ]
      rw [hsplit] at ha
      obtain ⟨_, a2, a3⟩ := List.pairwise_append.1 ha
      obtain ⟨a4, _⟩ := List.pairwise_cons.1 a2
      conv => lhs; rw [hsplit]
      rw [List.filter_append, List.filter_cons]
      simp only [beq_self_eq_true, Bool.not_true, Bool.false_eq_true, if_false]
      rw [List.filter_eq_self.2, List.filter_eq_self.2]
      · intro q hq
        simpa using fun e => a4 q hq e.symm
      · intro q hq
        simpa using a3 q hq (k, u) (by simp)
    rw [hd]
    refine ⟨_, ?_, ⟨es.eraseIdxIfInBounds j, clock, Go.ChangeMaps.heap_setBlock_same hb _, ⟨Nat.le_trans (MapFrom.size_erase es j) F.size, stamped_erase F.stamped j, ?_⟩, ?_, ?_⟩, turned _ _⟩
    · simp [Builtin.delete_, run_underlying ht, MapKept.run_getObj_map hb, T.law.check w _ hkl, h1, MapKept.run_setObj_map _ hb, Result.andThen, Go.ChangeMaps.setBlock]
    · intro x hx
      rw [hsub] at hx
      exact F.reads x ((List.eraseIdx_sublist _ _).subset hx)
    · rw [hsub, Go.ChangeMaps.map_eraseIdx, Go.ChangeMaps.map_eraseIdx, hp]
    · intro p hpm
      exact hks p ((List.eraseIdx_sublist _ _).subset hpm)
/-- 'len(m)'. -/
theorem KMap.len (h : KMap P K w b ps) (ht : P.underlying t = some (.map K e)) (ty : TypeId) : (Builtin.len_ #[t] ty #[.map (some b)]).run P w = .ok (.int .i64 ps.length) w := by
  obtain ⟨es, clock, hb, F, hp, hks⟩ := h
  simp [Builtin.len_, run_underlying ht, MapKept.run_getObj_map hb, goInt, Result.andThen, pairs_len hp]
/-- What a range over such a map leans on. -/
theorem KMap.owns (T : KeyTy P K U) (h : KMap P K w b ps) : ∃ D, w.ownsMap P K hR b ps.length D ∧ Maps.size D = ps.length ∧ (∀ kl, Maps.has D kl = true → ∃ p ∈ ps, keyOf P K (kv p.1) = some kl) ∧ (∀ p ∈ ps, ∀ kl, keyOf P K (kv p.1) = some kl → ∀ zd, D.atKey kl zd = .held p.2) := by
  obtain ⟨es, clock, hb, F, hp, hks⟩ := h
  have hl := pairs_len hp
  refine ⟨.map ((es.toList.map (rg P K hR)).foldr DataW.insert []), ⟨es, clock, hb, F, by omega, rfl⟩, by simp [Maps.size, length_sorted, hl], fun kl hkl => ?_, fun p hpm kl hkl zd => ?_⟩
  · obtain ⟨q, hq, hs⟩ := List.any_eq_true.1 hkl
    obtain ⟨x, hx, rfl⟩ := List.mem_map.1 (mem_sorted.1 hq)
    obtain ⟨y, hy⟩ := F.reads x hx
    obtain ⟨j, hj⟩ := List.getElem?_of_mem hx
    obtain ⟨p, hp1, hp2, _⟩ := pairs_at hp (j := j) (e := x) (by simpa using hj)
    refine ⟨p, List.mem_of_getElem? hp1, ?_⟩
    rw [← hp2, rd_key hy, ← WideAt.sameKey_eq hs, rg_of hy]
  · obtain ⟨j, hj⟩ := List.getElem?_of_mem hpm
    obtain ⟨x, hx1, hx2, hx3⟩ := pairs_to hp hj
    have hx : x ∈ es.toList := List.mem_of_getElem? (by simpa using hx1)
    obtain ⟨y, hy⟩ := F.reads x hx
    have hk := rd_key hy
    rw [hx2, hkl] at hk
    have hat := (atKey_sorted (es.toList.map (rg P K hR)) (Maps.fit_rising T.law F) kl (T.law.key hkl)).2 (rg P K hR x) (List.mem_map.2 ⟨x, hx, rfl⟩) (by rw [rg_of hy]; exact (Option.some.inj hk).symm)
    rw [hat, rg_of hy]
    obtain ⟨z, hz, hzd⟩ := rd_val hy
    rw [hzd]
    cases hz
    rw [hx3]
/-- The entries that have come. -/
def Met (P : Program) (K : TypeId) (ps : List (List Int × Value)) (left : Lit → Bool) (xs : List (List Int × Value)) : Prop :=
  xs.Nodup ∧ ∀ p, p ∈ xs ↔ (p ∈ ps ∧ ∀ kl, keyOf P K (kv p.1) = some kl → left kl = false)
theorem Met.start (T : KeyTy P K U) (hks : ∀ p ∈ ps, IsK p.1) {D : DataW Value} (hD : ∀ p ∈ ps, ∀ kl, keyOf P K (kv p.1) = some kl → ∀ zd, D.atKey kl zd = .held p.2) : Met P K ps (Maps.has D) [] := by
  refine ⟨List.nodup_nil, fun p => ⟨fun h => by simp at h, fun ⟨h1, h2⟩ => ?_⟩⟩
  obtain ⟨kl, hkl⟩ := keyOf_kv T (hks p h1)
  have h3 := h2 kl hkl
  rw [Maps.has_true_of_atKey (hD p h1 kl hkl)] at h3
  cases h3
theorem Met.step (T : KeyTy P K U) {left : Lit → Bool} {xs : List (List Int × Value)} (hM : Met P K ps left xs) (ha : ps.Pairwise (fun p q => p.1 ≠ q.1)) {D : DataW Value} (hD1 : ∀ kl, Maps.has D kl = true → ∃ p ∈ ps, keyOf P K (kv p.1) = some kl)
    (hD : ∀ p ∈ ps, ∀ kl, keyOf P K (kv p.1) = some kl → ∀ zd, D.atKey kl zd = .held p.2) {x : List Int} {c : Value} {kl : Lit} {y : DataW Value × List MemPlace} (hkey : keyOf P K (kv x) = some kl) (hlk : left kl = true) (hv : hR c = some y) (hat : ∀ zd, D.atKey kl zd = y.1) :
    (x, c) ∈ ps ∧ Met P K ps (fun z => left z && !z.sameKey kl) (xs ++ [(x, c)]) := by
  obtain ⟨p, hp, hpk⟩ := hD1 kl (Maps.has_true_of_atKey hat)
  have e1 : p.1 = x := kv_inj (T.law.inj hpk hkey)
  have e2 : p.2 = c := by
    have h1 := hD p hp kl hpk .nil
    rw [hat] at h1
    cases hv
    injection h1 with h1
    exact h1.symm
  obtain ⟨a, v⟩ := p
  dsimp only at e1 e2
  subst e1
  subst e2
  have hnew : (a, v) ∉ xs := fun hm => by
    have := ((hM.2 _).1 hm).2 kl hkey
    rw [hlk] at this
    cases this
  refine ⟨hp, List.nodup_append.2 ⟨hM.1, by simp, fun q hq r hr => ?_⟩, fun q => ?_⟩
  · simp at hr
    subst hr
    exact fun e => hnew (e ▸ hq)
  · rw [List.mem_append, hM.2 q]
    constructor
    · rintro (⟨h1, h2⟩ | h1)
      · exact ⟨h1, fun k2 hk2 => by show (left k2 && !k2.sameKey kl) = false; rw [h2 k2 hk2]; rfl⟩
      · simp at h1
        subst h1
        refine ⟨hp, fun k2 hk2 => ?_⟩
        dsimp only at hk2
        rw [hkey] at hk2
        cases hk2
        show (left kl && !kl.sameKey kl) = false
        rw [WideAt.sameKey_self (T.law.key hkey)]
        simp
    · rintro ⟨h1, h2⟩
      by_cases hq : q = (a, v)
      · right
        simp [hq]
      · left
        refine ⟨h1, fun k2 hk2 => ?_⟩
        have h3 : (left k2 && !k2.sameKey kl) = false := h2 k2 hk2
        have hne : k2.sameKey kl = false := by
          cases hs : k2.sameKey kl
          · rfl
          · have e3 := WideAt.sameKey_eq hs
            subst e3
            have e4 : q.1 = a := kv_inj (T.law.inj hk2 hkey)
            exfalso
            obtain ⟨i, hi⟩ := List.getElem?_of_mem h1
            obtain ⟨j, hj⟩ := List.getElem?_of_mem hp
            have gi := List.getElem?_eq_some_iff.1 hi
            have gj := List.getElem?_eq_some_iff.1 hj
            rcases Nat.lt_trichotomy i j with hlt | heq | hgt
            · have := List.pairwise_iff_getElem.1 ha i j gi.1 gj.1 hlt
              rw [gi.2, gj.2] at this
              exact this e4
            · subst heq
              rw [hi] at hj
              exact hq (Option.some.inj hj)
            · have := List.pairwise_iff_getElem.1 ha j i gj.1 gi.1 hgt
              rw [gi.2, gj.2] at this
              exact this e4.symm
        rw [hne] at h3
        simpa using h3
theorem Met.perm {left : Lit → Bool} {xs : List (List Int × Value)} (hM : Met P K ps left xs) (ha : ps.Pairwise (fun p q => p.1 ≠ q.1)) (hl : ∀ kl, left kl = false) : xs.Perm ps := by
  refine (List.perm_ext_iff_of_nodup hM.1 (ha.imp (fun hne e => hne (by rw [e])))).2 (fun p => ?_)
  rw [hM.2 p]
  exact ⟨fun h => h.1, fun h => ⟨h, fun kl _ => hl kl⟩⟩
end
end Go.Proofs.Ytdoelmjaongjfaa
