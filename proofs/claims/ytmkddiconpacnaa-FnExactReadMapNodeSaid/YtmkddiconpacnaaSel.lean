/- Rows of entries that are owned, and entries that are chosen. Written by wip/gen/rge.py. -/
import Derived.Test.YtmkddiconpacnaaValS
import Derived.Test.YtmkddiconpacnaaValI
import Derived.Test.YtmkddiconpacnaaFill
namespace Go.Proofs.Ytmkddiconpacnaa
open Go.ChangeShapes Go.WideShapes Go.ChangeAt Go.RowKit
set_option linter.unusedVariables false
set_option linter.unusedSimpArgs false
theorem entParts : ∃ (i : TypeInfo) (z : Value), Try.prog.info? 31 = some i ∧ i.zero = some z ∧ i.size = 2 ∧ i.bytes = 32 ∧ z.cells.size = 2 := by
  obtain ⟨i, hi, hzz⟩ := Option.map_eq_some_iff.1 entInfo
  simp only [Prod.mk.injEq] at hzz
  obtain ⟨hz, hs, hb⟩ := hzz
  obtain ⟨z, hz0, hzc⟩ := Option.map_eq_some_iff.1 hz
  exact ⟨i, z, hi, hz0, hs, hb, by rw [hzc, strs_size]; rfl⟩
theorem RdE.owned {w : World} {base : Nat} {v : Value} {m : Nat} {L : List ByteArray} {t : TypeId} (hl : L.length = 2 * m) (h : w.ownsRow base t 2 v m (L.map Value.string)) : ∃ a cap, v = .slice a m cap ∧ RdE w a m L := by
  obtain ⟨h1, h2⟩ := h
  rcases h2 with ⟨rfl, rfl⟩ | ⟨g, cap, cur, rfl, hb, hg, hc, hm, hs, ht⟩
  · exact ⟨none, 0, rfl, hl, Or.inl rfl⟩
  · refine ⟨_, cap, rfl, hl, Or.inr ⟨g, 0, rfl, (Array.getElem?_eq_some_iff.1 hg).1, fun j hj => ?_⟩⟩
    rw [Nat.zero_add, cell_of_row w g j _ _ _ hg]
    have : (cur.toList.take (m * 2))[j]? = (L.map Value.string)[j]? := by rw [ht]
    rw [List.getElem?_take_of_lt (by omega), List.getElem?_map, tx_lt (by omega)] at this
    simpa using this
theorem ownsE_empty (w : World) (t : TypeId) (size : Nat) : (w.alloc (.cells #[] t)).ownsRow w.heap.size t size (.slice (some ⟨w.heap.size, 0, none⟩) 0 0) 0 [] :=
  ⟨by simp, Or.inr ⟨w.heap.size, 0, #[], rfl, Nat.le_refl _, heap_alloc_last _ _, Nat.le_refl _, by unfold maxLen; omega, by simp, by simp⟩⟩
theorem ownsE_base {w : World} {base base' n size : Nat} {e : TypeId} {v : Value} {xs : List Value} (h : base ≤ base') (o : w.ownsRow base' e size v n xs) : w.ownsRow base e size v n xs := by
  refine ⟨o.1, ?_⟩
  rcases o.2 with h0 | ⟨g, cap, cur, hv, hg, r⟩
  · exact Or.inl h0
  · exact Or.inr ⟨g, cap, cur, hv, by omega, r⟩
/-- The chosen ones of the first k entries, and how many they are. -/
def selF (p : ByteArray → Bool) (es : List ByteArray) : Nat → List ByteArray
  | 0 => []
  | k + 1 => if p (tx es (2 * k)) then selF p es k ++ [tx es (2 * k), tx es (2 * k + 1)] else selF p es k
def cntF (p : ByteArray → Bool) (es : List ByteArray) : Nat → Nat
  | 0 => 0
  | k + 1 => if p (tx es (2 * k)) then cntF p es k + 1 else cntF p es k
theorem selF_len (p : ByteArray → Bool) (es : List ByteArray) : ∀ k, (selF p es k).length = 2 * cntF p es k
  | 0 => rfl
  | k + 1 => by
    unfold selF cntF
    split
    · rw [List.length_append, selF_len p es k]; simp; omega
    · exact selF_len p es k
theorem cntF_le (p : ByteArray → Bool) (es : List ByteArray) : ∀ k, cntF p es k ≤ k
  | 0 => Nat.le_refl _
  | k + 1 => by
    have := cntF_le p es k
    unfold cntF
    split <;> omega
theorem addrE (b o j : Nat) : (⟨b, o, none⟩ : Addr).add j = ⟨b, o + j, none⟩ := by by_cases h : j = 0 <;> simp [Addr.add, h]
theorem buildE {P : Program} {ops : Array Oper} {rest : List Oper} {op : Oper} {a : Act} {w : World} {Q : Exit → Act → World → Prop} (hgd : op.guard = none) (t e : TypeId) (x : Operand) (ho : op.op = .buildSlice t 1 #[(0, x)])
    {i : TypeInfo} {z : Value} (hu : P.underlying t = some (.slice e)) (hi : P.info? e = some i) (hz : i.zero = some z) (v : Array Value) (hx : a.eval x = .agg v) (hs : v.size = i.size) (hb : i.size ≤ 2 ^ 24) (h0 : 0 < i.size)
    (h : wpList P ops Q rest (a.put op.dst (.slice (some ⟨w.heap.size, 0, none⟩) 1 1)) (w.alloc (.cells v e))) : wpList P ops Q (op :: rest) a w :=
  wpList_plain hgd fun K hK => by
    unfold Oper.wp execOp
    simp only [ho, List.map_toArray, List.map_cons, List.map_nil, hx, Sem.run_bind, Sem.run_pure, Result.andThen_ok, run_buildSlice_one hu hi hz v hs hb h0]
    exact hK _ _ h
theorem ownsE_ne {w : World} {base size k g : Nat} {T ST : TypeId} {v : Value} {xs : List Value} {c : Array Value} {fr : Nat × Nat} (h : w.ownsRow base T size v k xs) (hg : w.heap[g]? = some (.cells c ST fr)) (hT : T ≠ ST) : v.ownBlock ≠ some g := by
  rcases h.2 with ⟨rfl, _⟩ | ⟨g', cap, cur, rfl, _, hh, _⟩
  · simp [Value.ownBlock]
  · intro e
    have : g' = g := by simpa [Value.ownBlock] using e
    subst this
    rw [hh] at hg
    injection hg with hg
    injection hg with _ ht
    exact hT ht
end Go.Proofs.Ytmkddiconpacnaa
