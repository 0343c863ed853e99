/- The blocks of a slice of bytes, as the program makes them. -/
import Derived.Test.YtnnplebebhjfaabChunk
import Derived.Test.YtnnplebebhjfaabFill
import Derived.Test.YtnnplebebhjfaabConcat
import Derived.Maps.AppendAt
import Derived.RangeFuncBox
namespace Go.Proofs.Ytnnplebebhjfaab
open Go.ChangeShapes Go.WideShapes Go.ChangeAt Go.RowKit Go.Shelf
set_option linter.unusedVariables false
attribute [local go_sem] Oper.semAt_some
theorem run_arrayAt {P : Program} {w : World} {t e : TypeId} {n len cap : Nat} {a : Option Addr} (hu : P.underlying t = some (.array n e)) (h : ¬ len < n) : (Instr.arrayAt t (.slice a len cap)).run P w = .ok (.pointer a) w := by
  unfold Instr.arrayAt
  simp [run_underlying hu, h]
theorem infoTB : (Try.prog.info? 43).map (fun i => (i.zero.map (fun z => z.cells.size), i.size, i.bytes)) = some (some 32, 32, 32) := by kernel_rfl
theorem info_partsB : ∃ (i : TypeInfo) (z : Value), Try.prog.info? 43 = some i ∧ i.zero = some z ∧ z.cells.size = 32 ∧ i.size = 32 ∧ i.bytes = 32 := by
  have h := infoTB
  cases hi : Try.prog.info? 43 with
  | none => rw [hi] at h; cases h
  | some i =>
    rw [hi] at h
    cases hz : i.zero with
    | none => simp [hz] at h
    | some z => simp [hz] at h; exact ⟨i, z, rfl, hz, h.1, h.2.1, h.2.2⟩
/-- The blocks of L from the first one on, before block k. -/
def preL (L : List Int) {m : Nat} (pre : List (Fin m)) : List Int := pre.flatMap fun x => keyAt L x.val
theorem preL_snoc (L : List Int) {m : Nat} (pre : List (Fin m)) (x : Fin m) : preL L (pre ++ [x]) = preL L pre ++ keyAt L x.val := by simp [preL]
theorem preL_take {L : List Int} {m : Nat} (hl : L.length = 32 * m) : ∀ k, k ≤ m → preL L ((List.finRange m).take k) = L.take (32 * k)
  | 0, _ => by simp [preL]
  | k + 1, h => by
    rw [List.take_succ_eq_append_getElem (by simp; exact h), preL_snoc, preL_take hl k (by omega), show 32 * (k + 1) = 32 * k + 32 by omega, List.take_add]
    simp [keyAt]
theorem preL_all {L : List Int} {m : Nat} (hl : L.length = 32 * m) : preL L (List.finRange m) = L := by
  have h := preL_take hl m (Nat.le_refl _)
  rwa [List.take_of_length_le (by simp), List.take_of_length_le (by omega)] at h
theorem RdK.owned {w : World} {base : Nat} {v : Value} {m : Nat} {L : List Int} {t : TypeId} (hl : L.length = 32 * m) (h : w.ownsRow base t 32 v m (L.map (Value.int .u8))) : ∃ a cap, v = .slice a m cap ∧ RdK w a m L := by
  obtain ⟨h1, h2⟩ := h
  rcases h2 with ⟨rfl, rfl⟩ | ⟨g, cap, cur, rfl, hb, hg, hc, hm, hs, ht⟩
  · exact ⟨none, 0, rfl, hl, Or.inl rfl⟩
  · refine ⟨_, cap, rfl, hl, Or.inr ⟨g, 0, rfl, (Array.getElem?_eq_some_iff.1 hg).1, fun j hj => ?_⟩⟩
    rw [Nat.zero_add, cell_of_row w g j _ _ _ hg]
    have : (cur.toList.take (m * 32))[j]? = (L.map (Value.int .u8))[j]? := by rw [ht]
    rw [List.getElem?_take_of_lt (by omega), List.getElem?_map, List.getElem?_eq_getElem (l := L) (by omega)] at this
    rw [List.getElem?_eq_getElem (l := L) (by omega)]
    simpa using this
end Go.Proofs.Ytnnplebebhjfaab
