/- Two arrays of numbers, held against each other. -/
import Derived.Test.YtdoelmjaongjfabBase
namespace Go.Proofs.Ytdoelmjaongjfab
open Go.ChangeShapes Go.WideShapes Go.ChangeAt Go.RowKit
set_option linter.unusedVariables false
theorem run_part_ints {P : Program} {e : TypeId} {κ : IntKind} (he : P.underlying e = some (.int κ)) (l : List Int) (i : Nat) (hi : i < l.length) (w : World) :
    (part e (ints κ l) i).run P w = .ok (.int κ (l[i]?.getD 0)) w := by
  have hg := ints_get κ l i hi
  simp [part, isAgg, run_underlying he w, hg]
theorem all_range {l m : List Int} (h : l.length = m.length) : ((List.range' 0 l.length 1).all fun i => l[i]?.getD 0 == m[i]?.getD 0) = decide (l = m) := by
  rw [Bool.eq_iff_iff, List.all_eq_true]
  simp only [List.mem_range'_1, beq_iff_eq, decide_eq_true_eq]
  constructor
  · intro hA
    apply List.ext_getElem h
    intro i h1 h2
    have := hA i ⟨by omega, by omega⟩
    rw [List.getElem?_eq_getElem h1, List.getElem?_eq_getElem h2] at this
    exact this
  · rintro rfl i _
    rfl
theorem run_equalIn_ints {P : Program} {t e : TypeId} {n : Nat} {κ : IntKind} (ht : P.underlying t = some (.array n e)) (he : P.underlying e = some (.int κ)) (hs : (P.info? e).map (·.size) = some 1) (l m : List Int) (hl : l.length = n) (hm : m.length = n) (d : Nat) (w : World) :
    (Op.equalIn (d + 2) t (.agg (ints κ l)) (.agg (ints κ m))).run P w = .ok (decide (l = m)) w := by
  cases hq : P.info? e with
  | none => simp [hq] at hs
  | some ie =>
    have hz : ie.size = 1 := by simpa [hq] using hs
    rw [← all_range (hl.trans hm.symm), hl]
    unfold Op.equalIn
    simp only [Sem.run_bind, run_underlying ht w, Result.andThen_ok, sizeOf, typeInfo]
    have hprog : Sem.run P program w = .ok P w := rfl
    simp only [hprog, Result.andThen_ok, hq, Sem.run_pure, hz, Nat.mul_one, Std.Legacy.Range.forIn_eq_forIn_range', Std.Legacy.Range.size, Nat.sub_zero, Nat.add_sub_cancel, Nat.div_one]
    have hin : ∀ i ∈ List.range' 0 n 1, i < n := fun i hi => by
      have := (List.mem_range'_1.1 hi).2
      omega
    generalize List.range' 0 n 1 = is at hin ⊢
    induction is with
    | nil => simp
    | cons i is ih =>
      have hi := hin i (by simp)
      have hrest := ih (fun j hj => hin j (by simp [hj]))
      rw [List.forIn_cons]
      simp only [Sem.run_bind, run_part_ints he l i (by omega) w, run_part_ints he m i (by omega) w, Result.andThen_ok, run_equalIn_int w d e κ κ _ _ he, List.all_cons]
      cases hb : (l[i]?.getD 0 == m[i]?.getD 0)
      · simp
      · simpa using hrest
theorem run_eql_ints {P : Program} {t e : TypeId} {n : Nat} {κ : IntKind} (ht : P.underlying t = some (.array n e)) (he : P.underlying e = some (.int κ)) (hs : (P.info? e).map (·.size) = some 1) (l m : List Int) (hl : l.length = n) (hm : m.length = n) (w : World) :
    (binOp .eql t (.agg (ints κ l)) (.agg (ints κ m))).run P w = .ok (.bool (decide (l = m))) w := by
  rw [run_eql_struct, run_equalIn_ints ht he hs l m hl hm 9998 w]
  rfl
end Go.Proofs.Ytdoelmjaongjfab
