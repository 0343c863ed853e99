/- Nodes that are read from their bytes. Written by wip/gen/rmn.py. -/
import Derived.Test.YtmkddiconpacnaaNodV
import Derived.Test.YtmkddiconpacnaaTk
namespace Go.Proofs.Ytmkddiconpacnaa
open Go.ChangeShapes Go.WideShapes Go.ChangeAt Go.RowKit
set_option linter.unusedVariables false
set_option linter.unusedSimpArgs false
def rnQ (l : List Int) : Nat := (l[64]?.getD 0).toNat
def rnN (l : List Int) : ByteArray := strOfNums ((l.drop 65).take (rnQ l))
def rnW (l : List Int) : ByteArray := strOfNums (l.drop (65 + rnQ l))
def rnB (l : List Int) : Bool := decide (65 ≤ l.length ∧ 65 + rnQ l ≤ l.length) && entB (rnN l) (rnW l)
def rnC (l : List Int) : Array Value := if rnB l = true then nodC (l.take 32) ((l.drop 32).take 32) (rnN l) (rnW l) else nodC z32 z32 ⟨#[]⟩ ⟨#[]⟩
def rnE (l : List Int) : Int := if rnB l = true then 0 else 5
theorem rnN_size {l : List Int} (h : 65 + rnQ l ≤ l.length) : (rnN l).size = rnQ l := by
  unfold rnN
  rw [strOfNums_size, List.length_take, List.length_drop]
  omega
theorem rnW_size (l : List Int) : (rnW l).size = l.length - (65 + rnQ l) := by
  unfold rnW
  rw [strOfNums_size, List.length_drop]
theorem rnB_sizes {l : List Int} (h : rnB l = true) : 66 ≤ l.length ∧ l.length ≤ 153 ∧ 65 + rnQ l ≤ l.length ∧ entB (rnN l) (rnW l) = true := by
  unfold rnB at h
  rw [Bool.and_eq_true, decide_eq_true_eq] at h
  obtain ⟨⟨h1, h2⟩, h3⟩ := h
  obtain ⟨s1, s2, s3⟩ := entB_sizes h3
  rw [rnN_size h2] at s1 s2
  rw [rnW_size] at s3
  exact ⟨by omega, by omega, h2, h3⟩
theorem rnB_no {l : List Int} (h : ¬ (66 ≤ l.length ∧ l.length ≤ 153 ∧ 65 + rnQ l ≤ l.length)) : rnB l = false := by
  cases hb : rnB l with
  | false => rfl
  | true =>
    obtain ⟨a, b, c, _⟩ := rnB_sizes hb
    exact absurd ⟨a, b, c⟩ h
theorem rnB_is {l : List Int} (h : 65 ≤ l.length) (h2 : 65 + rnQ l ≤ l.length) : rnB l = entB (rnN l) (rnW l) := by
  unfold rnB
  rw [decide_eq_true ⟨h, h2⟩, Bool.true_and]
theorem rnC_size {l : List Int} : (rnC l).size = 66 := by
  unfold rnC
  split
  · rename_i h
    obtain ⟨h1, h2, h3, _⟩ := rnB_sizes h
    exact nodC_size _ _ (by rw [List.length_take]; omega) (by rw [List.length_take, List.length_drop]; omega)
  · exact nodC_size _ _ z32_len z32_len
theorem take32_len {l : List Int} (h : 65 ≤ l.length) : (l.take 32).length = 32 ∧ ((l.drop 32).take 32).length = 32 := ⟨by rw [List.length_take]; omega, by rw [List.length_take, List.length_drop]; omega⟩
theorem built3 {P : Program} {t : TypeId} {fs : Array Field} (hu : P.underlying t = some (.struct fs)) (hi : ((P.info? t).bind (·.zero)).map (fun z => z.cells.size) = some 66)
    (hp : fs.toList.mapM (fun f => (P.info? f.type).map fun i => (f.offset, i.size)) = some [(0, 32), (32, 32), (64, 2)]) (u v x : Array Value) (su : u.size = 32) (sv : v.size = 32) (sx : x.size = 2) :
    P.built t [(0, .agg u), (1, .agg v), (2, .agg x)] = some (u ++ (v ++ x)) := by
  cases hq : P.info? t with
  | none => simp [hq] at hi
  | some it =>
    cases hz : it.zero with
    | none => simp [hq, hz] at hi
    | some z =>
      have hs : z.cells.size = 66 := by simpa [hq, hz] using hi
      unfold Program.built
      simp only [hq, hu, hz, hp]
      rw [fill_step _ _ u 0 0 _ (by simp [su]) (by omega), fill_step _ _ v 1 32 _ (by simp [sv]) (by rw [fill_size]; omega), fill_step _ _ x 2 64 _ (by simp [sx]) (by rw [fill_size, fill_size]; omega)]
      rw [Instr.fill]
      congr 1
      apply Array.ext_getElem?
      intro i
      rw [fill_fold 64 x _ (by rw [fill_size, fill_size]; omega), fill_fold 32 v _ (by rw [fill_size]; omega), fill_fold 0 u _ (by omega), Array.getElem?_append, Array.getElem?_append, su, sv]
      by_cases h1 : i < 32
      · rw [if_neg (by omega), if_neg (by omega), if_pos (by omega), if_pos h1, Nat.sub_zero]
      · by_cases h2 : i < 64
        · rw [if_neg (by omega), if_pos (by omega), if_neg h1, if_pos (by omega)]
        · by_cases h3 : i < 66
          · rw [if_pos (by omega), if_neg h1, if_neg (by omega), show i - 32 - 32 = i - 64 by omega]
          · rw [if_neg (by omega), if_neg (by omega), if_neg (by omega), if_neg h1, if_neg (by omega), Array.getElem?_eq_none (by omega), Array.getElem?_eq_none (by omega)]
theorem nodC_app (l r : List Int) (nm vl : ByteArray) : nodC l r nm vl = ints .u8 l ++ (ints .u8 r ++ #[.string nm, .string vl]) := by
  unfold nodC nodL ints
  simp
theorem built_node (l r : List Int) (nm vl : ByteArray) (hl : l.length = 32) (hr : r.length = 32) : Try.prog.built 45 [(0, .agg (ints .u8 l)), (1, .agg (ints .u8 r)), (2, .agg #[.string nm, .string vl])] = some (nodC l r nm vl) := by
  rw [nodC_app]
  exact built3 Try.underlying45 (by kernel_rfl) (by kernel_rfl) _ _ _ (by rw [ints_size, hl]) (by rw [ints_size, hr]) rfl
theorem yields_builtN {P : Program} {ops : Array Oper} {S : World → Prop} {op : Oper} {a : Act} (hw : Region.wanted op (yielded ops a.tmps) = true) (t : TypeId) (parts : Array (Nat × Operand)) (cells : Array Value) (ho : op.op = .build t parts)
    (hb : P.built t (parts.map fun (i, x) => (i, a.eval x)).toList = some cells) : YieldsIf P ops S op (.agg cells) a :=
  .inl ⟨hw, fun w hS => by
    unfold execOp
    simp only [ho, Sem.run_bind, run_build w t _ cells hb, Result.andThen_ok, Sem.run_pure]⟩
theorem rd_range {w : World} {b off n : Nat} {l : List Int} (hl : l.length = n) (hc : ∀ j, j < n → w.cell? ⟨b, off + j, none⟩ = some (.int .u8 (l[j]?.getD 0))) (o k : Nat) (h : o + k ≤ n) : w.rangeAt b (off + o) (((l.drop o).take k).map (Value.int .u8)) := fun j v hv => by
  have hj := (List.getElem?_eq_some_iff.1 hv).1
  rw [List.length_map, List.length_take] at hj
  rw [List.getElem?_map, List.getElem?_take_of_lt (by omega), List.getElem?_drop, List.getElem?_eq_getElem (by omega)] at hv
  rw [Nat.add_assoc, hc (o + j) (by omega), List.getElem?_eq_getElem (by omega)]
  exact hv
end Go.Proofs.Ytmkddiconpacnaa
