/- The clash of two lists: what is answered. Written by wip/gen/cli.py. -/
import Derived.Test.YtcbcfjflaplkoaaClB
import Derived.Test.YtcbcfjflaplkoaaListK
namespace Go.Proofs.Ytcbcfjflaplkoaa
open Go.ChangeShapes Go.WideShapes Go.ChangeAt Go.RowKit
set_option linter.unusedVariables false
set_option linter.unusedSimpArgs false
theorem yields_built {P : Program} {ops : Array Oper} {S : World → Prop} {op : Oper} {a : Act} (hw : Region.wanted op (yielded ops a.tmps) = true) (t : TypeId) (parts : Array (Nat × Operand)) (cells : Array Value) (ho : op.op = .build t parts)
    (hb : P.built t (parts.map fun (i, x) => (i, a.eval x)).toList = some cells) : YieldsIf P ops S op (.agg cells) a :=
  .inl ⟨hw, fun w hS => by
    unfold execOp
    simp only [ho, Sem.run_bind, run_build w t _ cells hb, Result.andThen_ok, Sem.run_pure]⟩
def clE (n m : Nat) (fl gl : List Int) : Int := if 256 < n ∨ 256 < m then 3 else if n ≠ m ∨ n = 0 ∨ tkey (keyAt fl) 0 n ≠ tkey (keyAt gl) 0 n then 4 else if fl = gl then 6 else 0
def clV (n m : Nat) (fl gl : List Int) : List Int := if 256 < n ∨ 256 < m then z128 else if n ≠ m ∨ n = 0 ∨ tkey (keyAt fl) 0 n ≠ tkey (keyAt gl) 0 n then z128 else if fl = gl then z128 else clK fl gl 0 n
theorem clV_size {n m : Nat} {fl gl : List Int} (hf : fl.length = 32 * n) (hg : gl.length = 32 * m) (fb : ∀ z ∈ fl, 0 ≤ z ∧ z ≤ 255) (gb : ∀ z ∈ gl, 0 ≤ z ∧ z ≤ 255) : ∃ x y u v, clV n m fl gl = x ++ (y ++ (u ++ v)) ∧ x.length = 32 ∧ y.length = 32 ∧ u.length = 32 ∧ v.length = 32 := by
  have h0 : ∃ x y u v : List Int, z128 = x ++ (y ++ (u ++ v)) ∧ x.length = 32 ∧ y.length = 32 ∧ u.length = 32 ∧ v.length = 32 := ⟨z32, z32, z32, z32, by decide, by decide, by decide, by decide, by decide⟩
  unfold clV
  split
  · exact h0
  · split
    · exact h0
    · split
      · exact h0
      · rename_i h1 h2 h3
        have e1 : n = m := Classical.byContradiction (fun e => h2 (Or.inl e))
        have e2 : ¬ n = 0 := fun e => h2 (Or.inr (Or.inl e))
        have e3 : tkey (keyAt fl) 0 n = tkey (keyAt gl) 0 n := Classical.byContradiction (fun e => h2 (Or.inr (Or.inr e)))
        subst e1
        obtain ⟨x, y, u, v, hc, hx, hy, hu, hv, _⟩ := clK_is hf hg fb gb n 0 (by omega) ⟨by omega, e3, by rw [subK_all hf, subK_all hg]; exact h3⟩
        exact ⟨x, y, u, v, hc, hx.1, hy.1, hu.1, hv.1⟩
end Go.Proofs.Ytcbcfjflaplkoaa
