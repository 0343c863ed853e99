/-
  No cell of these rows narrows 'for every input' (looked for: loops, veiled, ifaces, maps, wideKeys, modest, calm, conditions, laid).
  DERIVED. THE GIVEN ROWS OF THIS SEAT. 6 by the template 'for every input the law returns true; each argument reads behind the call as it read before'; 0 by the template 'total and deterministic' (their statements: YtnnplebebhjfaaaTotals.lean).
  GIVEN WITH THE SEED: the statements are not yours to turn. If you find one false, say at which input.
  Laid BY PROGRAM, IN A SANDBOX (cutbox-rows.mjs): the forced cells as the released guide's own fill.sh prints them over the translation 1efafb20da009c1f… (all of the seat's roots in one cut). By AI agents, Wed Nov 11 2026. No macro, syntax, notation, axiom, sorry.
-/
import Derived.Test.YtnnplebebhjfaaaChecked
import GoSem.Claim
import GoSem.ClaimJoined
import GoSem.ClaimMapViews
import Derived.JoinedTies
import Derived.KernelRfl
namespace Go.Proofs.Ytnnplebebhjfaaa
/- THE CELL 'sum', in the pinned program and in every row, IS THE sha256 OF THE DUMP (.gsa) THAT YtnnplebebhjfaaaProg.lean LOADS. Nothing in Lean hashes anything: it is a label: what it is worth is what the hold of that sum in a sandbox is worth. -/
noncomputable def Try.pinned : Pinned := { name := "ytnnplebebhjfaaa", sum := "1efafb20da009c1fe1fe2d8563e4ca1b7125d032b1ce519c36ff4a8fa8043ab5", checked := Try.checked }
namespace Rows
def none {H : Type} : Left H := { results := [], args := [] }

/-- 'laws.FnExactValidCommit': WHATEVER THE INPUT: true; the input reads as it did. -/
def fnExactValidCommitSpec : ChangeSpec := { name := "fnExactValidCommit", fn := fun _ => fun
  | [d] => { results := [.lit (.bool true)], args := [d] }
  | _ => none }
def fnExactValidCommitRow : OpenClaim := { program := "ytnnplebebhjfaaa", sum := "1efafb20da009c1fe1fe2d8563e4ca1b7125d032b1ce519c36ff4a8fa8043ab5", func := "loop.example/g01174/laws.FnExactValidCommit", spec := "fnExactValidCommit", inPlace := ["internal/bytealg.Compare"], apart := false }
def FnExactValidCommitSaid : Prop := fnExactValidCommitRow.holds Try.pinned (OpenSpec.ofChange fnExactValidCommitSpec)

/-- ITS FALSE NEIGHBOUR: 'it returns false'. Refute it at one input. -/
def fnExactValidCommitWrong : ChangeSpec := { name := "fnExactValidCommit", fn := fun _ => fun
  | [d] => { results := [.lit (.bool false)], args := [d] }
  | _ => none }
def FnExactValidCommitWrongFalsely : Prop := fnExactValidCommitRow.holds Try.pinned (OpenSpec.ofChange fnExactValidCommitWrong)

/-- 'laws.FnExactSameCommit': WHATEVER THE INPUT: true; the input reads as it did. -/
def fnExactSameCommitSpec : ChangeSpec := { name := "fnExactSameCommit", fn := fun _ => fun
  | [d1, d2] => { results := [.lit (.bool true)], args := [d1, d2] }
  | _ => none }
def fnExactSameCommitRow : OpenClaim := { program := "ytnnplebebhjfaaa", sum := "1efafb20da009c1fe1fe2d8563e4ca1b7125d032b1ce519c36ff4a8fa8043ab5", func := "loop.example/g01174/laws.FnExactSameCommit", spec := "fnExactSameCommit", apart := false }
def FnExactSameCommitSaid : Prop := fnExactSameCommitRow.holds Try.pinned (OpenSpec.ofChange fnExactSameCommitSpec)

/-- ITS FALSE NEIGHBOUR: 'it returns false'. Refute it at one input. -/
def fnExactSameCommitWrong : ChangeSpec := { name := "fnExactSameCommit", fn := fun _ => fun
  | [d1, d2] => { results := [.lit (.bool false)], args := [d1, d2] }
  | _ => none }
def FnExactSameCommitWrongFalsely : Prop := fnExactSameCommitRow.holds Try.pinned (OpenSpec.ofChange fnExactSameCommitWrong)

/-- 'laws.FnExactCommitData': WHATEVER THE INPUT: true; the input reads as it did. -/
def fnExactCommitDataSpec : ChangeSpec := { name := "fnExactCommitData", fn := fun _ => fun
  | [d] => { results := [.lit (.bool true)], args := [d] }
  | _ => none }
def fnExactCommitDataRow : OpenClaim := { program := "ytnnplebebhjfaaa", sum := "1efafb20da009c1fe1fe2d8563e4ca1b7125d032b1ce519c36ff4a8fa8043ab5", func := "loop.example/g01174/laws.FnExactCommitData", spec := "fnExactCommitData", inPlace := ["internal/bytealg.Compare"], apart := false }
def FnExactCommitDataSaid : Prop := fnExactCommitDataRow.holds Try.pinned (OpenSpec.ofChange fnExactCommitDataSpec)

/-- ITS FALSE NEIGHBOUR: 'it returns false'. Refute it at one input. -/
def fnExactCommitDataWrong : ChangeSpec := { name := "fnExactCommitData", fn := fun _ => fun
  | [d] => { results := [.lit (.bool false)], args := [d] }
  | _ => none }
def FnExactCommitDataWrongFalsely : Prop := fnExactCommitDataRow.holds Try.pinned (OpenSpec.ofChange fnExactCommitDataWrong)

/-- 'laws.FnExactReadCommit': WHATEVER THE INPUT: true; the input reads as it did. -/
def fnExactReadCommitSpec : ChangeSpec := { name := "fnExactReadCommit", fn := fun _ => fun
  | [d] => { results := [.lit (.bool true)], args := [d] }
  | _ => none }
def fnExactReadCommitRow : OpenClaim := { program := "ytnnplebebhjfaaa", sum := "1efafb20da009c1fe1fe2d8563e4ca1b7125d032b1ce519c36ff4a8fa8043ab5", func := "loop.example/g01174/laws.FnExactReadCommit", spec := "fnExactReadCommit", inPlace := ["internal/bytealg.Compare"], unfollowed := true, recurses := true, apart := false }
def FnExactReadCommitSaid : Prop := fnExactReadCommitRow.holds Try.pinned (OpenSpec.ofChange fnExactReadCommitSpec)

/-- ITS FALSE NEIGHBOUR: 'it returns false'. Refute it at one input. -/
def fnExactReadCommitWrong : ChangeSpec := { name := "fnExactReadCommit", fn := fun _ => fun
  | [d] => { results := [.lit (.bool false)], args := [d] }
  | _ => none }
def FnExactReadCommitWrongFalsely : Prop := fnExactReadCommitRow.holds Try.pinned (OpenSpec.ofChange fnExactReadCommitWrong)

/-- 'laws.FnExactCommitKey': WHATEVER THE INPUT: true; the input reads as it did. -/
def fnExactCommitKeySpec : ChangeSpec := { name := "fnExactCommitKey", fn := fun _ => fun
  | [d] => { results := [.lit (.bool true)], args := [d] }
  | _ => none }
def fnExactCommitKeyRow : OpenClaim := { program := "ytnnplebebhjfaaa", sum := "1efafb20da009c1fe1fe2d8563e4ca1b7125d032b1ce519c36ff4a8fa8043ab5", func := "loop.example/g01174/laws.FnExactCommitKey", spec := "fnExactCommitKey", inPlace := ["internal/bytealg.Compare"], unfollowed := true, recurses := true, apart := false }
def FnExactCommitKeySaid : Prop := fnExactCommitKeyRow.holds Try.pinned (OpenSpec.ofChange fnExactCommitKeySpec)

/-- ITS FALSE NEIGHBOUR: 'it returns false'. Refute it at one input. -/
def fnExactCommitKeyWrong : ChangeSpec := { name := "fnExactCommitKey", fn := fun _ => fun
  | [d] => { results := [.lit (.bool false)], args := [d] }
  | _ => none }
def FnExactCommitKeyWrongFalsely : Prop := fnExactCommitKeyRow.holds Try.pinned (OpenSpec.ofChange fnExactCommitKeyWrong)

/-- 'laws.FnExactSameBook': WHATEVER THE INPUT: true; the input reads as it did. -/
def fnExactSameBookSpec : ChangeSpec := { name := "fnExactSameBook", fn := fun _ => fun
  | [d1, d2] => { results := [.lit (.bool true)], args := [d1, d2] }
  | _ => none }
def fnExactSameBookRow : OpenClaim := { program := "ytnnplebebhjfaaa", sum := "1efafb20da009c1fe1fe2d8563e4ca1b7125d032b1ce519c36ff4a8fa8043ab5", func := "loop.example/g01174/laws.FnExactSameBook", spec := "fnExactSameBook", unfollowed := true, recurses := true, apart := false }
def FnExactSameBookSaid : Prop := fnExactSameBookRow.holds Try.pinned (OpenSpec.ofChange fnExactSameBookSpec)

/-- ITS FALSE NEIGHBOUR: 'it returns false'. Refute it at one input. -/
def fnExactSameBookWrong : ChangeSpec := { name := "fnExactSameBook", fn := fun _ => fun
  | [d1, d2] => { results := [.lit (.bool false)], args := [d1, d2] }
  | _ => none }
def FnExactSameBookWrongFalsely : Prop := fnExactSameBookRow.holds Try.pinned (OpenSpec.ofChange fnExactSameBookWrong)

/- THE SECOND FORM. 'bulk': how many values and letters a reading holds, each counted each time it is reached (what is shared counts as often as it is met; a slice's spare places count too). A statement '..UptoSaid' is the law's where the arguments, and the package variables that the reading takes, are together of bulk at most 1048576: NARROWER than '..Said'. Prove '..Said' where nothing that the law and all that it calls make is longer than what came in: it says more and counts as full. Else prove '..UptoSaid'. A law counts once. -/
mutual
def uptoBulk {H : Type} : DataW H → Nat
  | .lit (.string bytes) => bytes.length + 1
  | .lit _ => 1
  | .nil => 1
  | .ptr d => uptoBulk d + 1
  | .slice elems spare => uptoBulkAll elems + uptoBulkAll spare + 1
  | .agg parts => uptoBulkAll parts + 1
  | .iface _ d => uptoBulk d + 1
  | .map entries => uptoBulkEntries entries + 1
  | .held _ => 1
def uptoBulkAll {H : Type} : List (DataW H) → Nat
  | [] => 0
  | d :: r => uptoBulk d + uptoBulkAll r
def uptoBulkEntries {H : Type} : List (Lit × DataW H) → Nat
  | [] => 0
  | x :: r => uptoBulkEntry x + uptoBulkEntries r
def uptoBulkEntry {H : Type} : Lit × DataW H → Nat
  | (.string bytes, d) => bytes.length + uptoBulk d + 1
  | (_, d) => uptoBulk d + 1
 end
def uptoSmall : (H : Type) → List (DataW H) → Bool := fun _ ds => decide (uptoBulkAll ds ≤ 1048576)
def OpenSpec.upto (s : _root_.Go.ChangeSpec) : _root_.Go.OpenSpec := { _root_.Go.OpenSpec.ofChange s with cond := some uptoSmall }

/-- 'laws.FnExactValidCommit', WHERE WHAT IT READS IS OF BULK AT MOST 1048576: true; the input reads as it did. -/
def fnExactValidCommitUptoRow : OpenClaim := { program := "ytnnplebebhjfaaa", sum := "1efafb20da009c1fe1fe2d8563e4ca1b7125d032b1ce519c36ff4a8fa8043ab5", func := "loop.example/g01174/laws.FnExactValidCommit", spec := "fnExactValidCommit", inPlace := ["internal/bytealg.Compare"], apart := false, narrowed := true }
def FnExactValidCommitUptoSaid : Prop := fnExactValidCommitUptoRow.holds Try.pinned (OpenSpec.upto fnExactValidCommitSpec)

/-- 'laws.FnExactSameCommit', WHERE WHAT IT READS IS OF BULK AT MOST 1048576: true; the input reads as it did. -/
def fnExactSameCommitUptoRow : OpenClaim := { program := "ytnnplebebhjfaaa", sum := "1efafb20da009c1fe1fe2d8563e4ca1b7125d032b1ce519c36ff4a8fa8043ab5", func := "loop.example/g01174/laws.FnExactSameCommit", spec := "fnExactSameCommit", apart := false, narrowed := true }
def FnExactSameCommitUptoSaid : Prop := fnExactSameCommitUptoRow.holds Try.pinned (OpenSpec.upto fnExactSameCommitSpec)

/-- 'laws.FnExactCommitData', WHERE WHAT IT READS IS OF BULK AT MOST 1048576: true; the input reads as it did. -/
def fnExactCommitDataUptoRow : OpenClaim := { program := "ytnnplebebhjfaaa", sum := "1efafb20da009c1fe1fe2d8563e4ca1b7125d032b1ce519c36ff4a8fa8043ab5", func := "loop.example/g01174/laws.FnExactCommitData", spec := "fnExactCommitData", inPlace := ["internal/bytealg.Compare"], apart := false, narrowed := true }
def FnExactCommitDataUptoSaid : Prop := fnExactCommitDataUptoRow.holds Try.pinned (OpenSpec.upto fnExactCommitDataSpec)

/-- 'laws.FnExactReadCommit', WHERE WHAT IT READS IS OF BULK AT MOST 1048576: true; the input reads as it did. -/
def fnExactReadCommitUptoRow : OpenClaim := { program := "ytnnplebebhjfaaa", sum := "1efafb20da009c1fe1fe2d8563e4ca1b7125d032b1ce519c36ff4a8fa8043ab5", func := "loop.example/g01174/laws.FnExactReadCommit", spec := "fnExactReadCommit", inPlace := ["internal/bytealg.Compare"], unfollowed := true, recurses := true, apart := false, narrowed := true }
def FnExactReadCommitUptoSaid : Prop := fnExactReadCommitUptoRow.holds Try.pinned (OpenSpec.upto fnExactReadCommitSpec)

/-- 'laws.FnExactCommitKey', WHERE WHAT IT READS IS OF BULK AT MOST 1048576: true; the input reads as it did. -/
def fnExactCommitKeyUptoRow : OpenClaim := { program := "ytnnplebebhjfaaa", sum := "1efafb20da009c1fe1fe2d8563e4ca1b7125d032b1ce519c36ff4a8fa8043ab5", func := "loop.example/g01174/laws.FnExactCommitKey", spec := "fnExactCommitKey", inPlace := ["internal/bytealg.Compare"], unfollowed := true, recurses := true, apart := false, narrowed := true }
def FnExactCommitKeyUptoSaid : Prop := fnExactCommitKeyUptoRow.holds Try.pinned (OpenSpec.upto fnExactCommitKeySpec)

/-- 'laws.FnExactSameBook', WHERE WHAT IT READS IS OF BULK AT MOST 1048576: true; the input reads as it did. -/
def fnExactSameBookUptoRow : OpenClaim := { program := "ytnnplebebhjfaaa", sum := "1efafb20da009c1fe1fe2d8563e4ca1b7125d032b1ce519c36ff4a8fa8043ab5", func := "loop.example/g01174/laws.FnExactSameBook", spec := "fnExactSameBook", unfollowed := true, recurses := true, apart := false, narrowed := true }
def FnExactSameBookUptoSaid : Prop := fnExactSameBookUptoRow.holds Try.pinned (OpenSpec.upto fnExactSameBookSpec)

end Rows
end Go.Proofs.Ytnnplebebhjfaaa
