/-
  No cell of these rows narrows 'for every input' (looked for: loops, veiled, ifaces, maps, wideKeys, modest, calm, conditions, laid).
  DERIVED. THE GIVEN ROWS OF THIS SEAT. 14 by the template 'for every input the law returns true; each argument reads behind the call as it read before'; 0 by the template 'total and deterministic' (their statements: YtfnmmpnmbommeaaTotals.lean).
  GIVEN WITH THE SEED: the statements are not yours to turn. If you find one false, say at which input.
  Laid BY PROGRAM, IN A SANDBOX (cutbox-rows.mjs): the forced cells as the released guide's own fill.sh prints them over the translation a67b8c4ac5509e50… (all of the seat's roots in one cut). By AI agents, Wed Nov 11 2026. No macro, syntax, notation, axiom, sorry.
-/
import Derived.Test.YtfnmmpnmbommeaaChecked
import GoSem.Claim
import GoSem.ClaimJoined
import GoSem.ClaimMapViews
import Derived.JoinedTies
import Derived.KernelRfl
namespace Go.Proofs.Ytfnmmpnmbommeaa
/- THE CELL 'sum', in the pinned program and in every row, IS THE sha256 OF THE DUMP (.gsa) THAT YtfnmmpnmbommeaaProg.lean LOADS. Nothing in Lean hashes anything: it is a label: what it is worth is what the hold of that sum in a sandbox is worth. -/
noncomputable def Try.pinned : Pinned := { name := "ytfnmmpnmbommeaa", sum := "a67b8c4ac5509e50a3c5100437e3f9064e0f3dbb82c2f725f28d5f88b4aebc1d", checked := Try.checked }
namespace Rows
def none {H : Type} : Left H := { results := [], args := [] }

/-- 'laws.FnPeaks': WHATEVER THE INPUT: true; the input reads as it did. -/
def fnPeaksSpec : ChangeSpec := { name := "fnPeaks", fn := fun _ => fun
  | [d1, d2] => { results := [.lit (.bool true)], args := [d1, d2] }
  | _ => none }
def fnPeaksRow : OpenClaim := { program := "ytfnmmpnmbommeaa", sum := "a67b8c4ac5509e50a3c5100437e3f9064e0f3dbb82c2f725f28d5f88b4aebc1d", func := "loop.example/g01174/laws.FnPeaks", spec := "fnPeaks", unfollowed := true, recurses := true, apart := false }
def FnPeaksSaid : Prop := fnPeaksRow.holds Try.pinned (OpenSpec.ofChange fnPeaksSpec)

/-- ITS FALSE NEIGHBOUR: 'it returns false'. Refute it at one input. -/
def fnPeaksWrong : ChangeSpec := { name := "fnPeaks", fn := fun _ => fun
  | [d1, d2] => { results := [.lit (.bool false)], args := [d1, d2] }
  | _ => none }
def FnPeaksWrongFalsely : Prop := fnPeaksRow.holds Try.pinned (OpenSpec.ofChange fnPeaksWrong)

/-- 'laws.FnGrowth': WHATEVER THE INPUT: true; the input reads as it did. -/
def fnGrowthSpec : ChangeSpec := { name := "fnGrowth", fn := fun _ => fun
  | [d1, d2] => { results := [.lit (.bool true)], args := [d1, d2] }
  | _ => none }
def fnGrowthRow : OpenClaim := { program := "ytfnmmpnmbommeaa", sum := "a67b8c4ac5509e50a3c5100437e3f9064e0f3dbb82c2f725f28d5f88b4aebc1d", func := "loop.example/g01174/laws.FnGrowth", spec := "fnGrowth", unfollowed := true, recurses := true, apart := false }
def FnGrowthSaid : Prop := fnGrowthRow.holds Try.pinned (OpenSpec.ofChange fnGrowthSpec)

/-- ITS FALSE NEIGHBOUR: 'it returns false'. Refute it at one input. -/
def fnGrowthWrong : ChangeSpec := { name := "fnGrowth", fn := fun _ => fun
  | [d1, d2] => { results := [.lit (.bool false)], args := [d1, d2] }
  | _ => none }
def FnGrowthWrongFalsely : Prop := fnGrowthRow.holds Try.pinned (OpenSpec.ofChange fnGrowthWrong)

/-- 'laws.FnRangeProofs': WHATEVER THE INPUT: true; the input reads as it did. -/
def fnRangeProofsSpec : ChangeSpec := { name := "fnRangeProofs", fn := fun _ => fun
  | [d1, d2] => { results := [.lit (.bool true)], args := [d1, d2] }
  | _ => none }
def fnRangeProofsRow : OpenClaim := { program := "ytfnmmpnmbommeaa", sum := "a67b8c4ac5509e50a3c5100437e3f9064e0f3dbb82c2f725f28d5f88b4aebc1d", func := "loop.example/g01174/laws.FnRangeProofs", spec := "fnRangeProofs", unfollowed := true, recurses := true, apart := false }
def FnRangeProofsSaid : Prop := fnRangeProofsRow.holds Try.pinned (OpenSpec.ofChange fnRangeProofsSpec)

/-- ITS FALSE NEIGHBOUR: 'it returns false'. Refute it at one input. -/
def fnRangeProofsWrong : ChangeSpec := { name := "fnRangeProofs", fn := fun _ => fun
  | [d1, d2] => { results := [.lit (.bool false)], args := [d1, d2] }
  | _ => none }
def FnRangeProofsWrongFalsely : Prop := fnRangeProofsRow.holds Try.pinned (OpenSpec.ofChange fnRangeProofsWrong)

/-- 'laws.FnExactClashOf': WHATEVER THE INPUT: true; the input reads as it did. -/
def fnExactClashOfSpec : ChangeSpec := { name := "fnExactClashOf", fn := fun _ => fun
  | [d1, d2] => { results := [.lit (.bool true)], args := [d1, d2] }
  | _ => none }
def fnExactClashOfRow : OpenClaim := { program := "ytfnmmpnmbommeaa", sum := "a67b8c4ac5509e50a3c5100437e3f9064e0f3dbb82c2f725f28d5f88b4aebc1d", func := "loop.example/g01174/laws.FnExactClashOf", spec := "fnExactClashOf", unfollowed := true, recurses := true, apart := false }
def FnExactClashOfSaid : Prop := fnExactClashOfRow.holds Try.pinned (OpenSpec.ofChange fnExactClashOfSpec)

/-- ITS FALSE NEIGHBOUR: 'it returns false'. Refute it at one input. -/
def fnExactClashOfWrong : ChangeSpec := { name := "fnExactClashOf", fn := fun _ => fun
  | [d1, d2] => { results := [.lit (.bool false)], args := [d1, d2] }
  | _ => none }
def FnExactClashOfWrongFalsely : Prop := fnExactClashOfRow.holds Try.pinned (OpenSpec.ofChange fnExactClashOfWrong)

/-- 'laws.FnExactPeaksOf': WHATEVER THE INPUT: true; the input reads as it did. -/
def fnExactPeaksOfSpec : ChangeSpec := { name := "fnExactPeaksOf", fn := fun _ => fun
  | [d] => { results := [.lit (.bool true)], args := [d] }
  | _ => none }
def fnExactPeaksOfRow : OpenClaim := { program := "ytfnmmpnmbommeaa", sum := "a67b8c4ac5509e50a3c5100437e3f9064e0f3dbb82c2f725f28d5f88b4aebc1d", func := "loop.example/g01174/laws.FnExactPeaksOf", spec := "fnExactPeaksOf", unfollowed := true, recurses := true, apart := false }
def FnExactPeaksOfSaid : Prop := fnExactPeaksOfRow.holds Try.pinned (OpenSpec.ofChange fnExactPeaksOfSpec)

/-- ITS FALSE NEIGHBOUR: 'it returns false'. Refute it at one input. -/
def fnExactPeaksOfWrong : ChangeSpec := { name := "fnExactPeaksOf", fn := fun _ => fun
  | [d] => { results := [.lit (.bool false)], args := [d] }
  | _ => none }
def FnExactPeaksOfWrongFalsely : Prop := fnExactPeaksOfRow.holds Try.pinned (OpenSpec.ofChange fnExactPeaksOfWrong)

/-- 'laws.FnExactListKey': WHATEVER THE INPUT: true; the input reads as it did. -/
def fnExactListKeySpec : ChangeSpec := { name := "fnExactListKey", fn := fun _ => fun
  | [d] => { results := [.lit (.bool true)], args := [d] }
  | _ => none }
def fnExactListKeyRow : OpenClaim := { program := "ytfnmmpnmbommeaa", sum := "a67b8c4ac5509e50a3c5100437e3f9064e0f3dbb82c2f725f28d5f88b4aebc1d", func := "loop.example/g01174/laws.FnExactListKey", spec := "fnExactListKey", unfollowed := true, recurses := true, apart := false }
def FnExactListKeySaid : Prop := fnExactListKeyRow.holds Try.pinned (OpenSpec.ofChange fnExactListKeySpec)

/-- ITS FALSE NEIGHBOUR: 'it returns false'. Refute it at one input. -/
def fnExactListKeyWrong : ChangeSpec := { name := "fnExactListKey", fn := fun _ => fun
  | [d] => { results := [.lit (.bool false)], args := [d] }
  | _ => none }
def FnExactListKeyWrongFalsely : Prop := fnExactListKeyRow.holds Try.pinned (OpenSpec.ofChange fnExactListKeyWrong)

/-- 'laws.FnExactKeyOfPeaks': WHATEVER THE INPUT: true; the input reads as it did. -/
def fnExactKeyOfPeaksSpec : ChangeSpec := { name := "fnExactKeyOfPeaks", fn := fun _ => fun
  | [d1, d2] => { results := [.lit (.bool true)], args := [d1, d2] }
  | _ => none }
def fnExactKeyOfPeaksRow : OpenClaim := { program := "ytfnmmpnmbommeaa", sum := "a67b8c4ac5509e50a3c5100437e3f9064e0f3dbb82c2f725f28d5f88b4aebc1d", func := "loop.example/g01174/laws.FnExactKeyOfPeaks", spec := "fnExactKeyOfPeaks", unfollowed := true, recurses := true, apart := false }
def FnExactKeyOfPeaksSaid : Prop := fnExactKeyOfPeaksRow.holds Try.pinned (OpenSpec.ofChange fnExactKeyOfPeaksSpec)

/-- ITS FALSE NEIGHBOUR: 'it returns false'. Refute it at one input. -/
def fnExactKeyOfPeaksWrong : ChangeSpec := { name := "fnExactKeyOfPeaks", fn := fun _ => fun
  | [d1, d2] => { results := [.lit (.bool false)], args := [d1, d2] }
  | _ => none }
def FnExactKeyOfPeaksWrongFalsely : Prop := fnExactKeyOfPeaksRow.holds Try.pinned (OpenSpec.ofChange fnExactKeyOfPeaksWrong)

/-- 'laws.FnExactAddLeaf': WHATEVER THE INPUT: true; the input reads as it did. -/
def fnExactAddLeafSpec : ChangeSpec := { name := "fnExactAddLeaf", fn := fun _ => fun
  | [d1, d2, d3] => { results := [.lit (.bool true)], args := [d1, d2, d3] }
  | _ => none }
def fnExactAddLeafRow : OpenClaim := { program := "ytfnmmpnmbommeaa", sum := "a67b8c4ac5509e50a3c5100437e3f9064e0f3dbb82c2f725f28d5f88b4aebc1d", func := "loop.example/g01174/laws.FnExactAddLeaf", spec := "fnExactAddLeaf", unfollowed := true, recurses := true, apart := false }
def FnExactAddLeafSaid : Prop := fnExactAddLeafRow.holds Try.pinned (OpenSpec.ofChange fnExactAddLeafSpec)

/-- ITS FALSE NEIGHBOUR: 'it returns false'. Refute it at one input. -/
def fnExactAddLeafWrong : ChangeSpec := { name := "fnExactAddLeaf", fn := fun _ => fun
  | [d1, d2, d3] => { results := [.lit (.bool false)], args := [d1, d2, d3] }
  | _ => none }
def FnExactAddLeafWrongFalsely : Prop := fnExactAddLeafRow.holds Try.pinned (OpenSpec.ofChange fnExactAddLeafWrong)

/-- 'laws.FnExactGrowthProof': WHATEVER THE INPUT: true; the input reads as it did. -/
def fnExactGrowthProofSpec : ChangeSpec := { name := "fnExactGrowthProof", fn := fun _ => fun
  | [d1, d2] => { results := [.lit (.bool true)], args := [d1, d2] }
  | _ => none }
def fnExactGrowthProofRow : OpenClaim := { program := "ytfnmmpnmbommeaa", sum := "a67b8c4ac5509e50a3c5100437e3f9064e0f3dbb82c2f725f28d5f88b4aebc1d", func := "loop.example/g01174/laws.FnExactGrowthProof", spec := "fnExactGrowthProof", unfollowed := true, recurses := true, apart := false }
def FnExactGrowthProofSaid : Prop := fnExactGrowthProofRow.holds Try.pinned (OpenSpec.ofChange fnExactGrowthProofSpec)

/-- ITS FALSE NEIGHBOUR: 'it returns false'. Refute it at one input. -/
def fnExactGrowthProofWrong : ChangeSpec := { name := "fnExactGrowthProof", fn := fun _ => fun
  | [d1, d2] => { results := [.lit (.bool false)], args := [d1, d2] }
  | _ => none }
def FnExactGrowthProofWrongFalsely : Prop := fnExactGrowthProofRow.holds Try.pinned (OpenSpec.ofChange fnExactGrowthProofWrong)

/-- 'laws.FnExactCheckGrowth': WHATEVER THE INPUT: true; the input reads as it did. -/
def fnExactCheckGrowthSpec : ChangeSpec := { name := "fnExactCheckGrowth", fn := fun _ => fun
  | [d1, d2, d3, d4, d5] => { results := [.lit (.bool true)], args := [d1, d2, d3, d4, d5] }
  | _ => none }
def fnExactCheckGrowthRow : OpenClaim := { program := "ytfnmmpnmbommeaa", sum := "a67b8c4ac5509e50a3c5100437e3f9064e0f3dbb82c2f725f28d5f88b4aebc1d", func := "loop.example/g01174/laws.FnExactCheckGrowth", spec := "fnExactCheckGrowth", unfollowed := true, recurses := true, apart := false }
def FnExactCheckGrowthSaid : Prop := fnExactCheckGrowthRow.holds Try.pinned (OpenSpec.ofChange fnExactCheckGrowthSpec)

/-- ITS FALSE NEIGHBOUR: 'it returns false'. Refute it at one input. -/
def fnExactCheckGrowthWrong : ChangeSpec := { name := "fnExactCheckGrowth", fn := fun _ => fun
  | [d1, d2, d3, d4, d5] => { results := [.lit (.bool false)], args := [d1, d2, d3, d4, d5] }
  | _ => none }
def FnExactCheckGrowthWrongFalsely : Prop := fnExactCheckGrowthRow.holds Try.pinned (OpenSpec.ofChange fnExactCheckGrowthWrong)

/-- 'laws.FnExactRangeProof': WHATEVER THE INPUT: true; the input reads as it did. -/
def fnExactRangeProofSpec : ChangeSpec := { name := "fnExactRangeProof", fn := fun _ => fun
  | [d1, d2, d3] => { results := [.lit (.bool true)], args := [d1, d2, d3] }
  | _ => none }
def fnExactRangeProofRow : OpenClaim := { program := "ytfnmmpnmbommeaa", sum := "a67b8c4ac5509e50a3c5100437e3f9064e0f3dbb82c2f725f28d5f88b4aebc1d", func := "loop.example/g01174/laws.FnExactRangeProof", spec := "fnExactRangeProof", unfollowed := true, recurses := true, apart := false }
def FnExactRangeProofSaid : Prop := fnExactRangeProofRow.holds Try.pinned (OpenSpec.ofChange fnExactRangeProofSpec)

/-- ITS FALSE NEIGHBOUR: 'it returns false'. Refute it at one input. -/
def fnExactRangeProofWrong : ChangeSpec := { name := "fnExactRangeProof", fn := fun _ => fun
  | [d1, d2, d3] => { results := [.lit (.bool false)], args := [d1, d2, d3] }
  | _ => none }
def FnExactRangeProofWrongFalsely : Prop := fnExactRangeProofRow.holds Try.pinned (OpenSpec.ofChange fnExactRangeProofWrong)

/-- 'laws.FnExactCheckRange': WHATEVER THE INPUT: true; the input reads as it did. -/
def fnExactCheckRangeSpec : ChangeSpec := { name := "fnExactCheckRange", fn := fun _ => fun
  | [d1, d2, d3, d4, d5] => { results := [.lit (.bool true)], args := [d1, d2, d3, d4, d5] }
  | _ => none }
def fnExactCheckRangeRow : OpenClaim := { program := "ytfnmmpnmbommeaa", sum := "a67b8c4ac5509e50a3c5100437e3f9064e0f3dbb82c2f725f28d5f88b4aebc1d", func := "loop.example/g01174/laws.FnExactCheckRange", spec := "fnExactCheckRange", unfollowed := true, recurses := true, apart := false }
def FnExactCheckRangeSaid : Prop := fnExactCheckRangeRow.holds Try.pinned (OpenSpec.ofChange fnExactCheckRangeSpec)

/-- ITS FALSE NEIGHBOUR: 'it returns false'. Refute it at one input. -/
def fnExactCheckRangeWrong : ChangeSpec := { name := "fnExactCheckRange", fn := fun _ => fun
  | [d1, d2, d3, d4, d5] => { results := [.lit (.bool false)], args := [d1, d2, d3, d4, d5] }
  | _ => none }
def FnExactCheckRangeWrongFalsely : Prop := fnExactCheckRangeRow.holds Try.pinned (OpenSpec.ofChange fnExactCheckRangeWrong)

/-- 'laws.FnExactTreeDepth': WHATEVER THE INPUT: true; the input reads as it did. -/
def fnExactTreeDepthSpec : ChangeSpec := { name := "fnExactTreeDepth", fn := fun _ => fun
  | [d1, d2] => { results := [.lit (.bool true)], args := [d1, d2] }
  | _ => none }
def fnExactTreeDepthRow : OpenClaim := { program := "ytfnmmpnmbommeaa", sum := "a67b8c4ac5509e50a3c5100437e3f9064e0f3dbb82c2f725f28d5f88b4aebc1d", func := "loop.example/g01174/laws.FnExactTreeDepth", spec := "fnExactTreeDepth", recurses := true, apart := false }
def FnExactTreeDepthSaid : Prop := fnExactTreeDepthRow.holds Try.pinned (OpenSpec.ofChange fnExactTreeDepthSpec)

/-- ITS FALSE NEIGHBOUR: 'it returns false'. Refute it at one input. -/
def fnExactTreeDepthWrong : ChangeSpec := { name := "fnExactTreeDepth", fn := fun _ => fun
  | [d1, d2] => { results := [.lit (.bool false)], args := [d1, d2] }
  | _ => none }
def FnExactTreeDepthWrongFalsely : Prop := fnExactTreeDepthRow.holds Try.pinned (OpenSpec.ofChange fnExactTreeDepthWrong)

/-- 'laws.FnExactNodeKey': WHATEVER THE INPUT: true; the input reads as it did. -/
def fnExactNodeKeySpec : ChangeSpec := { name := "fnExactNodeKey", fn := fun _ => fun
  | [d1, d2] => { results := [.lit (.bool true)], args := [d1, d2] }
  | _ => none }
def fnExactNodeKeyRow : OpenClaim := { program := "ytfnmmpnmbommeaa", sum := "a67b8c4ac5509e50a3c5100437e3f9064e0f3dbb82c2f725f28d5f88b4aebc1d", func := "loop.example/g01174/laws.FnExactNodeKey", spec := "fnExactNodeKey", unfollowed := true, recurses := true, apart := false }
def FnExactNodeKeySaid : Prop := fnExactNodeKeyRow.holds Try.pinned (OpenSpec.ofChange fnExactNodeKeySpec)

/-- ITS FALSE NEIGHBOUR: 'it returns false'. Refute it at one input. -/
def fnExactNodeKeyWrong : ChangeSpec := { name := "fnExactNodeKey", fn := fun _ => fun
  | [d1, d2] => { results := [.lit (.bool false)], args := [d1, d2] }
  | _ => none }
def FnExactNodeKeyWrongFalsely : Prop := fnExactNodeKeyRow.holds Try.pinned (OpenSpec.ofChange fnExactNodeKeyWrong)

/- THE SECOND FORM. 'bulk': how many values and letters a reading holds, each counted each time it is reached (what is shared counts as often as it is met; a slice's spare places count too). A statement '..UptoSaid' is the law's where the arguments, and the package variables that the reading takes, are together of bulk at most 1048576: NARROWER than '..Said'. Prove '..Said' where nothing that the law and all that it calls make is longer than what came in: it says more and counts as full. Else prove '..UptoSaid'. A law counts once. -/
mutual
def uptoBulk {H : Type} : DataW H → Nat
  | .lit (.string bytes) => bytes.length + 1
  | .lit _ => 1
  | .nil => 1
  | .ptr d => uptoBulk d + 1
  | .slice elems spare => uptoBulkAll elems + uptoBulkAll spare + 1
  | .agg parts => uptoBulkAll parts + 1
  | .iface _ d => uptoBulk d + 1
  | .map entries => uptoBulkEntries entries + 1
  | .held _ => 1
def uptoBulkAll {H : Type} : List (DataW H) → Nat
  | [] => 0
  | d :: r => uptoBulk d + uptoBulkAll r
def uptoBulkEntries {H : Type} : List (Lit × DataW H) → Nat
  | [] => 0
  | x :: r => uptoBulkEntry x + uptoBulkEntries r
def uptoBulkEntry {H : Type} : Lit × DataW H → Nat
  | (.string bytes, d) => bytes.length + uptoBulk d + 1
  | (_, d) => uptoBulk d + 1
 end
def uptoSmall : (H : Type) → List (DataW H) → Bool := fun _ ds => decide (uptoBulkAll ds ≤ 1048576)
def OpenSpec.upto (s : _root_.Go.ChangeSpec) : _root_.Go.OpenSpec := { _root_.Go.OpenSpec.ofChange s with cond := some uptoSmall }

/-- 'laws.FnPeaks', WHERE WHAT IT READS IS OF BULK AT MOST 1048576: true; the input reads as it did. -/
def fnPeaksUptoRow : OpenClaim := { program := "ytfnmmpnmbommeaa", sum := "a67b8c4ac5509e50a3c5100437e3f9064e0f3dbb82c2f725f28d5f88b4aebc1d", func := "loop.example/g01174/laws.FnPeaks", spec := "fnPeaks", unfollowed := true, recurses := true, apart := false, narrowed := true }
def FnPeaksUptoSaid : Prop := fnPeaksUptoRow.holds Try.pinned (OpenSpec.upto fnPeaksSpec)

/-- 'laws.FnGrowth', WHERE WHAT IT READS IS OF BULK AT MOST 1048576: true; the input reads as it did. -/
def fnGrowthUptoRow : OpenClaim := { program := "ytfnmmpnmbommeaa", sum := "a67b8c4ac5509e50a3c5100437e3f9064e0f3dbb82c2f725f28d5f88b4aebc1d", func := "loop.example/g01174/laws.FnGrowth", spec := "fnGrowth", unfollowed := true, recurses := true, apart := false, narrowed := true }
def FnGrowthUptoSaid : Prop := fnGrowthUptoRow.holds Try.pinned (OpenSpec.upto fnGrowthSpec)

/-- 'laws.FnRangeProofs', WHERE WHAT IT READS IS OF BULK AT MOST 1048576: true; the input reads as it did. -/
def fnRangeProofsUptoRow : OpenClaim := { program := "ytfnmmpnmbommeaa", sum := "a67b8c4ac5509e50a3c5100437e3f9064e0f3dbb82c2f725f28d5f88b4aebc1d", func := "loop.example/g01174/laws.FnRangeProofs", spec := "fnRangeProofs", unfollowed := true, recurses := true, apart := false, narrowed := true }
def FnRangeProofsUptoSaid : Prop := fnRangeProofsUptoRow.holds Try.pinned (OpenSpec.upto fnRangeProofsSpec)

/-- 'laws.FnExactClashOf', WHERE WHAT IT READS IS OF BULK AT MOST 1048576: true; the input reads as it did. -/
def fnExactClashOfUptoRow : OpenClaim := { program := "ytfnmmpnmbommeaa", sum := "a67b8c4ac5509e50a3c5100437e3f9064e0f3dbb82c2f725f28d5f88b4aebc1d", func := "loop.example/g01174/laws.FnExactClashOf", spec := "fnExactClashOf", unfollowed := true, recurses := true, apart := false, narrowed := true }
def FnExactClashOfUptoSaid : Prop := fnExactClashOfUptoRow.holds Try.pinned (OpenSpec.upto fnExactClashOfSpec)

/-- 'laws.FnExactPeaksOf', WHERE WHAT IT READS IS OF BULK AT MOST 1048576: true; the input reads as it did. -/
def fnExactPeaksOfUptoRow : OpenClaim := { program := "ytfnmmpnmbommeaa", sum := "a67b8c4ac5509e50a3c5100437e3f9064e0f3dbb82c2f725f28d5f88b4aebc1d", func := "loop.example/g01174/laws.FnExactPeaksOf", spec := "fnExactPeaksOf", unfollowed := true, recurses := true, apart := false, narrowed := true }
def FnExactPeaksOfUptoSaid : Prop := fnExactPeaksOfUptoRow.holds Try.pinned (OpenSpec.upto fnExactPeaksOfSpec)

/-- 'laws.FnExactListKey', WHERE WHAT IT READS IS OF BULK AT MOST 1048576: true; the input reads as it did. -/
def fnExactListKeyUptoRow : OpenClaim := { program := "ytfnmmpnmbommeaa", sum := "a67b8c4ac5509e50a3c5100437e3f9064e0f3dbb82c2f725f28d5f88b4aebc1d", func := "loop.example/g01174/laws.FnExactListKey", spec := "fnExactListKey", unfollowed := true, recurses := true, apart := false, narrowed := true }
def FnExactListKeyUptoSaid : Prop := fnExactListKeyUptoRow.holds Try.pinned (OpenSpec.upto fnExactListKeySpec)

/-- 'laws.FnExactKeyOfPeaks', WHERE WHAT IT READS IS OF BULK AT MOST 1048576: true; the input reads as it did. -/
def fnExactKeyOfPeaksUptoRow : OpenClaim := { program := "ytfnmmpnmbommeaa", sum := "a67b8c4ac5509e50a3c5100437e3f9064e0f3dbb82c2f725f28d5f88b4aebc1d", func := "loop.example/g01174/laws.FnExactKeyOfPeaks", spec := "fnExactKeyOfPeaks", unfollowed := true, recurses := true, apart := false, narrowed := true }
def FnExactKeyOfPeaksUptoSaid : Prop := fnExactKeyOfPeaksUptoRow.holds Try.pinned (OpenSpec.upto fnExactKeyOfPeaksSpec)

/-- 'laws.FnExactAddLeaf', WHERE WHAT IT READS IS OF BULK AT MOST 1048576: true; the input reads as it did. -/
def fnExactAddLeafUptoRow : OpenClaim := { program := "ytfnmmpnmbommeaa", sum := "a67b8c4ac5509e50a3c5100437e3f9064e0f3dbb82c2f725f28d5f88b4aebc1d", func := "loop.example/g01174/laws.FnExactAddLeaf", spec := "fnExactAddLeaf", unfollowed := true, recurses := true, apart := false, narrowed := true }
def FnExactAddLeafUptoSaid : Prop := fnExactAddLeafUptoRow.holds Try.pinned (OpenSpec.upto fnExactAddLeafSpec)

/-- 'laws.FnExactGrowthProof', WHERE WHAT IT READS IS OF BULK AT MOST 1048576: true; the input reads as it did. -/
def fnExactGrowthProofUptoRow : OpenClaim := { program := "ytfnmmpnmbommeaa", sum := "a67b8c4ac5509e50a3c5100437e3f9064e0f3dbb82c2f725f28d5f88b4aebc1d", func := "loop.example/g01174/laws.FnExactGrowthProof", spec := "fnExactGrowthProof", unfollowed := true, recurses := true, apart := false, narrowed := true }
def FnExactGrowthProofUptoSaid : Prop := fnExactGrowthProofUptoRow.holds Try.pinned (OpenSpec.upto fnExactGrowthProofSpec)

/-- 'laws.FnExactCheckGrowth', WHERE WHAT IT READS IS OF BULK AT MOST 1048576: true; the input reads as it did. -/
def fnExactCheckGrowthUptoRow : OpenClaim := { program := "ytfnmmpnmbommeaa", sum := "a67b8c4ac5509e50a3c5100437e3f9064e0f3dbb82c2f725f28d5f88b4aebc1d", func := "loop.example/g01174/laws.FnExactCheckGrowth", spec := "fnExactCheckGrowth", unfollowed := true, recurses := true, apart := false, narrowed := true }
def FnExactCheckGrowthUptoSaid : Prop := fnExactCheckGrowthUptoRow.holds Try.pinned (OpenSpec.upto fnExactCheckGrowthSpec)

/-- 'laws.FnExactRangeProof', WHERE WHAT IT READS IS OF BULK AT MOST 1048576: true; the input reads as it did. -/
def fnExactRangeProofUptoRow : OpenClaim := { program := "ytfnmmpnmbommeaa", sum := "a67b8c4ac5509e50a3c5100437e3f9064e0f3dbb82c2f725f28d5f88b4aebc1d", func := "loop.example/g01174/laws.FnExactRangeProof", spec := "fnExactRangeProof", unfollowed := true, recurses := true, apart := false, narrowed := true }
def FnExactRangeProofUptoSaid : Prop := fnExactRangeProofUptoRow.holds Try.pinned (OpenSpec.upto fnExactRangeProofSpec)

/-- 'laws.FnExactCheckRange', WHERE WHAT IT READS IS OF BULK AT MOST 1048576: true; the input reads as it did. -/
def fnExactCheckRangeUptoRow : OpenClaim := { program := "ytfnmmpnmbommeaa", sum := "a67b8c4ac5509e50a3c5100437e3f9064e0f3dbb82c2f725f28d5f88b4aebc1d", func := "loop.example/g01174/laws.FnExactCheckRange", spec := "fnExactCheckRange", unfollowed := true, recurses := true, apart := false, narrowed := true }
def FnExactCheckRangeUptoSaid : Prop := fnExactCheckRangeUptoRow.holds Try.pinned (OpenSpec.upto fnExactCheckRangeSpec)

/-- 'laws.FnExactTreeDepth', WHERE WHAT IT READS IS OF BULK AT MOST 1048576: true; the input reads as it did. -/
def fnExactTreeDepthUptoRow : OpenClaim := { program := "ytfnmmpnmbommeaa", sum := "a67b8c4ac5509e50a3c5100437e3f9064e0f3dbb82c2f725f28d5f88b4aebc1d", func := "loop.example/g01174/laws.FnExactTreeDepth", spec := "fnExactTreeDepth", recurses := true, apart := false, narrowed := true }
def FnExactTreeDepthUptoSaid : Prop := fnExactTreeDepthUptoRow.holds Try.pinned (OpenSpec.upto fnExactTreeDepthSpec)

/-- 'laws.FnExactNodeKey', WHERE WHAT IT READS IS OF BULK AT MOST 1048576: true; the input reads as it did. -/
def fnExactNodeKeyUptoRow : OpenClaim := { program := "ytfnmmpnmbommeaa", sum := "a67b8c4ac5509e50a3c5100437e3f9064e0f3dbb82c2f725f28d5f88b4aebc1d", func := "loop.example/g01174/laws.FnExactNodeKey", spec := "fnExactNodeKey", unfollowed := true, recurses := true, apart := false, narrowed := true }
def FnExactNodeKeyUptoSaid : Prop := fnExactNodeKeyUptoRow.holds Try.pinned (OpenSpec.upto fnExactNodeKeySpec)

end Rows
end Go.Proofs.Ytfnmmpnmbommeaa
