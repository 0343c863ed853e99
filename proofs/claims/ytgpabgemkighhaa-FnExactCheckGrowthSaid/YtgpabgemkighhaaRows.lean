/-
  No cell of these rows narrows 'for every input' (looked for: loops, veiled, ifaces, maps, wideKeys, modest, calm, conditions, laid).
  DERIVED. THE GIVEN ROWS OF THIS SEAT. 12 by the template 'for every input the law returns true; each argument reads behind the call as it read before'; 0 by the template 'total and deterministic' (their statements: YtgpabgemkighhaaTotals.lean).
  GIVEN WITH THE SEED: the statements are not yours to turn. If you find one false, say at which input.
  Laid BY PROGRAM, IN A SANDBOX (cutbox-rows.mjs): the forced cells as the released guide's own fill.sh prints them over the translation 52664ebd286837b6… (all of the seat's roots in one cut). By AI agents, Wed Nov 11 2026. No macro, syntax, notation, axiom, sorry.
-/
import Derived.Test.YtgpabgemkighhaaChecked
import GoSem.Claim
import GoSem.ClaimJoined
import GoSem.ClaimMapViews
import Derived.JoinedTies
import Derived.KernelRfl
namespace Go.Proofs.Ytgpabgemkighhaa
/- THE CELL 'sum', in the pinned program and in every row, IS THE sha256 OF THE DUMP (.gsa) THAT YtgpabgemkighhaaProg.lean LOADS. Nothing in Lean hashes anything: it is a label: what it is worth is what the hold of that sum in a sandbox is worth. -/
noncomputable def Try.pinned : Pinned := { name := "ytgpabgemkighhaa", sum := "52664ebd286837b6f9e31369f4c4f94d43d2b13aa72afda3cb2920be387bbb4e", checked := Try.checked }
namespace Rows
def none {H : Type} : Left H := { results := [], args := [] }

/-- 'laws.FnExactNodeKey': WHATEVER THE INPUT: true; the input reads as it did. -/
def fnExactNodeKeySpec : ChangeSpec := { name := "fnExactNodeKey", fn := fun _ => fun
  | [d1, d2] => { results := [.lit (.bool true)], args := [d1, d2] }
  | _ => none }
def fnExactNodeKeyRow : OpenClaim := { program := "ytgpabgemkighhaa", sum := "52664ebd286837b6f9e31369f4c4f94d43d2b13aa72afda3cb2920be387bbb4e", func := "loop.example/g01174/laws.FnExactNodeKey", spec := "fnExactNodeKey", unfollowed := true, recurses := true, apart := false }
def FnExactNodeKeySaid : Prop := fnExactNodeKeyRow.holds Try.pinned (OpenSpec.ofChange fnExactNodeKeySpec)

/-- ITS FALSE NEIGHBOUR: 'it returns false'. Refute it at one input. -/
def fnExactNodeKeyWrong : ChangeSpec := { name := "fnExactNodeKey", fn := fun _ => fun
  | [d1, d2] => { results := [.lit (.bool false)], args := [d1, d2] }
  | _ => none }
def FnExactNodeKeyWrongFalsely : Prop := fnExactNodeKeyRow.holds Try.pinned (OpenSpec.ofChange fnExactNodeKeyWrong)

/-- 'laws.FnExactTreeDepth': WHATEVER THE INPUT: true; the input reads as it did. -/
def fnExactTreeDepthSpec : ChangeSpec := { name := "fnExactTreeDepth", fn := fun _ => fun
  | [d1, d2] => { results := [.lit (.bool true)], args := [d1, d2] }
  | _ => none }
def fnExactTreeDepthRow : OpenClaim := { program := "ytgpabgemkighhaa", sum := "52664ebd286837b6f9e31369f4c4f94d43d2b13aa72afda3cb2920be387bbb4e", func := "loop.example/g01174/laws.FnExactTreeDepth", spec := "fnExactTreeDepth", recurses := true, apart := false }
def FnExactTreeDepthSaid : Prop := fnExactTreeDepthRow.holds Try.pinned (OpenSpec.ofChange fnExactTreeDepthSpec)

/-- ITS FALSE NEIGHBOUR: 'it returns false'. Refute it at one input. -/
def fnExactTreeDepthWrong : ChangeSpec := { name := "fnExactTreeDepth", fn := fun _ => fun
  | [d1, d2] => { results := [.lit (.bool false)], args := [d1, d2] }
  | _ => none }
def FnExactTreeDepthWrongFalsely : Prop := fnExactTreeDepthRow.holds Try.pinned (OpenSpec.ofChange fnExactTreeDepthWrong)

/-- 'laws.FnExactListKey': WHATEVER THE INPUT: true; the input reads as it did. -/
def fnExactListKeySpec : ChangeSpec := { name := "fnExactListKey", fn := fun _ => fun
  | [d] => { results := [.lit (.bool true)], args := [d] }
  | _ => none }
def fnExactListKeyRow : OpenClaim := { program := "ytgpabgemkighhaa", sum := "52664ebd286837b6f9e31369f4c4f94d43d2b13aa72afda3cb2920be387bbb4e", func := "loop.example/g01174/laws.FnExactListKey", spec := "fnExactListKey", unfollowed := true, recurses := true, apart := false }
def FnExactListKeySaid : Prop := fnExactListKeyRow.holds Try.pinned (OpenSpec.ofChange fnExactListKeySpec)

/-- ITS FALSE NEIGHBOUR: 'it returns false'. Refute it at one input. -/
def fnExactListKeyWrong : ChangeSpec := { name := "fnExactListKey", fn := fun _ => fun
  | [d] => { results := [.lit (.bool false)], args := [d] }
  | _ => none }
def FnExactListKeyWrongFalsely : Prop := fnExactListKeyRow.holds Try.pinned (OpenSpec.ofChange fnExactListKeyWrong)

/-- 'laws.FnExactKeyOfPeaks': WHATEVER THE INPUT: true; the input reads as it did. -/
def fnExactKeyOfPeaksSpec : ChangeSpec := { name := "fnExactKeyOfPeaks", fn := fun _ => fun
  | [d1, d2] => { results := [.lit (.bool true)], args := [d1, d2] }
  | _ => none }
def fnExactKeyOfPeaksRow : OpenClaim := { program := "ytgpabgemkighhaa", sum := "52664ebd286837b6f9e31369f4c4f94d43d2b13aa72afda3cb2920be387bbb4e", func := "loop.example/g01174/laws.FnExactKeyOfPeaks", spec := "fnExactKeyOfPeaks", unfollowed := true, recurses := true, apart := false }
def FnExactKeyOfPeaksSaid : Prop := fnExactKeyOfPeaksRow.holds Try.pinned (OpenSpec.ofChange fnExactKeyOfPeaksSpec)

/-- ITS FALSE NEIGHBOUR: 'it returns false'. Refute it at one input. -/
def fnExactKeyOfPeaksWrong : ChangeSpec := { name := "fnExactKeyOfPeaks", fn := fun _ => fun
  | [d1, d2] => { results := [.lit (.bool false)], args := [d1, d2] }
  | _ => none }
def FnExactKeyOfPeaksWrongFalsely : Prop := fnExactKeyOfPeaksRow.holds Try.pinned (OpenSpec.ofChange fnExactKeyOfPeaksWrong)

/-- 'laws.FnExactAddLeaf': WHATEVER THE INPUT: true; the input reads as it did. -/
def fnExactAddLeafSpec : ChangeSpec := { name := "fnExactAddLeaf", fn := fun _ => fun
  | [d1, d2, d3] => { results := [.lit (.bool true)], args := [d1, d2, d3] }
  | _ => none }
def fnExactAddLeafRow : OpenClaim := { program := "ytgpabgemkighhaa", sum := "52664ebd286837b6f9e31369f4c4f94d43d2b13aa72afda3cb2920be387bbb4e", func := "loop.example/g01174/laws.FnExactAddLeaf", spec := "fnExactAddLeaf", unfollowed := true, recurses := true, apart := false }
def FnExactAddLeafSaid : Prop := fnExactAddLeafRow.holds Try.pinned (OpenSpec.ofChange fnExactAddLeafSpec)

/-- ITS FALSE NEIGHBOUR: 'it returns false'. Refute it at one input. -/
def fnExactAddLeafWrong : ChangeSpec := { name := "fnExactAddLeaf", fn := fun _ => fun
  | [d1, d2, d3] => { results := [.lit (.bool false)], args := [d1, d2, d3] }
  | _ => none }
def FnExactAddLeafWrongFalsely : Prop := fnExactAddLeafRow.holds Try.pinned (OpenSpec.ofChange fnExactAddLeafWrong)

/-- 'laws.FnExactPeaksOf': WHATEVER THE INPUT: true; the input reads as it did. -/
def fnExactPeaksOfSpec : ChangeSpec := { name := "fnExactPeaksOf", fn := fun _ => fun
  | [d] => { results := [.lit (.bool true)], args := [d] }
  | _ => none }
def fnExactPeaksOfRow : OpenClaim := { program := "ytgpabgemkighhaa", sum := "52664ebd286837b6f9e31369f4c4f94d43d2b13aa72afda3cb2920be387bbb4e", func := "loop.example/g01174/laws.FnExactPeaksOf", spec := "fnExactPeaksOf", unfollowed := true, recurses := true, apart := false }
def FnExactPeaksOfSaid : Prop := fnExactPeaksOfRow.holds Try.pinned (OpenSpec.ofChange fnExactPeaksOfSpec)

/-- ITS FALSE NEIGHBOUR: 'it returns false'. Refute it at one input. -/
def fnExactPeaksOfWrong : ChangeSpec := { name := "fnExactPeaksOf", fn := fun _ => fun
  | [d] => { results := [.lit (.bool false)], args := [d] }
  | _ => none }
def FnExactPeaksOfWrongFalsely : Prop := fnExactPeaksOfRow.holds Try.pinned (OpenSpec.ofChange fnExactPeaksOfWrong)

/-- 'laws.FnExactCheckRange': WHATEVER THE INPUT: true; the input reads as it did. -/
def fnExactCheckRangeSpec : ChangeSpec := { name := "fnExactCheckRange", fn := fun _ => fun
  | [d1, d2, d3, d4, d5] => { results := [.lit (.bool true)], args := [d1, d2, d3, d4, d5] }
  | _ => none }
def fnExactCheckRangeRow : OpenClaim := { program := "ytgpabgemkighhaa", sum := "52664ebd286837b6f9e31369f4c4f94d43d2b13aa72afda3cb2920be387bbb4e", func := "loop.example/g01174/laws.FnExactCheckRange", spec := "fnExactCheckRange", unfollowed := true, recurses := true, apart := false }
def FnExactCheckRangeSaid : Prop := fnExactCheckRangeRow.holds Try.pinned (OpenSpec.ofChange fnExactCheckRangeSpec)

/-- ITS FALSE NEIGHBOUR: 'it returns false'. Refute it at one input. -/
def fnExactCheckRangeWrong : ChangeSpec := { name := "fnExactCheckRange", fn := fun _ => fun
  | [d1, d2, d3, d4, d5] => { results := [.lit (.bool false)], args := [d1, d2, d3, d4, d5] }
  | _ => none }
def FnExactCheckRangeWrongFalsely : Prop := fnExactCheckRangeRow.holds Try.pinned (OpenSpec.ofChange fnExactCheckRangeWrong)

/-- 'laws.FnExactCheckGrowth': WHATEVER THE INPUT: true; the input reads as it did. -/
def fnExactCheckGrowthSpec : ChangeSpec := { name := "fnExactCheckGrowth", fn := fun _ => fun
  | [d1, d2, d3, d4, d5] => { results := [.lit (.bool true)], args := [d1, d2, d3, d4, d5] }
  | _ => none }
def fnExactCheckGrowthRow : OpenClaim := { program := "ytgpabgemkighhaa", sum := "52664ebd286837b6f9e31369f4c4f94d43d2b13aa72afda3cb2920be387bbb4e", func := "loop.example/g01174/laws.FnExactCheckGrowth", spec := "fnExactCheckGrowth", unfollowed := true, recurses := true, apart := false }
def FnExactCheckGrowthSaid : Prop := fnExactCheckGrowthRow.holds Try.pinned (OpenSpec.ofChange fnExactCheckGrowthSpec)

/-- ITS FALSE NEIGHBOUR: 'it returns false'. Refute it at one input. -/
def fnExactCheckGrowthWrong : ChangeSpec := { name := "fnExactCheckGrowth", fn := fun _ => fun
  | [d1, d2, d3, d4, d5] => { results := [.lit (.bool false)], args := [d1, d2, d3, d4, d5] }
  | _ => none }
def FnExactCheckGrowthWrongFalsely : Prop := fnExactCheckGrowthRow.holds Try.pinned (OpenSpec.ofChange fnExactCheckGrowthWrong)

/-- 'laws.FnExactProofOf': WHATEVER THE INPUT: true; the input reads as it did. -/
def fnExactProofOfSpec : ChangeSpec := { name := "fnExactProofOf", fn := fun _ => fun
  | [d1, d2] => { results := [.lit (.bool true)], args := [d1, d2] }
  | _ => none }
def fnExactProofOfRow : OpenClaim := { program := "ytgpabgemkighhaa", sum := "52664ebd286837b6f9e31369f4c4f94d43d2b13aa72afda3cb2920be387bbb4e", func := "loop.example/g01174/laws.FnExactProofOf", spec := "fnExactProofOf", unfollowed := true, recurses := true, apart := false }
def FnExactProofOfSaid : Prop := fnExactProofOfRow.holds Try.pinned (OpenSpec.ofChange fnExactProofOfSpec)

/-- ITS FALSE NEIGHBOUR: 'it returns false'. Refute it at one input. -/
def fnExactProofOfWrong : ChangeSpec := { name := "fnExactProofOf", fn := fun _ => fun
  | [d1, d2] => { results := [.lit (.bool false)], args := [d1, d2] }
  | _ => none }
def FnExactProofOfWrongFalsely : Prop := fnExactProofOfRow.holds Try.pinned (OpenSpec.ofChange fnExactProofOfWrong)

/-- 'laws.FnExactRangeProof': WHATEVER THE INPUT: true; the input reads as it did. -/
def fnExactRangeProofSpec : ChangeSpec := { name := "fnExactRangeProof", fn := fun _ => fun
  | [d1, d2, d3] => { results := [.lit (.bool true)], args := [d1, d2, d3] }
  | _ => none }
def fnExactRangeProofRow : OpenClaim := { program := "ytgpabgemkighhaa", sum := "52664ebd286837b6f9e31369f4c4f94d43d2b13aa72afda3cb2920be387bbb4e", func := "loop.example/g01174/laws.FnExactRangeProof", spec := "fnExactRangeProof", unfollowed := true, recurses := true, apart := false }
def FnExactRangeProofSaid : Prop := fnExactRangeProofRow.holds Try.pinned (OpenSpec.ofChange fnExactRangeProofSpec)

/-- ITS FALSE NEIGHBOUR: 'it returns false'. Refute it at one input. -/
def fnExactRangeProofWrong : ChangeSpec := { name := "fnExactRangeProof", fn := fun _ => fun
  | [d1, d2, d3] => { results := [.lit (.bool false)], args := [d1, d2, d3] }
  | _ => none }
def FnExactRangeProofWrongFalsely : Prop := fnExactRangeProofRow.holds Try.pinned (OpenSpec.ofChange fnExactRangeProofWrong)

/-- 'laws.FnExactGrowthProof': WHATEVER THE INPUT: true; the input reads as it did. -/
def fnExactGrowthProofSpec : ChangeSpec := { name := "fnExactGrowthProof", fn := fun _ => fun
  | [d1, d2] => { results := [.lit (.bool true)], args := [d1, d2] }
  | _ => none }
def fnExactGrowthProofRow : OpenClaim := { program := "ytgpabgemkighhaa", sum := "52664ebd286837b6f9e31369f4c4f94d43d2b13aa72afda3cb2920be387bbb4e", func := "loop.example/g01174/laws.FnExactGrowthProof", spec := "fnExactGrowthProof", unfollowed := true, recurses := true, apart := false }
def FnExactGrowthProofSaid : Prop := fnExactGrowthProofRow.holds Try.pinned (OpenSpec.ofChange fnExactGrowthProofSpec)

/-- ITS FALSE NEIGHBOUR: 'it returns false'. Refute it at one input. -/
def fnExactGrowthProofWrong : ChangeSpec := { name := "fnExactGrowthProof", fn := fun _ => fun
  | [d1, d2] => { results := [.lit (.bool false)], args := [d1, d2] }
  | _ => none }
def FnExactGrowthProofWrongFalsely : Prop := fnExactGrowthProofRow.holds Try.pinned (OpenSpec.ofChange fnExactGrowthProofWrong)

/-- 'laws.FnExactFeedHasher': WHATEVER THE INPUT: true; the input reads as it did. -/
def fnExactFeedHasherSpec : ChangeSpec := { name := "fnExactFeedHasher", fn := fun _ => fun
  | [d1, d2] => { results := [.lit (.bool true)], args := [d1, d2] }
  | _ => none }
def fnExactFeedHasherRow : OpenClaim := { program := "ytgpabgemkighhaa", sum := "52664ebd286837b6f9e31369f4c4f94d43d2b13aa72afda3cb2920be387bbb4e", func := "loop.example/g01174/laws.FnExactFeedHasher", spec := "fnExactFeedHasher", unfollowed := true, recurses := true, apart := false }
def FnExactFeedHasherSaid : Prop := fnExactFeedHasherRow.holds Try.pinned (OpenSpec.ofChange fnExactFeedHasherSpec)

/-- ITS FALSE NEIGHBOUR: 'it returns false'. Refute it at one input. -/
def fnExactFeedHasherWrong : ChangeSpec := { name := "fnExactFeedHasher", fn := fun _ => fun
  | [d1, d2] => { results := [.lit (.bool false)], args := [d1, d2] }
  | _ => none }
def FnExactFeedHasherWrongFalsely : Prop := fnExactFeedHasherRow.holds Try.pinned (OpenSpec.ofChange fnExactFeedHasherWrong)

/- THE SECOND FORM. 'bulk': how many values and letters a reading holds, each counted each time it is reached (what is shared counts as often as it is met; a slice's spare places count too). A statement '..UptoSaid' is the law's where the arguments, and the package variables that the reading takes, are together of bulk at most 1048576: NARROWER than '..Said'. Prove '..Said' where nothing that the law and all that it calls make is longer than what came in: it says more and counts as full. Else prove '..UptoSaid'. A law counts once. -/
mutual
def uptoBulk {H : Type} : DataW H → Nat
  | .lit (.string bytes) => bytes.length + 1
  | .lit _ => 1
  | .nil => 1
  | .ptr d => uptoBulk d + 1
  | .slice elems spare => uptoBulkAll elems + uptoBulkAll spare + 1
  | .agg parts => uptoBulkAll parts + 1
  | .iface _ d => uptoBulk d + 1
  | .map entries => uptoBulkEntries entries + 1
  | .held _ => 1
def uptoBulkAll {H : Type} : List (DataW H) → Nat
  | [] => 0
  | d :: r => uptoBulk d + uptoBulkAll r
def uptoBulkEntries {H : Type} : List (Lit × DataW H) → Nat
  | [] => 0
  | x :: r => uptoBulkEntry x + uptoBulkEntries r
def uptoBulkEntry {H : Type} : Lit × DataW H → Nat
  | (.string bytes, d) => bytes.length + uptoBulk d + 1
  | (_, d) => uptoBulk d + 1
 end
def uptoSmall : (H : Type) → List (DataW H) → Bool := fun _ ds => decide (uptoBulkAll ds ≤ 1048576)
def OpenSpec.upto (s : _root_.Go.ChangeSpec) : _root_.Go.OpenSpec := { _root_.Go.OpenSpec.ofChange s with cond := some uptoSmall }

/-- 'laws.FnExactNodeKey', WHERE WHAT IT READS IS OF BULK AT MOST 1048576: true; the input reads as it did. -/
def fnExactNodeKeyUptoRow : OpenClaim := { program := "ytgpabgemkighhaa", sum := "52664ebd286837b6f9e31369f4c4f94d43d2b13aa72afda3cb2920be387bbb4e", func := "loop.example/g01174/laws.FnExactNodeKey", spec := "fnExactNodeKey", unfollowed := true, recurses := true, apart := false, narrowed := true }
def FnExactNodeKeyUptoSaid : Prop := fnExactNodeKeyUptoRow.holds Try.pinned (OpenSpec.upto fnExactNodeKeySpec)

/-- 'laws.FnExactTreeDepth', WHERE WHAT IT READS IS OF BULK AT MOST 1048576: true; the input reads as it did. -/
def fnExactTreeDepthUptoRow : OpenClaim := { program := "ytgpabgemkighhaa", sum := "52664ebd286837b6f9e31369f4c4f94d43d2b13aa72afda3cb2920be387bbb4e", func := "loop.example/g01174/laws.FnExactTreeDepth", spec := "fnExactTreeDepth", recurses := true, apart := false, narrowed := true }
def FnExactTreeDepthUptoSaid : Prop := fnExactTreeDepthUptoRow.holds Try.pinned (OpenSpec.upto fnExactTreeDepthSpec)

/-- 'laws.FnExactListKey', WHERE WHAT IT READS IS OF BULK AT MOST 1048576: true; the input reads as it did. -/
def fnExactListKeyUptoRow : OpenClaim := { program := "ytgpabgemkighhaa", sum := "52664ebd286837b6f9e31369f4c4f94d43d2b13aa72afda3cb2920be387bbb4e", func := "loop.example/g01174/laws.FnExactListKey", spec := "fnExactListKey", unfollowed := true, recurses := true, apart := false, narrowed := true }
def FnExactListKeyUptoSaid : Prop := fnExactListKeyUptoRow.holds Try.pinned (OpenSpec.upto fnExactListKeySpec)

/-- 'laws.FnExactKeyOfPeaks', WHERE WHAT IT READS IS OF BULK AT MOST 1048576: true; the input reads as it did. -/
def fnExactKeyOfPeaksUptoRow : OpenClaim := { program := "ytgpabgemkighhaa", sum := "52664ebd286837b6f9e31369f4c4f94d43d2b13aa72afda3cb2920be387bbb4e", func := "loop.example/g01174/laws.FnExactKeyOfPeaks", spec := "fnExactKeyOfPeaks", unfollowed := true, recurses := true, apart := false, narrowed := true }
def FnExactKeyOfPeaksUptoSaid : Prop := fnExactKeyOfPeaksUptoRow.holds Try.pinned (OpenSpec.upto fnExactKeyOfPeaksSpec)

/-- 'laws.FnExactAddLeaf', WHERE WHAT IT READS IS OF BULK AT MOST 1048576: true; the input reads as it did. -/
def fnExactAddLeafUptoRow : OpenClaim := { program := "ytgpabgemkighhaa", sum := "52664ebd286837b6f9e31369f4c4f94d43d2b13aa72afda3cb2920be387bbb4e", func := "loop.example/g01174/laws.FnExactAddLeaf", spec := "fnExactAddLeaf", unfollowed := true, recurses := true, apart := false, narrowed := true }
def FnExactAddLeafUptoSaid : Prop := fnExactAddLeafUptoRow.holds Try.pinned (OpenSpec.upto fnExactAddLeafSpec)

/-- 'laws.FnExactPeaksOf', WHERE WHAT IT READS IS OF BULK AT MOST 1048576: true; the input reads as it did. -/
def fnExactPeaksOfUptoRow : OpenClaim := { program := "ytgpabgemkighhaa", sum := "52664ebd286837b6f9e31369f4c4f94d43d2b13aa72afda3cb2920be387bbb4e", func := "loop.example/g01174/laws.FnExactPeaksOf", spec := "fnExactPeaksOf", unfollowed := true, recurses := true, apart := false, narrowed := true }
def FnExactPeaksOfUptoSaid : Prop := fnExactPeaksOfUptoRow.holds Try.pinned (OpenSpec.upto fnExactPeaksOfSpec)

/-- 'laws.FnExactCheckRange', WHERE WHAT IT READS IS OF BULK AT MOST 1048576: true; the input reads as it did. -/
def fnExactCheckRangeUptoRow : OpenClaim := { program := "ytgpabgemkighhaa", sum := "52664ebd286837b6f9e31369f4c4f94d43d2b13aa72afda3cb2920be387bbb4e", func := "loop.example/g01174/laws.FnExactCheckRange", spec := "fnExactCheckRange", unfollowed := true, recurses := true, apart := false, narrowed := true }
def FnExactCheckRangeUptoSaid : Prop := fnExactCheckRangeUptoRow.holds Try.pinned (OpenSpec.upto fnExactCheckRangeSpec)

/-- 'laws.FnExactCheckGrowth', WHERE WHAT IT READS IS OF BULK AT MOST 1048576: true; the input reads as it did. -/
def fnExactCheckGrowthUptoRow : OpenClaim := { program := "ytgpabgemkighhaa", sum := "52664ebd286837b6f9e31369f4c4f94d43d2b13aa72afda3cb2920be387bbb4e", func := "loop.example/g01174/laws.FnExactCheckGrowth", spec := "fnExactCheckGrowth", unfollowed := true, recurses := true, apart := false, narrowed := true }
def FnExactCheckGrowthUptoSaid : Prop := fnExactCheckGrowthUptoRow.holds Try.pinned (OpenSpec.upto fnExactCheckGrowthSpec)

/-- 'laws.FnExactProofOf', WHERE WHAT IT READS IS OF BULK AT MOST 1048576: true; the input reads as it did. -/
def fnExactProofOfUptoRow : OpenClaim := { program := "ytgpabgemkighhaa", sum := "52664ebd286837b6f9e31369f4c4f94d43d2b13aa72afda3cb2920be387bbb4e", func := "loop.example/g01174/laws.FnExactProofOf", spec := "fnExactProofOf", unfollowed := true, recurses := true, apart := false, narrowed := true }
def FnExactProofOfUptoSaid : Prop := fnExactProofOfUptoRow.holds Try.pinned (OpenSpec.upto fnExactProofOfSpec)

/-- 'laws.FnExactRangeProof', WHERE WHAT IT READS IS OF BULK AT MOST 1048576: true; the input reads as it did. -/
def fnExactRangeProofUptoRow : OpenClaim := { program := "ytgpabgemkighhaa", sum := "52664ebd286837b6f9e31369f4c4f94d43d2b13aa72afda3cb2920be387bbb4e", func := "loop.example/g01174/laws.FnExactRangeProof", spec := "fnExactRangeProof", unfollowed := true, recurses := true, apart := false, narrowed := true }
def FnExactRangeProofUptoSaid : Prop := fnExactRangeProofUptoRow.holds Try.pinned (OpenSpec.upto fnExactRangeProofSpec)

/-- 'laws.FnExactGrowthProof', WHERE WHAT IT READS IS OF BULK AT MOST 1048576: true; the input reads as it did. -/
def fnExactGrowthProofUptoRow : OpenClaim := { program := "ytgpabgemkighhaa", sum := "52664ebd286837b6f9e31369f4c4f94d43d2b13aa72afda3cb2920be387bbb4e", func := "loop.example/g01174/laws.FnExactGrowthProof", spec := "fnExactGrowthProof", unfollowed := true, recurses := true, apart := false, narrowed := true }
def FnExactGrowthProofUptoSaid : Prop := fnExactGrowthProofUptoRow.holds Try.pinned (OpenSpec.upto fnExactGrowthProofSpec)

/-- 'laws.FnExactFeedHasher', WHERE WHAT IT READS IS OF BULK AT MOST 1048576: true; the input reads as it did. -/
def fnExactFeedHasherUptoRow : OpenClaim := { program := "ytgpabgemkighhaa", sum := "52664ebd286837b6f9e31369f4c4f94d43d2b13aa72afda3cb2920be387bbb4e", func := "loop.example/g01174/laws.FnExactFeedHasher", spec := "fnExactFeedHasher", unfollowed := true, recurses := true, apart := false, narrowed := true }
def FnExactFeedHasherUptoSaid : Prop := fnExactFeedHasherUptoRow.holds Try.pinned (OpenSpec.upto fnExactFeedHasherSpec)

end Rows
end Go.Proofs.Ytgpabgemkighhaa
