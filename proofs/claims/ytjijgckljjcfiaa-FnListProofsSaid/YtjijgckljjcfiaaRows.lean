/-
  No cell of these rows narrows 'for every input' (looked for: loops, veiled, ifaces, maps, wideKeys, modest, calm, conditions, laid).
  DERIVED. THE GIVEN ROWS OF THIS SEAT. 12 by the template 'for every input the law returns true; each argument reads behind the call as it read before'; 0 by the template 'total and deterministic' (their statements: YtjijgckljjcfiaaTotals.lean).
  GIVEN WITH THE SEED: the statements are not yours to turn. If you find one false, say at which input.
  Laid BY PROGRAM, IN A SANDBOX (cutbox-rows.mjs): the forced cells as the released guide's own fill.sh prints them over the translation faa1048aaad77dfe… (all of the seat's roots in one cut). By AI agents, Wed Nov 11 2026. No macro, syntax, notation, axiom, sorry.
-/
import Derived.Test.YtjijgckljjcfiaaChecked
import GoSem.Claim
import GoSem.ClaimJoined
import GoSem.ClaimMapViews
import Derived.JoinedTies
import Derived.KernelRfl
namespace Go.Proofs.Ytjijgckljjcfiaa
/- THE CELL 'sum', in the pinned program and in every row, IS THE sha256 OF THE DUMP (.gsa) THAT YtjijgckljjcfiaaProg.lean LOADS. Nothing in Lean hashes anything: it is a label: what it is worth is what the hold of that sum in a sandbox is worth. -/
noncomputable def Try.pinned : Pinned := { name := "ytjijgckljjcfiaa", sum := "faa1048aaad77dfefba0b5429851e63f7c37497a16d469e89b4c6cb195d99ba2", checked := Try.checked }
namespace Rows
def none {H : Type} : Left H := { results := [], args := [] }

/-- 'laws.FnListProofs': WHATEVER THE INPUT: true; the input reads as it did. -/
def fnListProofsSpec : ChangeSpec := { name := "fnListProofs", fn := fun _ => fun
  | [d1, d2] => { results := [.lit (.bool true)], args := [d1, d2] }
  | _ => none }
def fnListProofsRow : OpenClaim := { program := "ytjijgckljjcfiaa", sum := "faa1048aaad77dfefba0b5429851e63f7c37497a16d469e89b4c6cb195d99ba2", func := "loop.example/g01174/laws.FnListProofs", spec := "fnListProofs", unfollowed := true, recurses := true, apart := false }
def FnListProofsSaid : Prop := fnListProofsRow.holds Try.pinned (OpenSpec.ofChange fnListProofsSpec)

/-- ITS FALSE NEIGHBOUR: 'it returns false'. Refute it at one input. -/
def fnListProofsWrong : ChangeSpec := { name := "fnListProofs", fn := fun _ => fun
  | [d1, d2] => { results := [.lit (.bool false)], args := [d1, d2] }
  | _ => none }
def FnListProofsWrongFalsely : Prop := fnListProofsRow.holds Try.pinned (OpenSpec.ofChange fnListProofsWrong)

/-- 'laws.FnRangeProofs': WHATEVER THE INPUT: true; the input reads as it did. -/
def fnRangeProofsSpec : ChangeSpec := { name := "fnRangeProofs", fn := fun _ => fun
  | [d1, d2] => { results := [.lit (.bool true)], args := [d1, d2] }
  | _ => none }
def fnRangeProofsRow : OpenClaim := { program := "ytjijgckljjcfiaa", sum := "faa1048aaad77dfefba0b5429851e63f7c37497a16d469e89b4c6cb195d99ba2", func := "loop.example/g01174/laws.FnRangeProofs", spec := "fnRangeProofs", unfollowed := true, recurses := true, apart := false }
def FnRangeProofsSaid : Prop := fnRangeProofsRow.holds Try.pinned (OpenSpec.ofChange fnRangeProofsSpec)

/-- ITS FALSE NEIGHBOUR: 'it returns false'. Refute it at one input. -/
def fnRangeProofsWrong : ChangeSpec := { name := "fnRangeProofs", fn := fun _ => fun
  | [d1, d2] => { results := [.lit (.bool false)], args := [d1, d2] }
  | _ => none }
def FnRangeProofsWrongFalsely : Prop := fnRangeProofsRow.holds Try.pinned (OpenSpec.ofChange fnRangeProofsWrong)

/-- 'laws.FnExactCheckProof': WHATEVER THE INPUT: true; the input reads as it did. -/
def fnExactCheckProofSpec : ChangeSpec := { name := "fnExactCheckProof", fn := fun _ => fun
  | [d1, d2, d3, d4, d5] => { results := [.lit (.bool true)], args := [d1, d2, d3, d4, d5] }
  | _ => none }
def fnExactCheckProofRow : OpenClaim := { program := "ytjijgckljjcfiaa", sum := "faa1048aaad77dfefba0b5429851e63f7c37497a16d469e89b4c6cb195d99ba2", func := "loop.example/g01174/laws.FnExactCheckProof", spec := "fnExactCheckProof", unfollowed := true, recurses := true, apart := false }
def FnExactCheckProofSaid : Prop := fnExactCheckProofRow.holds Try.pinned (OpenSpec.ofChange fnExactCheckProofSpec)

/-- ITS FALSE NEIGHBOUR: 'it returns false'. Refute it at one input. -/
def fnExactCheckProofWrong : ChangeSpec := { name := "fnExactCheckProof", fn := fun _ => fun
  | [d1, d2, d3, d4, d5] => { results := [.lit (.bool false)], args := [d1, d2, d3, d4, d5] }
  | _ => none }
def FnExactCheckProofWrongFalsely : Prop := fnExactCheckProofRow.holds Try.pinned (OpenSpec.ofChange fnExactCheckProofWrong)

/-- 'laws.FnExactClashOf': WHATEVER THE INPUT: true; the input reads as it did. -/
def fnExactClashOfSpec : ChangeSpec := { name := "fnExactClashOf", fn := fun _ => fun
  | [d1, d2] => { results := [.lit (.bool true)], args := [d1, d2] }
  | _ => none }
def fnExactClashOfRow : OpenClaim := { program := "ytjijgckljjcfiaa", sum := "faa1048aaad77dfefba0b5429851e63f7c37497a16d469e89b4c6cb195d99ba2", func := "loop.example/g01174/laws.FnExactClashOf", spec := "fnExactClashOf", unfollowed := true, recurses := true, apart := false }
def FnExactClashOfSaid : Prop := fnExactClashOfRow.holds Try.pinned (OpenSpec.ofChange fnExactClashOfSpec)

/-- ITS FALSE NEIGHBOUR: 'it returns false'. Refute it at one input. -/
def fnExactClashOfWrong : ChangeSpec := { name := "fnExactClashOf", fn := fun _ => fun
  | [d1, d2] => { results := [.lit (.bool false)], args := [d1, d2] }
  | _ => none }
def FnExactClashOfWrongFalsely : Prop := fnExactClashOfRow.holds Try.pinned (OpenSpec.ofChange fnExactClashOfWrong)

/-- 'laws.FnExactClashOfProof': WHATEVER THE INPUT: true; the input reads as it did. -/
def fnExactClashOfProofSpec : ChangeSpec := { name := "fnExactClashOfProof", fn := fun _ => fun
  | [d1, d2, d3, d4] => { results := [.lit (.bool true)], args := [d1, d2, d3, d4] }
  | _ => none }
def fnExactClashOfProofRow : OpenClaim := { program := "ytjijgckljjcfiaa", sum := "faa1048aaad77dfefba0b5429851e63f7c37497a16d469e89b4c6cb195d99ba2", func := "loop.example/g01174/laws.FnExactClashOfProof", spec := "fnExactClashOfProof", unfollowed := true, recurses := true, apart := false }
def FnExactClashOfProofSaid : Prop := fnExactClashOfProofRow.holds Try.pinned (OpenSpec.ofChange fnExactClashOfProofSpec)

/-- ITS FALSE NEIGHBOUR: 'it returns false'. Refute it at one input. -/
def fnExactClashOfProofWrong : ChangeSpec := { name := "fnExactClashOfProof", fn := fun _ => fun
  | [d1, d2, d3, d4] => { results := [.lit (.bool false)], args := [d1, d2, d3, d4] }
  | _ => none }
def FnExactClashOfProofWrongFalsely : Prop := fnExactClashOfProofRow.holds Try.pinned (OpenSpec.ofChange fnExactClashOfProofWrong)

/-- 'laws.FnExactTreeDepth': WHATEVER THE INPUT: true; the input reads as it did. -/
def fnExactTreeDepthSpec : ChangeSpec := { name := "fnExactTreeDepth", fn := fun _ => fun
  | [d1, d2] => { results := [.lit (.bool true)], args := [d1, d2] }
  | _ => none }
def fnExactTreeDepthRow : OpenClaim := { program := "ytjijgckljjcfiaa", sum := "faa1048aaad77dfefba0b5429851e63f7c37497a16d469e89b4c6cb195d99ba2", func := "loop.example/g01174/laws.FnExactTreeDepth", spec := "fnExactTreeDepth", recurses := true, apart := false }
def FnExactTreeDepthSaid : Prop := fnExactTreeDepthRow.holds Try.pinned (OpenSpec.ofChange fnExactTreeDepthSpec)

/-- ITS FALSE NEIGHBOUR: 'it returns false'. Refute it at one input. -/
def fnExactTreeDepthWrong : ChangeSpec := { name := "fnExactTreeDepth", fn := fun _ => fun
  | [d1, d2] => { results := [.lit (.bool false)], args := [d1, d2] }
  | _ => none }
def FnExactTreeDepthWrongFalsely : Prop := fnExactTreeDepthRow.holds Try.pinned (OpenSpec.ofChange fnExactTreeDepthWrong)

/-- 'laws.FnExactProofOf': WHATEVER THE INPUT: true; the input reads as it did. -/
def fnExactProofOfSpec : ChangeSpec := { name := "fnExactProofOf", fn := fun _ => fun
  | [d1, d2] => { results := [.lit (.bool true)], args := [d1, d2] }
  | _ => none }
def fnExactProofOfRow : OpenClaim := { program := "ytjijgckljjcfiaa", sum := "faa1048aaad77dfefba0b5429851e63f7c37497a16d469e89b4c6cb195d99ba2", func := "loop.example/g01174/laws.FnExactProofOf", spec := "fnExactProofOf", unfollowed := true, recurses := true, apart := false }
def FnExactProofOfSaid : Prop := fnExactProofOfRow.holds Try.pinned (OpenSpec.ofChange fnExactProofOfSpec)

/-- ITS FALSE NEIGHBOUR: 'it returns false'. Refute it at one input. -/
def fnExactProofOfWrong : ChangeSpec := { name := "fnExactProofOf", fn := fun _ => fun
  | [d1, d2] => { results := [.lit (.bool false)], args := [d1, d2] }
  | _ => none }
def FnExactProofOfWrongFalsely : Prop := fnExactProofOfRow.holds Try.pinned (OpenSpec.ofChange fnExactProofOfWrong)

/-- 'laws.FnExactListKey': WHATEVER THE INPUT: true; the input reads as it did. -/
def fnExactListKeySpec : ChangeSpec := { name := "fnExactListKey", fn := fun _ => fun
  | [d] => { results := [.lit (.bool true)], args := [d] }
  | _ => none }
def fnExactListKeyRow : OpenClaim := { program := "ytjijgckljjcfiaa", sum := "faa1048aaad77dfefba0b5429851e63f7c37497a16d469e89b4c6cb195d99ba2", func := "loop.example/g01174/laws.FnExactListKey", spec := "fnExactListKey", unfollowed := true, recurses := true, apart := false }
def FnExactListKeySaid : Prop := fnExactListKeyRow.holds Try.pinned (OpenSpec.ofChange fnExactListKeySpec)

/-- ITS FALSE NEIGHBOUR: 'it returns false'. Refute it at one input. -/
def fnExactListKeyWrong : ChangeSpec := { name := "fnExactListKey", fn := fun _ => fun
  | [d] => { results := [.lit (.bool false)], args := [d] }
  | _ => none }
def FnExactListKeyWrongFalsely : Prop := fnExactListKeyRow.holds Try.pinned (OpenSpec.ofChange fnExactListKeyWrong)

/-- 'laws.FnExactRangeProof': WHATEVER THE INPUT: true; the input reads as it did. -/
def fnExactRangeProofSpec : ChangeSpec := { name := "fnExactRangeProof", fn := fun _ => fun
  | [d1, d2, d3] => { results := [.lit (.bool true)], args := [d1, d2, d3] }
  | _ => none }
def fnExactRangeProofRow : OpenClaim := { program := "ytjijgckljjcfiaa", sum := "faa1048aaad77dfefba0b5429851e63f7c37497a16d469e89b4c6cb195d99ba2", func := "loop.example/g01174/laws.FnExactRangeProof", spec := "fnExactRangeProof", unfollowed := true, recurses := true, apart := false }
def FnExactRangeProofSaid : Prop := fnExactRangeProofRow.holds Try.pinned (OpenSpec.ofChange fnExactRangeProofSpec)

/-- ITS FALSE NEIGHBOUR: 'it returns false'. Refute it at one input. -/
def fnExactRangeProofWrong : ChangeSpec := { name := "fnExactRangeProof", fn := fun _ => fun
  | [d1, d2, d3] => { results := [.lit (.bool false)], args := [d1, d2, d3] }
  | _ => none }
def FnExactRangeProofWrongFalsely : Prop := fnExactRangeProofRow.holds Try.pinned (OpenSpec.ofChange fnExactRangeProofWrong)

/-- 'laws.FnExactCheckRange': WHATEVER THE INPUT: true; the input reads as it did. -/
def fnExactCheckRangeSpec : ChangeSpec := { name := "fnExactCheckRange", fn := fun _ => fun
  | [d1, d2, d3, d4, d5] => { results := [.lit (.bool true)], args := [d1, d2, d3, d4, d5] }
  | _ => none }
def fnExactCheckRangeRow : OpenClaim := { program := "ytjijgckljjcfiaa", sum := "faa1048aaad77dfefba0b5429851e63f7c37497a16d469e89b4c6cb195d99ba2", func := "loop.example/g01174/laws.FnExactCheckRange", spec := "fnExactCheckRange", unfollowed := true, recurses := true, apart := false }
def FnExactCheckRangeSaid : Prop := fnExactCheckRangeRow.holds Try.pinned (OpenSpec.ofChange fnExactCheckRangeSpec)

/-- ITS FALSE NEIGHBOUR: 'it returns false'. Refute it at one input. -/
def fnExactCheckRangeWrong : ChangeSpec := { name := "fnExactCheckRange", fn := fun _ => fun
  | [d1, d2, d3, d4, d5] => { results := [.lit (.bool false)], args := [d1, d2, d3, d4, d5] }
  | _ => none }
def FnExactCheckRangeWrongFalsely : Prop := fnExactCheckRangeRow.holds Try.pinned (OpenSpec.ofChange fnExactCheckRangeWrong)

/-- 'laws.FnExactNodeKey': WHATEVER THE INPUT: true; the input reads as it did. -/
def fnExactNodeKeySpec : ChangeSpec := { name := "fnExactNodeKey", fn := fun _ => fun
  | [d1, d2] => { results := [.lit (.bool true)], args := [d1, d2] }
  | _ => none }
def fnExactNodeKeyRow : OpenClaim := { program := "ytjijgckljjcfiaa", sum := "faa1048aaad77dfefba0b5429851e63f7c37497a16d469e89b4c6cb195d99ba2", func := "loop.example/g01174/laws.FnExactNodeKey", spec := "fnExactNodeKey", unfollowed := true, recurses := true, apart := false }
def FnExactNodeKeySaid : Prop := fnExactNodeKeyRow.holds Try.pinned (OpenSpec.ofChange fnExactNodeKeySpec)

/-- ITS FALSE NEIGHBOUR: 'it returns false'. Refute it at one input. -/
def fnExactNodeKeyWrong : ChangeSpec := { name := "fnExactNodeKey", fn := fun _ => fun
  | [d1, d2] => { results := [.lit (.bool false)], args := [d1, d2] }
  | _ => none }
def FnExactNodeKeyWrongFalsely : Prop := fnExactNodeKeyRow.holds Try.pinned (OpenSpec.ofChange fnExactNodeKeyWrong)

/-- 'laws.FnExactFeedHasher': WHATEVER THE INPUT: true; the input reads as it did. -/
def fnExactFeedHasherSpec : ChangeSpec := { name := "fnExactFeedHasher", fn := fun _ => fun
  | [d1, d2] => { results := [.lit (.bool true)], args := [d1, d2] }
  | _ => none }
def fnExactFeedHasherRow : OpenClaim := { program := "ytjijgckljjcfiaa", sum := "faa1048aaad77dfefba0b5429851e63f7c37497a16d469e89b4c6cb195d99ba2", func := "loop.example/g01174/laws.FnExactFeedHasher", spec := "fnExactFeedHasher", unfollowed := true, recurses := true, apart := false }
def FnExactFeedHasherSaid : Prop := fnExactFeedHasherRow.holds Try.pinned (OpenSpec.ofChange fnExactFeedHasherSpec)

/-- ITS FALSE NEIGHBOUR: 'it returns false'. Refute it at one input. -/
def fnExactFeedHasherWrong : ChangeSpec := { name := "fnExactFeedHasher", fn := fun _ => fun
  | [d1, d2] => { results := [.lit (.bool false)], args := [d1, d2] }
  | _ => none }
def FnExactFeedHasherWrongFalsely : Prop := fnExactFeedHasherRow.holds Try.pinned (OpenSpec.ofChange fnExactFeedHasherWrong)

/- THE SECOND FORM. 'bulk': how many values and letters a reading holds, each counted each time it is reached (what is shared counts as often as it is met; a slice's spare places count too). A statement '..UptoSaid' is the law's where the arguments, and the package variables that the reading takes, are together of bulk at most 1048576: NARROWER than '..Said'. Prove '..Said' where nothing that the law and all that it calls make is longer than what came in: it says more and counts as full. Else prove '..UptoSaid'. A law counts once. -/
mutual
def uptoBulk {H : Type} : DataW H → Nat
  | .lit (.string bytes) => bytes.length + 1
  | .lit _ => 1
  | .nil => 1
  | .ptr d => uptoBulk d + 1
  | .slice elems spare => uptoBulkAll elems + uptoBulkAll spare + 1
  | .agg parts => uptoBulkAll parts + 1
  | .iface _ d => uptoBulk d + 1
  | .map entries => uptoBulkEntries entries + 1
  | .held _ => 1
def uptoBulkAll {H : Type} : List (DataW H) → Nat
  | [] => 0
  | d :: r => uptoBulk d + uptoBulkAll r
def uptoBulkEntries {H : Type} : List (Lit × DataW H) → Nat
  | [] => 0
  | x :: r => uptoBulkEntry x + uptoBulkEntries r
def uptoBulkEntry {H : Type} : Lit × DataW H → Nat
  | (.string bytes, d) => bytes.length + uptoBulk d + 1
  | (_, d) => uptoBulk d + 1
 end
def uptoSmall : (H : Type) → List (DataW H) → Bool := fun _ ds => decide (uptoBulkAll ds ≤ 1048576)
def OpenSpec.upto (s : _root_.Go.ChangeSpec) : _root_.Go.OpenSpec := { _root_.Go.OpenSpec.ofChange s with cond := some uptoSmall }

/-- 'laws.FnListProofs', WHERE WHAT IT READS IS OF BULK AT MOST 1048576: true; the input reads as it did. -/
def fnListProofsUptoRow : OpenClaim := { program := "ytjijgckljjcfiaa", sum := "faa1048aaad77dfefba0b5429851e63f7c37497a16d469e89b4c6cb195d99ba2", func := "loop.example/g01174/laws.FnListProofs", spec := "fnListProofs", unfollowed := true, recurses := true, apart := false, narrowed := true }
def FnListProofsUptoSaid : Prop := fnListProofsUptoRow.holds Try.pinned (OpenSpec.upto fnListProofsSpec)

/-- 'laws.FnRangeProofs', WHERE WHAT IT READS IS OF BULK AT MOST 1048576: true; the input reads as it did. -/
def fnRangeProofsUptoRow : OpenClaim := { program := "ytjijgckljjcfiaa", sum := "faa1048aaad77dfefba0b5429851e63f7c37497a16d469e89b4c6cb195d99ba2", func := "loop.example/g01174/laws.FnRangeProofs", spec := "fnRangeProofs", unfollowed := true, recurses := true, apart := false, narrowed := true }
def FnRangeProofsUptoSaid : Prop := fnRangeProofsUptoRow.holds Try.pinned (OpenSpec.upto fnRangeProofsSpec)

/-- 'laws.FnExactCheckProof', WHERE WHAT IT READS IS OF BULK AT MOST 1048576: true; the input reads as it did. -/
def fnExactCheckProofUptoRow : OpenClaim := { program := "ytjijgckljjcfiaa", sum := "faa1048aaad77dfefba0b5429851e63f7c37497a16d469e89b4c6cb195d99ba2", func := "loop.example/g01174/laws.FnExactCheckProof", spec := "fnExactCheckProof", unfollowed := true, recurses := true, apart := false, narrowed := true }
def FnExactCheckProofUptoSaid : Prop := fnExactCheckProofUptoRow.holds Try.pinned (OpenSpec.upto fnExactCheckProofSpec)

/-- 'laws.FnExactClashOf', WHERE WHAT IT READS IS OF BULK AT MOST 1048576: true; the input reads as it did. -/
def fnExactClashOfUptoRow : OpenClaim := { program := "ytjijgckljjcfiaa", sum := "faa1048aaad77dfefba0b5429851e63f7c37497a16d469e89b4c6cb195d99ba2", func := "loop.example/g01174/laws.FnExactClashOf", spec := "fnExactClashOf", unfollowed := true, recurses := true, apart := false, narrowed := true }
def FnExactClashOfUptoSaid : Prop := fnExactClashOfUptoRow.holds Try.pinned (OpenSpec.upto fnExactClashOfSpec)

/-- 'laws.FnExactClashOfProof', WHERE WHAT IT READS IS OF BULK AT MOST 1048576: true; the input reads as it did. -/
def fnExactClashOfProofUptoRow : OpenClaim := { program := "ytjijgckljjcfiaa", sum := "faa1048aaad77dfefba0b5429851e63f7c37497a16d469e89b4c6cb195d99ba2", func := "loop.example/g01174/laws.FnExactClashOfProof", spec := "fnExactClashOfProof", unfollowed := true, recurses := true, apart := false, narrowed := true }
def FnExactClashOfProofUptoSaid : Prop := fnExactClashOfProofUptoRow.holds Try.pinned (OpenSpec.upto fnExactClashOfProofSpec)

/-- 'laws.FnExactTreeDepth', WHERE WHAT IT READS IS OF BULK AT MOST 1048576: true; the input reads as it did. -/
def fnExactTreeDepthUptoRow : OpenClaim := { program := "ytjijgckljjcfiaa", sum := "faa1048aaad77dfefba0b5429851e63f7c37497a16d469e89b4c6cb195d99ba2", func := "loop.example/g01174/laws.FnExactTreeDepth", spec := "fnExactTreeDepth", recurses := true, apart := false, narrowed := true }
def FnExactTreeDepthUptoSaid : Prop := fnExactTreeDepthUptoRow.holds Try.pinned (OpenSpec.upto fnExactTreeDepthSpec)

/-- 'laws.FnExactProofOf', WHERE WHAT IT READS IS OF BULK AT MOST 1048576: true; the input reads as it did. -/
def fnExactProofOfUptoRow : OpenClaim := { program := "ytjijgckljjcfiaa", sum := "faa1048aaad77dfefba0b5429851e63f7c37497a16d469e89b4c6cb195d99ba2", func := "loop.example/g01174/laws.FnExactProofOf", spec := "fnExactProofOf", unfollowed := true, recurses := true, apart := false, narrowed := true }
def FnExactProofOfUptoSaid : Prop := fnExactProofOfUptoRow.holds Try.pinned (OpenSpec.upto fnExactProofOfSpec)

/-- 'laws.FnExactListKey', WHERE WHAT IT READS IS OF BULK AT MOST 1048576: true; the input reads as it did. -/
def fnExactListKeyUptoRow : OpenClaim := { program := "ytjijgckljjcfiaa", sum := "faa1048aaad77dfefba0b5429851e63f7c37497a16d469e89b4c6cb195d99ba2", func := "loop.example/g01174/laws.FnExactListKey", spec := "fnExactListKey", unfollowed := true, recurses := true, apart := false, narrowed := true }
def FnExactListKeyUptoSaid : Prop := fnExactListKeyUptoRow.holds Try.pinned (OpenSpec.upto fnExactListKeySpec)

/-- 'laws.FnExactRangeProof', WHERE WHAT IT READS IS OF BULK AT MOST 1048576: true; the input reads as it did. -/
def fnExactRangeProofUptoRow : OpenClaim := { program := "ytjijgckljjcfiaa", sum := "faa1048aaad77dfefba0b5429851e63f7c37497a16d469e89b4c6cb195d99ba2", func := "loop.example/g01174/laws.FnExactRangeProof", spec := "fnExactRangeProof", unfollowed := true, recurses := true, apart := false, narrowed := true }
def FnExactRangeProofUptoSaid : Prop := fnExactRangeProofUptoRow.holds Try.pinned (OpenSpec.upto fnExactRangeProofSpec)

/-- 'laws.FnExactCheckRange', WHERE WHAT IT READS IS OF BULK AT MOST 1048576: true; the input reads as it did. -/
def fnExactCheckRangeUptoRow : OpenClaim := { program := "ytjijgckljjcfiaa", sum := "faa1048aaad77dfefba0b5429851e63f7c37497a16d469e89b4c6cb195d99ba2", func := "loop.example/g01174/laws.FnExactCheckRange", spec := "fnExactCheckRange", unfollowed := true, recurses := true, apart := false, narrowed := true }
def FnExactCheckRangeUptoSaid : Prop := fnExactCheckRangeUptoRow.holds Try.pinned (OpenSpec.upto fnExactCheckRangeSpec)

/-- 'laws.FnExactNodeKey', WHERE WHAT IT READS IS OF BULK AT MOST 1048576: true; the input reads as it did. -/
def fnExactNodeKeyUptoRow : OpenClaim := { program := "ytjijgckljjcfiaa", sum := "faa1048aaad77dfefba0b5429851e63f7c37497a16d469e89b4c6cb195d99ba2", func := "loop.example/g01174/laws.FnExactNodeKey", spec := "fnExactNodeKey", unfollowed := true, recurses := true, apart := false, narrowed := true }
def FnExactNodeKeyUptoSaid : Prop := fnExactNodeKeyUptoRow.holds Try.pinned (OpenSpec.upto fnExactNodeKeySpec)

/-- 'laws.FnExactFeedHasher', WHERE WHAT IT READS IS OF BULK AT MOST 1048576: true; the input reads as it did. -/
def fnExactFeedHasherUptoRow : OpenClaim := { program := "ytjijgckljjcfiaa", sum := "faa1048aaad77dfefba0b5429851e63f7c37497a16d469e89b4c6cb195d99ba2", func := "loop.example/g01174/laws.FnExactFeedHasher", spec := "fnExactFeedHasher", unfollowed := true, recurses := true, apart := false, narrowed := true }
def FnExactFeedHasherUptoSaid : Prop := fnExactFeedHasherUptoRow.holds Try.pinned (OpenSpec.upto fnExactFeedHasherSpec)

end Rows
end Go.Proofs.Ytjijgckljjcfiaa
