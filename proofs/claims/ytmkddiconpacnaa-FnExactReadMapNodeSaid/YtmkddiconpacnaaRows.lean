/-
  No cell of these rows narrows 'for every input' (looked for: loops, veiled, ifaces, maps, wideKeys, modest, calm, conditions, laid).
  DERIVED. THE GIVEN ROWS OF THIS SEAT. 12 by the template 'for every input the law returns true; each argument reads behind the call as it read before'; 0 by the template 'total and deterministic' (their statements: YtmkddiconpacnaaTotals.lean).
  GIVEN WITH THE SEED: the statements are not yours to turn. If you find one false, say at which input.
  Laid BY PROGRAM, IN A SANDBOX (cutbox-rows.mjs): the forced cells as the released guide's own fill.sh prints them over the translation 77973c08b9db6b6d… (all of the seat's roots in one cut). By AI agents, Wed Nov 11 2026. No macro, syntax, notation, axiom, sorry.
-/
import Derived.Test.YtmkddiconpacnaaChecked
import GoSem.Claim
import GoSem.ClaimJoined
import GoSem.ClaimMapViews
import Derived.JoinedTies
import Derived.KernelRfl
namespace Go.Proofs.Ytmkddiconpacnaa
/- THE CELL 'sum', in the pinned program and in every row, IS THE sha256 OF THE DUMP (.gsa) THAT YtmkddiconpacnaaProg.lean LOADS. Nothing in Lean hashes anything: it is a label: what it is worth is what the hold of that sum in a sandbox is worth. -/
noncomputable def Try.pinned : Pinned := { name := "ytmkddiconpacnaa", sum := "77973c08b9db6b6d5a01d2bfdd9ed556f73deba8d31e0aeafa5892042904cb14", checked := Try.checked }
namespace Rows
def none {H : Type} : Left H := { results := [], args := [] }

/-- 'laws.FnExactPutEntry': WHATEVER THE INPUT: true; the input reads as it did. -/
def fnExactPutEntrySpec : ChangeSpec := { name := "fnExactPutEntry", fn := fun _ => fun
  | [d1, d2] => { results := [.lit (.bool true)], args := [d1, d2] }
  | _ => none }
def fnExactPutEntryRow : OpenClaim := { program := "ytmkddiconpacnaa", sum := "77973c08b9db6b6d5a01d2bfdd9ed556f73deba8d31e0aeafa5892042904cb14", func := "loop.example/g01174/laws.FnExactPutEntry", spec := "fnExactPutEntry", inPlace := ["slices.overlaps[loop.example/g01174/impl.Entry]"], unfollowed := true, recurses := true, plainKeys := false, apart := false }
def FnExactPutEntrySaid : Prop := fnExactPutEntryRow.holds Try.pinned (OpenSpec.ofChange fnExactPutEntrySpec)

/-- ITS FALSE NEIGHBOUR: 'it returns false'. Refute it at one input. -/
def fnExactPutEntryWrong : ChangeSpec := { name := "fnExactPutEntry", fn := fun _ => fun
  | [d1, d2] => { results := [.lit (.bool false)], args := [d1, d2] }
  | _ => none }
def FnExactPutEntryWrongFalsely : Prop := fnExactPutEntryRow.holds Try.pinned (OpenSpec.ofChange fnExactPutEntryWrong)

/-- 'laws.FnExactMapNodeBytes': WHATEVER THE INPUT: true; the input reads as it did. -/
def fnExactMapNodeBytesSpec : ChangeSpec := { name := "fnExactMapNodeBytes", fn := fun _ => fun
  | [d] => { results := [.lit (.bool true)], args := [d] }
  | _ => none }
def fnExactMapNodeBytesRow : OpenClaim := { program := "ytmkddiconpacnaa", sum := "77973c08b9db6b6d5a01d2bfdd9ed556f73deba8d31e0aeafa5892042904cb14", func := "loop.example/g01174/laws.FnExactMapNodeBytes", spec := "fnExactMapNodeBytes", plainKeys := false, apart := false }
def FnExactMapNodeBytesSaid : Prop := fnExactMapNodeBytesRow.holds Try.pinned (OpenSpec.ofChange fnExactMapNodeBytesSpec)

/-- ITS FALSE NEIGHBOUR: 'it returns false'. Refute it at one input. -/
def fnExactMapNodeBytesWrong : ChangeSpec := { name := "fnExactMapNodeBytes", fn := fun _ => fun
  | [d] => { results := [.lit (.bool false)], args := [d] }
  | _ => none }
def FnExactMapNodeBytesWrongFalsely : Prop := fnExactMapNodeBytesRow.holds Try.pinned (OpenSpec.ofChange fnExactMapNodeBytesWrong)

/-- 'laws.FnExactReadMapNode': WHATEVER THE INPUT: true; the input reads as it did. -/
def fnExactReadMapNodeSpec : ChangeSpec := { name := "fnExactReadMapNode", fn := fun _ => fun
  | [d] => { results := [.lit (.bool true)], args := [d] }
  | _ => none }
def fnExactReadMapNodeRow : OpenClaim := { program := "ytmkddiconpacnaa", sum := "77973c08b9db6b6d5a01d2bfdd9ed556f73deba8d31e0aeafa5892042904cb14", func := "loop.example/g01174/laws.FnExactReadMapNode", spec := "fnExactReadMapNode", plainKeys := false, apart := false }
def FnExactReadMapNodeSaid : Prop := fnExactReadMapNodeRow.holds Try.pinned (OpenSpec.ofChange fnExactReadMapNodeSpec)

/-- ITS FALSE NEIGHBOUR: 'it returns false'. Refute it at one input. -/
def fnExactReadMapNodeWrong : ChangeSpec := { name := "fnExactReadMapNode", fn := fun _ => fun
  | [d] => { results := [.lit (.bool false)], args := [d] }
  | _ => none }
def FnExactReadMapNodeWrongFalsely : Prop := fnExactReadMapNodeRow.holds Try.pinned (OpenSpec.ofChange fnExactReadMapNodeWrong)

/-- 'laws.FnExactMapNodeKey': WHATEVER THE INPUT: true; the input reads as it did. -/
def fnExactMapNodeKeySpec : ChangeSpec := { name := "fnExactMapNodeKey", fn := fun _ => fun
  | [d] => { results := [.lit (.bool true)], args := [d] }
  | _ => none }
def fnExactMapNodeKeyRow : OpenClaim := { program := "ytmkddiconpacnaa", sum := "77973c08b9db6b6d5a01d2bfdd9ed556f73deba8d31e0aeafa5892042904cb14", func := "loop.example/g01174/laws.FnExactMapNodeKey", spec := "fnExactMapNodeKey", unfollowed := true, recurses := true, plainKeys := false, apart := false }
def FnExactMapNodeKeySaid : Prop := fnExactMapNodeKeyRow.holds Try.pinned (OpenSpec.ofChange fnExactMapNodeKeySpec)

/-- ITS FALSE NEIGHBOUR: 'it returns false'. Refute it at one input. -/
def fnExactMapNodeKeyWrong : ChangeSpec := { name := "fnExactMapNodeKey", fn := fun _ => fun
  | [d] => { results := [.lit (.bool false)], args := [d] }
  | _ => none }
def FnExactMapNodeKeyWrongFalsely : Prop := fnExactMapNodeKeyRow.holds Try.pinned (OpenSpec.ofChange fnExactMapNodeKeyWrong)

/-- 'laws.FnExactMapKey': WHATEVER THE INPUT: true; the input reads as it did. -/
def fnExactMapKeySpec : ChangeSpec := { name := "fnExactMapKey", fn := fun _ => fun
  | [d] => { results := [.lit (.bool true)], args := [d] }
  | _ => none }
def fnExactMapKeyRow : OpenClaim := { program := "ytmkddiconpacnaa", sum := "77973c08b9db6b6d5a01d2bfdd9ed556f73deba8d31e0aeafa5892042904cb14", func := "loop.example/g01174/laws.FnExactMapKey", spec := "fnExactMapKey", inPlace := ["internal/bytealg.Compare"], unfollowed := true, recurses := true, plainKeys := false, apart := false }
def FnExactMapKeySaid : Prop := fnExactMapKeyRow.holds Try.pinned (OpenSpec.ofChange fnExactMapKeySpec)

/-- ITS FALSE NEIGHBOUR: 'it returns false'. Refute it at one input. -/
def fnExactMapKeyWrong : ChangeSpec := { name := "fnExactMapKey", fn := fun _ => fun
  | [d] => { results := [.lit (.bool false)], args := [d] }
  | _ => none }
def FnExactMapKeyWrongFalsely : Prop := fnExactMapKeyRow.holds Try.pinned (OpenSpec.ofChange fnExactMapKeyWrong)

/-- 'laws.FnExactNodesOfMap': WHATEVER THE INPUT: true; the input reads as it did. -/
def fnExactNodesOfMapSpec : ChangeSpec := { name := "fnExactNodesOfMap", fn := fun _ => fun
  | [d] => { results := [.lit (.bool true)], args := [d] }
  | _ => none }
def fnExactNodesOfMapRow : OpenClaim := { program := "ytmkddiconpacnaa", sum := "77973c08b9db6b6d5a01d2bfdd9ed556f73deba8d31e0aeafa5892042904cb14", func := "loop.example/g01174/laws.FnExactNodesOfMap", spec := "fnExactNodesOfMap", inPlace := ["internal/abi.NoEscape", "internal/bytealg.MakeNoZero", "internal/bytealg.Compare"], unfollowed := true, recurses := true, plainKeys := false, apart := false }
def FnExactNodesOfMapSaid : Prop := fnExactNodesOfMapRow.holds Try.pinned (OpenSpec.ofChange fnExactNodesOfMapSpec)

/-- ITS FALSE NEIGHBOUR: 'it returns false'. Refute it at one input. -/
def fnExactNodesOfMapWrong : ChangeSpec := { name := "fnExactNodesOfMap", fn := fun _ => fun
  | [d] => { results := [.lit (.bool false)], args := [d] }
  | _ => none }
def FnExactNodesOfMapWrongFalsely : Prop := fnExactNodesOfMapRow.holds Try.pinned (OpenSpec.ofChange fnExactNodesOfMapWrong)

/-- 'laws.FnExactDepthOfName': WHATEVER THE INPUT: true; the input reads as it did. -/
def fnExactDepthOfNameSpec : ChangeSpec := { name := "fnExactDepthOfName", fn := fun _ => fun
  | [d1, d2] => { results := [.lit (.bool true)], args := [d1, d2] }
  | _ => none }
def fnExactDepthOfNameRow : OpenClaim := { program := "ytmkddiconpacnaa", sum := "77973c08b9db6b6d5a01d2bfdd9ed556f73deba8d31e0aeafa5892042904cb14", func := "loop.example/g01174/laws.FnExactDepthOfName", spec := "fnExactDepthOfName", inPlace := ["internal/bytealg.Compare"], unfollowed := true, recurses := true, plainKeys := false, apart := false }
def FnExactDepthOfNameSaid : Prop := fnExactDepthOfNameRow.holds Try.pinned (OpenSpec.ofChange fnExactDepthOfNameSpec)

/-- ITS FALSE NEIGHBOUR: 'it returns false'. Refute it at one input. -/
def fnExactDepthOfNameWrong : ChangeSpec := { name := "fnExactDepthOfName", fn := fun _ => fun
  | [d1, d2] => { results := [.lit (.bool false)], args := [d1, d2] }
  | _ => none }
def FnExactDepthOfNameWrongFalsely : Prop := fnExactDepthOfNameRow.holds Try.pinned (OpenSpec.ofChange fnExactDepthOfNameWrong)

/-- 'laws.FnExactProveName': WHATEVER THE INPUT: true; the input reads as it did. -/
def fnExactProveNameSpec : ChangeSpec := { name := "fnExactProveName", fn := fun _ => fun
  | [d1, d2] => { results := [.lit (.bool true)], args := [d1, d2] }
  | _ => none }
def fnExactProveNameRow : OpenClaim := { program := "ytmkddiconpacnaa", sum := "77973c08b9db6b6d5a01d2bfdd9ed556f73deba8d31e0aeafa5892042904cb14", func := "loop.example/g01174/laws.FnExactProveName", spec := "fnExactProveName", inPlace := ["internal/bytealg.Compare"], unfollowed := true, recurses := true, plainKeys := false, apart := false }
def FnExactProveNameSaid : Prop := fnExactProveNameRow.holds Try.pinned (OpenSpec.ofChange fnExactProveNameSpec)

/-- ITS FALSE NEIGHBOUR: 'it returns false'. Refute it at one input. -/
def fnExactProveNameWrong : ChangeSpec := { name := "fnExactProveName", fn := fun _ => fun
  | [d1, d2] => { results := [.lit (.bool false)], args := [d1, d2] }
  | _ => none }
def FnExactProveNameWrongFalsely : Prop := fnExactProveNameRow.holds Try.pinned (OpenSpec.ofChange fnExactProveNameWrong)

/-- 'laws.FnExactChangesOf': WHATEVER THE INPUT: true; the input reads as it did. -/
def fnExactChangesOfSpec : ChangeSpec := { name := "fnExactChangesOf", fn := fun _ => fun
  | [d1, d2] => { results := [.lit (.bool true)], args := [d1, d2] }
  | _ => none }
def fnExactChangesOfRow : OpenClaim := { program := "ytmkddiconpacnaa", sum := "77973c08b9db6b6d5a01d2bfdd9ed556f73deba8d31e0aeafa5892042904cb14", func := "loop.example/g01174/laws.FnExactChangesOf", spec := "fnExactChangesOf", unfollowed := true, recurses := true, plainKeys := false, apart := false }
def FnExactChangesOfSaid : Prop := fnExactChangesOfRow.holds Try.pinned (OpenSpec.ofChange fnExactChangesOfSpec)

/-- ITS FALSE NEIGHBOUR: 'it returns false'. Refute it at one input. -/
def fnExactChangesOfWrong : ChangeSpec := { name := "fnExactChangesOf", fn := fun _ => fun
  | [d1, d2] => { results := [.lit (.bool false)], args := [d1, d2] }
  | _ => none }
def FnExactChangesOfWrongFalsely : Prop := fnExactChangesOfRow.holds Try.pinned (OpenSpec.ofChange fnExactChangesOfWrong)

/-- 'laws.FnExactApplyChanges': WHATEVER THE INPUT: true; the input reads as it did. -/
def fnExactApplyChangesSpec : ChangeSpec := { name := "fnExactApplyChanges", fn := fun _ => fun
  | [d1, d2] => { results := [.lit (.bool true)], args := [d1, d2] }
  | _ => none }
def fnExactApplyChangesRow : OpenClaim := { program := "ytmkddiconpacnaa", sum := "77973c08b9db6b6d5a01d2bfdd9ed556f73deba8d31e0aeafa5892042904cb14", func := "loop.example/g01174/laws.FnExactApplyChanges", spec := "fnExactApplyChanges", inPlace := ["slices.overlaps[loop.example/g01174/impl.Entry]"], unfollowed := true, recurses := true, plainKeys := false, apart := false }
def FnExactApplyChangesSaid : Prop := fnExactApplyChangesRow.holds Try.pinned (OpenSpec.ofChange fnExactApplyChangesSpec)

/-- ITS FALSE NEIGHBOUR: 'it returns false'. Refute it at one input. -/
def fnExactApplyChangesWrong : ChangeSpec := { name := "fnExactApplyChanges", fn := fun _ => fun
  | [d1, d2] => { results := [.lit (.bool false)], args := [d1, d2] }
  | _ => none }
def FnExactApplyChangesWrongFalsely : Prop := fnExactApplyChangesRow.holds Try.pinned (OpenSpec.ofChange fnExactApplyChangesWrong)

/-- 'laws.FnExactSharedNodes': WHATEVER THE INPUT: true; the input reads as it did. -/
def fnExactSharedNodesSpec : ChangeSpec := { name := "fnExactSharedNodes", fn := fun _ => fun
  | [d1, d2] => { results := [.lit (.bool true)], args := [d1, d2] }
  | _ => none }
def fnExactSharedNodesRow : OpenClaim := { program := "ytmkddiconpacnaa", sum := "77973c08b9db6b6d5a01d2bfdd9ed556f73deba8d31e0aeafa5892042904cb14", func := "loop.example/g01174/laws.FnExactSharedNodes", spec := "fnExactSharedNodes", inPlace := ["internal/bytealg.Compare", "internal/abi.NoEscape", "internal/bytealg.MakeNoZero"], unfollowed := true, recurses := true, plainKeys := false, apart := false }
def FnExactSharedNodesSaid : Prop := fnExactSharedNodesRow.holds Try.pinned (OpenSpec.ofChange fnExactSharedNodesSpec)

/-- ITS FALSE NEIGHBOUR: 'it returns false'. Refute it at one input. -/
def fnExactSharedNodesWrong : ChangeSpec := { name := "fnExactSharedNodes", fn := fun _ => fun
  | [d1, d2] => { results := [.lit (.bool false)], args := [d1, d2] }
  | _ => none }
def FnExactSharedNodesWrongFalsely : Prop := fnExactSharedNodesRow.holds Try.pinned (OpenSpec.ofChange fnExactSharedNodesWrong)

/-- 'laws.FnEntries': WHATEVER THE INPUT: true; the input reads as it did. -/
def fnEntriesSpec : ChangeSpec := { name := "fnEntries", fn := fun _ => fun
  | [d1, d2] => { results := [.lit (.bool true)], args := [d1, d2] }
  | _ => none }
def fnEntriesRow : OpenClaim := { program := "ytmkddiconpacnaa", sum := "77973c08b9db6b6d5a01d2bfdd9ed556f73deba8d31e0aeafa5892042904cb14", func := "loop.example/g01174/laws.FnEntries", spec := "fnEntries", inPlace := ["slices.overlaps[loop.example/g01174/impl.Entry]", "internal/bytealg.Compare"], unfollowed := true, recurses := true, plainKeys := false, apart := false }
def FnEntriesSaid : Prop := fnEntriesRow.holds Try.pinned (OpenSpec.ofChange fnEntriesSpec)

/-- ITS FALSE NEIGHBOUR: 'it returns false'. Refute it at one input. -/
def fnEntriesWrong : ChangeSpec := { name := "fnEntries", fn := fun _ => fun
  | [d1, d2] => { results := [.lit (.bool false)], args := [d1, d2] }
  | _ => none }
def FnEntriesWrongFalsely : Prop := fnEntriesRow.holds Try.pinned (OpenSpec.ofChange fnEntriesWrong)

/- THE SECOND FORM. 'bulk': how many values and letters a reading holds, each counted each time it is reached (what is shared counts as often as it is met; a slice's spare places count too). A statement '..UptoSaid' is the law's where the arguments, and the package variables that the reading takes, are together of bulk at most 1048576: NARROWER than '..Said'. Prove '..Said' where nothing that the law and all that it calls make is longer than what came in: it says more and counts as full. Else prove '..UptoSaid'. A law counts once. -/
mutual
def uptoBulk {H : Type} : DataW H → Nat
  | .lit (.string bytes) => bytes.length + 1
  | .lit _ => 1
  | .nil => 1
  | .ptr d => uptoBulk d + 1
  | .slice elems spare => uptoBulkAll elems + uptoBulkAll spare + 1
  | .agg parts => uptoBulkAll parts + 1
  | .iface _ d => uptoBulk d + 1
  | .map entries => uptoBulkEntries entries + 1
  | .held _ => 1
def uptoBulkAll {H : Type} : List (DataW H) → Nat
  | [] => 0
  | d :: r => uptoBulk d + uptoBulkAll r
def uptoBulkEntries {H : Type} : List (Lit × DataW H) → Nat
  | [] => 0
  | x :: r => uptoBulkEntry x + uptoBulkEntries r
def uptoBulkEntry {H : Type} : Lit × DataW H → Nat
  | (.string bytes, d) => bytes.length + uptoBulk d + 1
  | (_, d) => uptoBulk d + 1
 end
def uptoSmall : (H : Type) → List (DataW H) → Bool := fun _ ds => decide (uptoBulkAll ds ≤ 1048576)
def OpenSpec.upto (s : _root_.Go.ChangeSpec) : _root_.Go.OpenSpec := { _root_.Go.OpenSpec.ofChange s with cond := some uptoSmall }

/-- 'laws.FnExactPutEntry', WHERE WHAT IT READS IS OF BULK AT MOST 1048576: true; the input reads as it did. -/
def fnExactPutEntryUptoRow : OpenClaim := { program := "ytmkddiconpacnaa", sum := "77973c08b9db6b6d5a01d2bfdd9ed556f73deba8d31e0aeafa5892042904cb14", func := "loop.example/g01174/laws.FnExactPutEntry", spec := "fnExactPutEntry", inPlace := ["slices.overlaps[loop.example/g01174/impl.Entry]"], unfollowed := true, recurses := true, plainKeys := false, apart := false, narrowed := true }
def FnExactPutEntryUptoSaid : Prop := fnExactPutEntryUptoRow.holds Try.pinned (OpenSpec.upto fnExactPutEntrySpec)

/-- 'laws.FnExactMapNodeBytes', WHERE WHAT IT READS IS OF BULK AT MOST 1048576: true; the input reads as it did. -/
def fnExactMapNodeBytesUptoRow : OpenClaim := { program := "ytmkddiconpacnaa", sum := "77973c08b9db6b6d5a01d2bfdd9ed556f73deba8d31e0aeafa5892042904cb14", func := "loop.example/g01174/laws.FnExactMapNodeBytes", spec := "fnExactMapNodeBytes", plainKeys := false, apart := false, narrowed := true }
def FnExactMapNodeBytesUptoSaid : Prop := fnExactMapNodeBytesUptoRow.holds Try.pinned (OpenSpec.upto fnExactMapNodeBytesSpec)

/-- 'laws.FnExactReadMapNode', WHERE WHAT IT READS IS OF BULK AT MOST 1048576: true; the input reads as it did. -/
def fnExactReadMapNodeUptoRow : OpenClaim := { program := "ytmkddiconpacnaa", sum := "77973c08b9db6b6d5a01d2bfdd9ed556f73deba8d31e0aeafa5892042904cb14", func := "loop.example/g01174/laws.FnExactReadMapNode", spec := "fnExactReadMapNode", plainKeys := false, apart := false, narrowed := true }
def FnExactReadMapNodeUptoSaid : Prop := fnExactReadMapNodeUptoRow.holds Try.pinned (OpenSpec.upto fnExactReadMapNodeSpec)

/-- 'laws.FnExactMapNodeKey', WHERE WHAT IT READS IS OF BULK AT MOST 1048576: true; the input reads as it did. -/
def fnExactMapNodeKeyUptoRow : OpenClaim := { program := "ytmkddiconpacnaa", sum := "77973c08b9db6b6d5a01d2bfdd9ed556f73deba8d31e0aeafa5892042904cb14", func := "loop.example/g01174/laws.FnExactMapNodeKey", spec := "fnExactMapNodeKey", unfollowed := true, recurses := true, plainKeys := false, apart := false, narrowed := true }
def FnExactMapNodeKeyUptoSaid : Prop := fnExactMapNodeKeyUptoRow.holds Try.pinned (OpenSpec.upto fnExactMapNodeKeySpec)

/-- 'laws.FnExactMapKey', WHERE WHAT IT READS IS OF BULK AT MOST 1048576: true; the input reads as it did. -/
def fnExactMapKeyUptoRow : OpenClaim := { program := "ytmkddiconpacnaa", sum := "77973c08b9db6b6d5a01d2bfdd9ed556f73deba8d31e0aeafa5892042904cb14", func := "loop.example/g01174/laws.FnExactMapKey", spec := "fnExactMapKey", inPlace := ["internal/bytealg.Compare"], unfollowed := true, recurses := true, plainKeys := false, apart := false, narrowed := true }
def FnExactMapKeyUptoSaid : Prop := fnExactMapKeyUptoRow.holds Try.pinned (OpenSpec.upto fnExactMapKeySpec)

/-- 'laws.FnExactNodesOfMap', WHERE WHAT IT READS IS OF BULK AT MOST 1048576: true; the input reads as it did. -/
def fnExactNodesOfMapUptoRow : OpenClaim := { program := "ytmkddiconpacnaa", sum := "77973c08b9db6b6d5a01d2bfdd9ed556f73deba8d31e0aeafa5892042904cb14", func := "loop.example/g01174/laws.FnExactNodesOfMap", spec := "fnExactNodesOfMap", inPlace := ["internal/abi.NoEscape", "internal/bytealg.MakeNoZero", "internal/bytealg.Compare"], unfollowed := true, recurses := true, plainKeys := false, apart := false, narrowed := true }
def FnExactNodesOfMapUptoSaid : Prop := fnExactNodesOfMapUptoRow.holds Try.pinned (OpenSpec.upto fnExactNodesOfMapSpec)

/-- 'laws.FnExactDepthOfName', WHERE WHAT IT READS IS OF BULK AT MOST 1048576: true; the input reads as it did. -/
def fnExactDepthOfNameUptoRow : OpenClaim := { program := "ytmkddiconpacnaa", sum := "77973c08b9db6b6d5a01d2bfdd9ed556f73deba8d31e0aeafa5892042904cb14", func := "loop.example/g01174/laws.FnExactDepthOfName", spec := "fnExactDepthOfName", inPlace := ["internal/bytealg.Compare"], unfollowed := true, recurses := true, plainKeys := false, apart := false, narrowed := true }
def FnExactDepthOfNameUptoSaid : Prop := fnExactDepthOfNameUptoRow.holds Try.pinned (OpenSpec.upto fnExactDepthOfNameSpec)

/-- 'laws.FnExactProveName', WHERE WHAT IT READS IS OF BULK AT MOST 1048576: true; the input reads as it did. -/
def fnExactProveNameUptoRow : OpenClaim := { program := "ytmkddiconpacnaa", sum := "77973c08b9db6b6d5a01d2bfdd9ed556f73deba8d31e0aeafa5892042904cb14", func := "loop.example/g01174/laws.FnExactProveName", spec := "fnExactProveName", inPlace := ["internal/bytealg.Compare"], unfollowed := true, recurses := true, plainKeys := false, apart := false, narrowed := true }
def FnExactProveNameUptoSaid : Prop := fnExactProveNameUptoRow.holds Try.pinned (OpenSpec.upto fnExactProveNameSpec)

/-- 'laws.FnExactChangesOf', WHERE WHAT IT READS IS OF BULK AT MOST 1048576: true; the input reads as it did. -/
def fnExactChangesOfUptoRow : OpenClaim := { program := "ytmkddiconpacnaa", sum := "77973c08b9db6b6d5a01d2bfdd9ed556f73deba8d31e0aeafa5892042904cb14", func := "loop.example/g01174/laws.FnExactChangesOf", spec := "fnExactChangesOf", unfollowed := true, recurses := true, plainKeys := false, apart := false, narrowed := true }
def FnExactChangesOfUptoSaid : Prop := fnExactChangesOfUptoRow.holds Try.pinned (OpenSpec.upto fnExactChangesOfSpec)

/-- 'laws.FnExactApplyChanges', WHERE WHAT IT READS IS OF BULK AT MOST 1048576: true; the input reads as it did. -/
def fnExactApplyChangesUptoRow : OpenClaim := { program := "ytmkddiconpacnaa", sum := "77973c08b9db6b6d5a01d2bfdd9ed556f73deba8d31e0aeafa5892042904cb14", func := "loop.example/g01174/laws.FnExactApplyChanges", spec := "fnExactApplyChanges", inPlace := ["slices.overlaps[loop.example/g01174/impl.Entry]"], unfollowed := true, recurses := true, plainKeys := false, apart := false, narrowed := true }
def FnExactApplyChangesUptoSaid : Prop := fnExactApplyChangesUptoRow.holds Try.pinned (OpenSpec.upto fnExactApplyChangesSpec)

/-- 'laws.FnExactSharedNodes', WHERE WHAT IT READS IS OF BULK AT MOST 1048576: true; the input reads as it did. -/
def fnExactSharedNodesUptoRow : OpenClaim := { program := "ytmkddiconpacnaa", sum := "77973c08b9db6b6d5a01d2bfdd9ed556f73deba8d31e0aeafa5892042904cb14", func := "loop.example/g01174/laws.FnExactSharedNodes", spec := "fnExactSharedNodes", inPlace := ["internal/bytealg.Compare", "internal/abi.NoEscape", "internal/bytealg.MakeNoZero"], unfollowed := true, recurses := true, plainKeys := false, apart := false, narrowed := true }
def FnExactSharedNodesUptoSaid : Prop := fnExactSharedNodesUptoRow.holds Try.pinned (OpenSpec.upto fnExactSharedNodesSpec)

/-- 'laws.FnEntries', WHERE WHAT IT READS IS OF BULK AT MOST 1048576: true; the input reads as it did. -/
def fnEntriesUptoRow : OpenClaim := { program := "ytmkddiconpacnaa", sum := "77973c08b9db6b6d5a01d2bfdd9ed556f73deba8d31e0aeafa5892042904cb14", func := "loop.example/g01174/laws.FnEntries", spec := "fnEntries", inPlace := ["slices.overlaps[loop.example/g01174/impl.Entry]", "internal/bytealg.Compare"], unfollowed := true, recurses := true, plainKeys := false, apart := false, narrowed := true }
def FnEntriesUptoSaid : Prop := fnEntriesUptoRow.holds Try.pinned (OpenSpec.upto fnEntriesSpec)

end Rows
end Go.Proofs.Ytmkddiconpacnaa
