/-
  No cell of these rows narrows 'for every input' (looked for: loops, veiled, ifaces, maps, wideKeys, modest, calm, conditions, laid).
  DERIVED. THE GIVEN ROWS OF THIS SEAT. 12 by the template 'for every input the law returns true; each argument reads behind the call as it read before'; 0 by the template 'total and deterministic' (their statements: YtojfojkfopplnabTotals.lean).
  GIVEN WITH THE SEED: the statements are not yours to turn. If you find one false, say at which input.
  Laid BY PROGRAM, IN A SANDBOX (cutbox-rows.mjs): the forced cells as the released guide's own fill.sh prints them over the translation be3a8957ee6a9b2f… (all of the seat's roots in one cut). By AI agents, Wed Nov 11 2026. No macro, syntax, notation, axiom, sorry.
-/
import Derived.Test.YtojfojkfopplnabChecked
import GoSem.Claim
import GoSem.ClaimJoined
import GoSem.ClaimMapViews
import Derived.JoinedTies
import Derived.KernelRfl
namespace Go.Proofs.Ytojfojkfopplnab
/- THE CELL 'sum', in the pinned program and in every row, IS THE sha256 OF THE DUMP (.gsa) THAT YtojfojkfopplnabProg.lean LOADS. Nothing in Lean hashes anything: it is a label: what it is worth is what the hold of that sum in a sandbox is worth. -/
noncomputable def Try.pinned : Pinned := { name := "ytojfojkfopplnab", sum := "be3a8957ee6a9b2fdfe46e08ea150a7cb7423f0b4b177c1f641dcde3b6e3e977", checked := Try.checked }
namespace Rows
def none {H : Type} : Left H := { results := [], args := [] }

/-- 'laws.FnExactValidEntry': WHATEVER THE INPUT: true; the input reads as it did. -/
def fnExactValidEntrySpec : ChangeSpec := { name := "fnExactValidEntry", fn := fun _ => fun
  | [d] => { results := [.lit (.bool true)], args := [d] }
  | _ => none }
def fnExactValidEntryRow : OpenClaim := { program := "ytojfojkfopplnab", sum := "be3a8957ee6a9b2fdfe46e08ea150a7cb7423f0b4b177c1f641dcde3b6e3e977", func := "loop.example/g01174/laws.FnExactValidEntry", spec := "fnExactValidEntry", apart := false }
def FnExactValidEntrySaid : Prop := fnExactValidEntryRow.holds Try.pinned (OpenSpec.ofChange fnExactValidEntrySpec)

/-- ITS FALSE NEIGHBOUR: 'it returns false'. Refute it at one input. -/
def fnExactValidEntryWrong : ChangeSpec := { name := "fnExactValidEntry", fn := fun _ => fun
  | [d] => { results := [.lit (.bool false)], args := [d] }
  | _ => none }
def FnExactValidEntryWrongFalsely : Prop := fnExactValidEntryRow.holds Try.pinned (OpenSpec.ofChange fnExactValidEntryWrong)

/-- 'laws.FnExactValidEntries': WHATEVER THE INPUT: true; the input reads as it did. -/
def fnExactValidEntriesSpec : ChangeSpec := { name := "fnExactValidEntries", fn := fun _ => fun
  | [d] => { results := [.lit (.bool true)], args := [d] }
  | _ => none }
def fnExactValidEntriesRow : OpenClaim := { program := "ytojfojkfopplnab", sum := "be3a8957ee6a9b2fdfe46e08ea150a7cb7423f0b4b177c1f641dcde3b6e3e977", func := "loop.example/g01174/laws.FnExactValidEntries", spec := "fnExactValidEntries", apart := false }
def FnExactValidEntriesSaid : Prop := fnExactValidEntriesRow.holds Try.pinned (OpenSpec.ofChange fnExactValidEntriesSpec)

/-- ITS FALSE NEIGHBOUR: 'it returns false'. Refute it at one input. -/
def fnExactValidEntriesWrong : ChangeSpec := { name := "fnExactValidEntries", fn := fun _ => fun
  | [d] => { results := [.lit (.bool false)], args := [d] }
  | _ => none }
def FnExactValidEntriesWrongFalsely : Prop := fnExactValidEntriesRow.holds Try.pinned (OpenSpec.ofChange fnExactValidEntriesWrong)

/-- 'laws.FnExactSameEntries': WHATEVER THE INPUT: true; the input reads as it did. -/
def fnExactSameEntriesSpec : ChangeSpec := { name := "fnExactSameEntries", fn := fun _ => fun
  | [d1, d2] => { results := [.lit (.bool true)], args := [d1, d2] }
  | _ => none }
def fnExactSameEntriesRow : OpenClaim := { program := "ytojfojkfopplnab", sum := "be3a8957ee6a9b2fdfe46e08ea150a7cb7423f0b4b177c1f641dcde3b6e3e977", func := "loop.example/g01174/laws.FnExactSameEntries", spec := "fnExactSameEntries", apart := false }
def FnExactSameEntriesSaid : Prop := fnExactSameEntriesRow.holds Try.pinned (OpenSpec.ofChange fnExactSameEntriesSpec)

/-- ITS FALSE NEIGHBOUR: 'it returns false'. Refute it at one input. -/
def fnExactSameEntriesWrong : ChangeSpec := { name := "fnExactSameEntries", fn := fun _ => fun
  | [d1, d2] => { results := [.lit (.bool false)], args := [d1, d2] }
  | _ => none }
def FnExactSameEntriesWrongFalsely : Prop := fnExactSameEntriesRow.holds Try.pinned (OpenSpec.ofChange fnExactSameEntriesWrong)

/-- 'laws.FnExactGetEntry': WHATEVER THE INPUT: true; the input reads as it did. -/
def fnExactGetEntrySpec : ChangeSpec := { name := "fnExactGetEntry", fn := fun _ => fun
  | [d1, d2] => { results := [.lit (.bool true)], args := [d1, d2] }
  | _ => none }
def fnExactGetEntryRow : OpenClaim := { program := "ytojfojkfopplnab", sum := "be3a8957ee6a9b2fdfe46e08ea150a7cb7423f0b4b177c1f641dcde3b6e3e977", func := "loop.example/g01174/laws.FnExactGetEntry", spec := "fnExactGetEntry", unfollowed := true, recurses := true, apart := false }
def FnExactGetEntrySaid : Prop := fnExactGetEntryRow.holds Try.pinned (OpenSpec.ofChange fnExactGetEntrySpec)

/-- ITS FALSE NEIGHBOUR: 'it returns false'. Refute it at one input. -/
def fnExactGetEntryWrong : ChangeSpec := { name := "fnExactGetEntry", fn := fun _ => fun
  | [d1, d2] => { results := [.lit (.bool false)], args := [d1, d2] }
  | _ => none }
def FnExactGetEntryWrongFalsely : Prop := fnExactGetEntryRow.holds Try.pinned (OpenSpec.ofChange fnExactGetEntryWrong)

/-- 'laws.FnExactPutEntry': WHATEVER THE INPUT: true; the input reads as it did. -/
def fnExactPutEntrySpec : ChangeSpec := { name := "fnExactPutEntry", fn := fun _ => fun
  | [d1, d2] => { results := [.lit (.bool true)], args := [d1, d2] }
  | _ => none }
def fnExactPutEntryRow : OpenClaim := { program := "ytojfojkfopplnab", sum := "be3a8957ee6a9b2fdfe46e08ea150a7cb7423f0b4b177c1f641dcde3b6e3e977", func := "loop.example/g01174/laws.FnExactPutEntry", spec := "fnExactPutEntry", inPlace := ["slices.overlaps[loop.example/g01174/impl.Entry]"], unfollowed := true, recurses := true, apart := false }
def FnExactPutEntrySaid : Prop := fnExactPutEntryRow.holds Try.pinned (OpenSpec.ofChange fnExactPutEntrySpec)

/-- ITS FALSE NEIGHBOUR: 'it returns false'. Refute it at one input. -/
def fnExactPutEntryWrong : ChangeSpec := { name := "fnExactPutEntry", fn := fun _ => fun
  | [d1, d2] => { results := [.lit (.bool false)], args := [d1, d2] }
  | _ => none }
def FnExactPutEntryWrongFalsely : Prop := fnExactPutEntryRow.holds Try.pinned (OpenSpec.ofChange fnExactPutEntryWrong)

/-- 'laws.FnExactDeleteEntry': WHATEVER THE INPUT: true; the input reads as it did. -/
def fnExactDeleteEntrySpec : ChangeSpec := { name := "fnExactDeleteEntry", fn := fun _ => fun
  | [d1, d2] => { results := [.lit (.bool true)], args := [d1, d2] }
  | _ => none }
def fnExactDeleteEntryRow : OpenClaim := { program := "ytojfojkfopplnab", sum := "be3a8957ee6a9b2fdfe46e08ea150a7cb7423f0b4b177c1f641dcde3b6e3e977", func := "loop.example/g01174/laws.FnExactDeleteEntry", spec := "fnExactDeleteEntry", unfollowed := true, recurses := true, apart := false }
def FnExactDeleteEntrySaid : Prop := fnExactDeleteEntryRow.holds Try.pinned (OpenSpec.ofChange fnExactDeleteEntrySpec)

/-- ITS FALSE NEIGHBOUR: 'it returns false'. Refute it at one input. -/
def fnExactDeleteEntryWrong : ChangeSpec := { name := "fnExactDeleteEntry", fn := fun _ => fun
  | [d1, d2] => { results := [.lit (.bool false)], args := [d1, d2] }
  | _ => none }
def FnExactDeleteEntryWrongFalsely : Prop := fnExactDeleteEntryRow.holds Try.pinned (OpenSpec.ofChange fnExactDeleteEntryWrong)

/-- 'laws.FnExactRangeOfEntries': WHATEVER THE INPUT: true; the input reads as it did. -/
def fnExactRangeOfEntriesSpec : ChangeSpec := { name := "fnExactRangeOfEntries", fn := fun _ => fun
  | [d1, d2, d3] => { results := [.lit (.bool true)], args := [d1, d2, d3] }
  | _ => none }
def fnExactRangeOfEntriesRow : OpenClaim := { program := "ytojfojkfopplnab", sum := "be3a8957ee6a9b2fdfe46e08ea150a7cb7423f0b4b177c1f641dcde3b6e3e977", func := "loop.example/g01174/laws.FnExactRangeOfEntries", spec := "fnExactRangeOfEntries", apart := false }
def FnExactRangeOfEntriesSaid : Prop := fnExactRangeOfEntriesRow.holds Try.pinned (OpenSpec.ofChange fnExactRangeOfEntriesSpec)

/-- ITS FALSE NEIGHBOUR: 'it returns false'. Refute it at one input. -/
def fnExactRangeOfEntriesWrong : ChangeSpec := { name := "fnExactRangeOfEntries", fn := fun _ => fun
  | [d1, d2, d3] => { results := [.lit (.bool false)], args := [d1, d2, d3] }
  | _ => none }
def FnExactRangeOfEntriesWrongFalsely : Prop := fnExactRangeOfEntriesRow.holds Try.pinned (OpenSpec.ofChange fnExactRangeOfEntriesWrong)

/-- 'laws.FnExactPriorityOf': WHATEVER THE INPUT: true; the input reads as it did. -/
def fnExactPriorityOfSpec : ChangeSpec := { name := "fnExactPriorityOf", fn := fun _ => fun
  | [d] => { results := [.lit (.bool true)], args := [d] }
  | _ => none }
def fnExactPriorityOfRow : OpenClaim := { program := "ytojfojkfopplnab", sum := "be3a8957ee6a9b2fdfe46e08ea150a7cb7423f0b4b177c1f641dcde3b6e3e977", func := "loop.example/g01174/laws.FnExactPriorityOf", spec := "fnExactPriorityOf", unfollowed := true, recurses := true, apart := false }
def FnExactPriorityOfSaid : Prop := fnExactPriorityOfRow.holds Try.pinned (OpenSpec.ofChange fnExactPriorityOfSpec)

/-- ITS FALSE NEIGHBOUR: 'it returns false'. Refute it at one input. -/
def fnExactPriorityOfWrong : ChangeSpec := { name := "fnExactPriorityOf", fn := fun _ => fun
  | [d] => { results := [.lit (.bool false)], args := [d] }
  | _ => none }
def FnExactPriorityOfWrongFalsely : Prop := fnExactPriorityOfRow.holds Try.pinned (OpenSpec.ofChange fnExactPriorityOfWrong)

/-- 'laws.FnExactEmptyMapKey': WHATEVER THE INPUT: true; the input reads as it did. -/
def fnExactEmptyMapKeySpec : ChangeSpec := { name := "fnExactEmptyMapKey", fn := fun _ => fun
  | [] => { results := [.lit (.bool true)], args := [] }
  | _ => none }
def fnExactEmptyMapKeyRow : OpenClaim := { program := "ytojfojkfopplnab", sum := "be3a8957ee6a9b2fdfe46e08ea150a7cb7423f0b4b177c1f641dcde3b6e3e977", func := "loop.example/g01174/laws.FnExactEmptyMapKey", spec := "fnExactEmptyMapKey", unfollowed := true, recurses := true, apart := false }
def FnExactEmptyMapKeySaid : Prop := fnExactEmptyMapKeyRow.holds Try.pinned (OpenSpec.ofChange fnExactEmptyMapKeySpec)

/-- ITS FALSE NEIGHBOUR: 'it returns false'. Refute it at one input. -/
def fnExactEmptyMapKeyWrong : ChangeSpec := { name := "fnExactEmptyMapKey", fn := fun _ => fun
  | [] => { results := [.lit (.bool false)], args := [] }
  | _ => none }
def FnExactEmptyMapKeyWrongFalsely : Prop := fnExactEmptyMapKeyRow.holds Try.pinned (OpenSpec.ofChange fnExactEmptyMapKeyWrong)

/-- 'laws.FnExactMapNodeBytes': WHATEVER THE INPUT: true; the input reads as it did. -/
def fnExactMapNodeBytesSpec : ChangeSpec := { name := "fnExactMapNodeBytes", fn := fun _ => fun
  | [d] => { results := [.lit (.bool true)], args := [d] }
  | _ => none }
def fnExactMapNodeBytesRow : OpenClaim := { program := "ytojfojkfopplnab", sum := "be3a8957ee6a9b2fdfe46e08ea150a7cb7423f0b4b177c1f641dcde3b6e3e977", func := "loop.example/g01174/laws.FnExactMapNodeBytes", spec := "fnExactMapNodeBytes", apart := false }
def FnExactMapNodeBytesSaid : Prop := fnExactMapNodeBytesRow.holds Try.pinned (OpenSpec.ofChange fnExactMapNodeBytesSpec)

/-- ITS FALSE NEIGHBOUR: 'it returns false'. Refute it at one input. -/
def fnExactMapNodeBytesWrong : ChangeSpec := { name := "fnExactMapNodeBytes", fn := fun _ => fun
  | [d] => { results := [.lit (.bool false)], args := [d] }
  | _ => none }
def FnExactMapNodeBytesWrongFalsely : Prop := fnExactMapNodeBytesRow.holds Try.pinned (OpenSpec.ofChange fnExactMapNodeBytesWrong)

/-- 'laws.FnExactReadMapNode': WHATEVER THE INPUT: true; the input reads as it did. -/
def fnExactReadMapNodeSpec : ChangeSpec := { name := "fnExactReadMapNode", fn := fun _ => fun
  | [d] => { results := [.lit (.bool true)], args := [d] }
  | _ => none }
def fnExactReadMapNodeRow : OpenClaim := { program := "ytojfojkfopplnab", sum := "be3a8957ee6a9b2fdfe46e08ea150a7cb7423f0b4b177c1f641dcde3b6e3e977", func := "loop.example/g01174/laws.FnExactReadMapNode", spec := "fnExactReadMapNode", apart := false }
def FnExactReadMapNodeSaid : Prop := fnExactReadMapNodeRow.holds Try.pinned (OpenSpec.ofChange fnExactReadMapNodeSpec)

/-- ITS FALSE NEIGHBOUR: 'it returns false'. Refute it at one input. -/
def fnExactReadMapNodeWrong : ChangeSpec := { name := "fnExactReadMapNode", fn := fun _ => fun
  | [d] => { results := [.lit (.bool false)], args := [d] }
  | _ => none }
def FnExactReadMapNodeWrongFalsely : Prop := fnExactReadMapNodeRow.holds Try.pinned (OpenSpec.ofChange fnExactReadMapNodeWrong)

/-- 'laws.FnExactMapNodeKey': WHATEVER THE INPUT: true; the input reads as it did. -/
def fnExactMapNodeKeySpec : ChangeSpec := { name := "fnExactMapNodeKey", fn := fun _ => fun
  | [d] => { results := [.lit (.bool true)], args := [d] }
  | _ => none }
def fnExactMapNodeKeyRow : OpenClaim := { program := "ytojfojkfopplnab", sum := "be3a8957ee6a9b2fdfe46e08ea150a7cb7423f0b4b177c1f641dcde3b6e3e977", func := "loop.example/g01174/laws.FnExactMapNodeKey", spec := "fnExactMapNodeKey", unfollowed := true, recurses := true, apart := false }
def FnExactMapNodeKeySaid : Prop := fnExactMapNodeKeyRow.holds Try.pinned (OpenSpec.ofChange fnExactMapNodeKeySpec)

/-- ITS FALSE NEIGHBOUR: 'it returns false'. Refute it at one input. -/
def fnExactMapNodeKeyWrong : ChangeSpec := { name := "fnExactMapNodeKey", fn := fun _ => fun
  | [d] => { results := [.lit (.bool false)], args := [d] }
  | _ => none }
def FnExactMapNodeKeyWrongFalsely : Prop := fnExactMapNodeKeyRow.holds Try.pinned (OpenSpec.ofChange fnExactMapNodeKeyWrong)

/- THE SECOND FORM. 'bulk': how many values and letters a reading holds, each counted each time it is reached (what is shared counts as often as it is met; a slice's spare places count too). A statement '..UptoSaid' is the law's where the arguments, and the package variables that the reading takes, are together of bulk at most 1048576: NARROWER than '..Said'. Prove '..Said' where nothing that the law and all that it calls make is longer than what came in: it says more and counts as full. Else prove '..UptoSaid'. A law counts once. -/
mutual
def uptoBulk {H : Type} : DataW H → Nat
  | .lit (.string bytes) => bytes.length + 1
  | .lit _ => 1
  | .nil => 1
  | .ptr d => uptoBulk d + 1
  | .slice elems spare => uptoBulkAll elems + uptoBulkAll spare + 1
  | .agg parts => uptoBulkAll parts + 1
  | .iface _ d => uptoBulk d + 1
  | .map entries => uptoBulkEntries entries + 1
  | .held _ => 1
def uptoBulkAll {H : Type} : List (DataW H) → Nat
  | [] => 0
  | d :: r => uptoBulk d + uptoBulkAll r
def uptoBulkEntries {H : Type} : List (Lit × DataW H) → Nat
  | [] => 0
  | x :: r => uptoBulkEntry x + uptoBulkEntries r
def uptoBulkEntry {H : Type} : Lit × DataW H → Nat
  | (.string bytes, d) => bytes.length + uptoBulk d + 1
  | (_, d) => uptoBulk d + 1
 end
def uptoSmall : (H : Type) → List (DataW H) → Bool := fun _ ds => decide (uptoBulkAll ds ≤ 1048576)
def OpenSpec.upto (s : _root_.Go.ChangeSpec) : _root_.Go.OpenSpec := { _root_.Go.OpenSpec.ofChange s with cond := some uptoSmall }

/-- 'laws.FnExactValidEntry', WHERE WHAT IT READS IS OF BULK AT MOST 1048576: true; the input reads as it did. -/
def fnExactValidEntryUptoRow : OpenClaim := { program := "ytojfojkfopplnab", sum := "be3a8957ee6a9b2fdfe46e08ea150a7cb7423f0b4b177c1f641dcde3b6e3e977", func := "loop.example/g01174/laws.FnExactValidEntry", spec := "fnExactValidEntry", apart := false, narrowed := true }
def FnExactValidEntryUptoSaid : Prop := fnExactValidEntryUptoRow.holds Try.pinned (OpenSpec.upto fnExactValidEntrySpec)

/-- 'laws.FnExactValidEntries', WHERE WHAT IT READS IS OF BULK AT MOST 1048576: true; the input reads as it did. -/
def fnExactValidEntriesUptoRow : OpenClaim := { program := "ytojfojkfopplnab", sum := "be3a8957ee6a9b2fdfe46e08ea150a7cb7423f0b4b177c1f641dcde3b6e3e977", func := "loop.example/g01174/laws.FnExactValidEntries", spec := "fnExactValidEntries", apart := false, narrowed := true }
def FnExactValidEntriesUptoSaid : Prop := fnExactValidEntriesUptoRow.holds Try.pinned (OpenSpec.upto fnExactValidEntriesSpec)

/-- 'laws.FnExactSameEntries', WHERE WHAT IT READS IS OF BULK AT MOST 1048576: true; the input reads as it did. -/
def fnExactSameEntriesUptoRow : OpenClaim := { program := "ytojfojkfopplnab", sum := "be3a8957ee6a9b2fdfe46e08ea150a7cb7423f0b4b177c1f641dcde3b6e3e977", func := "loop.example/g01174/laws.FnExactSameEntries", spec := "fnExactSameEntries", apart := false, narrowed := true }
def FnExactSameEntriesUptoSaid : Prop := fnExactSameEntriesUptoRow.holds Try.pinned (OpenSpec.upto fnExactSameEntriesSpec)

/-- 'laws.FnExactGetEntry', WHERE WHAT IT READS IS OF BULK AT MOST 1048576: true; the input reads as it did. -/
def fnExactGetEntryUptoRow : OpenClaim := { program := "ytojfojkfopplnab", sum := "be3a8957ee6a9b2fdfe46e08ea150a7cb7423f0b4b177c1f641dcde3b6e3e977", func := "loop.example/g01174/laws.FnExactGetEntry", spec := "fnExactGetEntry", unfollowed := true, recurses := true, apart := false, narrowed := true }
def FnExactGetEntryUptoSaid : Prop := fnExactGetEntryUptoRow.holds Try.pinned (OpenSpec.upto fnExactGetEntrySpec)

/-- 'laws.FnExactPutEntry', WHERE WHAT IT READS IS OF BULK AT MOST 1048576: true; the input reads as it did. -/
def fnExactPutEntryUptoRow : OpenClaim := { program := "ytojfojkfopplnab", sum := "be3a8957ee6a9b2fdfe46e08ea150a7cb7423f0b4b177c1f641dcde3b6e3e977", func := "loop.example/g01174/laws.FnExactPutEntry", spec := "fnExactPutEntry", inPlace := ["slices.overlaps[loop.example/g01174/impl.Entry]"], unfollowed := true, recurses := true, apart := false, narrowed := true }
def FnExactPutEntryUptoSaid : Prop := fnExactPutEntryUptoRow.holds Try.pinned (OpenSpec.upto fnExactPutEntrySpec)

/-- 'laws.FnExactDeleteEntry', WHERE WHAT IT READS IS OF BULK AT MOST 1048576: true; the input reads as it did. -/
def fnExactDeleteEntryUptoRow : OpenClaim := { program := "ytojfojkfopplnab", sum := "be3a8957ee6a9b2fdfe46e08ea150a7cb7423f0b4b177c1f641dcde3b6e3e977", func := "loop.example/g01174/laws.FnExactDeleteEntry", spec := "fnExactDeleteEntry", unfollowed := true, recurses := true, apart := false, narrowed := true }
def FnExactDeleteEntryUptoSaid : Prop := fnExactDeleteEntryUptoRow.holds Try.pinned (OpenSpec.upto fnExactDeleteEntrySpec)

/-- 'laws.FnExactRangeOfEntries', WHERE WHAT IT READS IS OF BULK AT MOST 1048576: true; the input reads as it did. -/
def fnExactRangeOfEntriesUptoRow : OpenClaim := { program := "ytojfojkfopplnab", sum := "be3a8957ee6a9b2fdfe46e08ea150a7cb7423f0b4b177c1f641dcde3b6e3e977", func := "loop.example/g01174/laws.FnExactRangeOfEntries", spec := "fnExactRangeOfEntries", apart := false, narrowed := true }
def FnExactRangeOfEntriesUptoSaid : Prop := fnExactRangeOfEntriesUptoRow.holds Try.pinned (OpenSpec.upto fnExactRangeOfEntriesSpec)

/-- 'laws.FnExactPriorityOf', WHERE WHAT IT READS IS OF BULK AT MOST 1048576: true; the input reads as it did. -/
def fnExactPriorityOfUptoRow : OpenClaim := { program := "ytojfojkfopplnab", sum := "be3a8957ee6a9b2fdfe46e08ea150a7cb7423f0b4b177c1f641dcde3b6e3e977", func := "loop.example/g01174/laws.FnExactPriorityOf", spec := "fnExactPriorityOf", unfollowed := true, recurses := true, apart := false, narrowed := true }
def FnExactPriorityOfUptoSaid : Prop := fnExactPriorityOfUptoRow.holds Try.pinned (OpenSpec.upto fnExactPriorityOfSpec)

/-- 'laws.FnExactEmptyMapKey', WHERE WHAT IT READS IS OF BULK AT MOST 1048576: true; the input reads as it did. -/
def fnExactEmptyMapKeyUptoRow : OpenClaim := { program := "ytojfojkfopplnab", sum := "be3a8957ee6a9b2fdfe46e08ea150a7cb7423f0b4b177c1f641dcde3b6e3e977", func := "loop.example/g01174/laws.FnExactEmptyMapKey", spec := "fnExactEmptyMapKey", unfollowed := true, recurses := true, apart := false, narrowed := true }
def FnExactEmptyMapKeyUptoSaid : Prop := fnExactEmptyMapKeyUptoRow.holds Try.pinned (OpenSpec.upto fnExactEmptyMapKeySpec)

/-- 'laws.FnExactMapNodeBytes', WHERE WHAT IT READS IS OF BULK AT MOST 1048576: true; the input reads as it did. -/
def fnExactMapNodeBytesUptoRow : OpenClaim := { program := "ytojfojkfopplnab", sum := "be3a8957ee6a9b2fdfe46e08ea150a7cb7423f0b4b177c1f641dcde3b6e3e977", func := "loop.example/g01174/laws.FnExactMapNodeBytes", spec := "fnExactMapNodeBytes", apart := false, narrowed := true }
def FnExactMapNodeBytesUptoSaid : Prop := fnExactMapNodeBytesUptoRow.holds Try.pinned (OpenSpec.upto fnExactMapNodeBytesSpec)

/-- 'laws.FnExactReadMapNode', WHERE WHAT IT READS IS OF BULK AT MOST 1048576: true; the input reads as it did. -/
def fnExactReadMapNodeUptoRow : OpenClaim := { program := "ytojfojkfopplnab", sum := "be3a8957ee6a9b2fdfe46e08ea150a7cb7423f0b4b177c1f641dcde3b6e3e977", func := "loop.example/g01174/laws.FnExactReadMapNode", spec := "fnExactReadMapNode", apart := false, narrowed := true }
def FnExactReadMapNodeUptoSaid : Prop := fnExactReadMapNodeUptoRow.holds Try.pinned (OpenSpec.upto fnExactReadMapNodeSpec)

/-- 'laws.FnExactMapNodeKey', WHERE WHAT IT READS IS OF BULK AT MOST 1048576: true; the input reads as it did. -/
def fnExactMapNodeKeyUptoRow : OpenClaim := { program := "ytojfojkfopplnab", sum := "be3a8957ee6a9b2fdfe46e08ea150a7cb7423f0b4b177c1f641dcde3b6e3e977", func := "loop.example/g01174/laws.FnExactMapNodeKey", spec := "fnExactMapNodeKey", unfollowed := true, recurses := true, apart := false, narrowed := true }
def FnExactMapNodeKeyUptoSaid : Prop := fnExactMapNodeKeyUptoRow.holds Try.pinned (OpenSpec.upto fnExactMapNodeKeySpec)

end Rows
end Go.Proofs.Ytojfojkfopplnab
