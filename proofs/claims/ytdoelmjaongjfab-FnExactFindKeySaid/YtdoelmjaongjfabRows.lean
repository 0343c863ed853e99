/-
  No cell of these rows narrows 'for every input' (looked for: loops, veiled, ifaces, maps, wideKeys, modest, calm, conditions, laid).
  DERIVED. THE GIVEN ROWS OF THIS SEAT. 10 by the template 'for every input the law returns true; each argument reads behind the call as it read before'; 0 by the template 'total and deterministic' (their statements: YtdoelmjaongjfabTotals.lean).
  GIVEN WITH THE SEED: the statements are not yours to turn. If you find one false, say at which input.
  Laid BY PROGRAM, IN A SANDBOX (cutbox-rows.mjs): the forced cells as the released guide's own fill.sh prints them over the translation e7d8a5cd524e9c4b… (all of the seat's roots in one cut). By AI agents, Wed Nov 11 2026. No macro, syntax, notation, axiom, sorry.
-/
import Derived.Test.YtdoelmjaongjfabChecked
import GoSem.Claim
import GoSem.ClaimJoined
import GoSem.ClaimMapViews
import Derived.JoinedTies
import Derived.KernelRfl
namespace Go.Proofs.Ytdoelmjaongjfab
/- THE CELL 'sum', in the pinned program and in every row, IS THE sha256 OF THE DUMP (.gsa) THAT YtdoelmjaongjfabProg.lean LOADS. Nothing in Lean hashes anything: it is a label: what it is worth is what the hold of that sum in a sandbox is worth. -/
noncomputable def Try.pinned : Pinned := { name := "ytdoelmjaongjfab", sum := "e7d8a5cd524e9c4b70e2fac3663d9ed0834de736f94fc1e59e4945db2fde7345", checked := Try.checked }
namespace Rows
def none {H : Type} : Left H := { results := [], args := [] }

/-- 'laws.FnExactSortKeys': WHATEVER THE INPUT: true; the input reads as it did. -/
def fnExactSortKeysSpec : ChangeSpec := { name := "fnExactSortKeys", fn := fun _ => fun
  | [d] => { results := [.lit (.bool true)], args := [d] }
  | _ => none }
def fnExactSortKeysRow : OpenClaim := { program := "ytdoelmjaongjfab", sum := "e7d8a5cd524e9c4b70e2fac3663d9ed0834de736f94fc1e59e4945db2fde7345", func := "loop.example/g01174/laws.FnExactSortKeys", spec := "fnExactSortKeys", inPlace := ["internal/bytealg.Compare"], unfollowed := true, recurses := true, plainKeys := false, apart := false }
def FnExactSortKeysSaid : Prop := fnExactSortKeysRow.holds Try.pinned (OpenSpec.ofChange fnExactSortKeysSpec)

/-- ITS FALSE NEIGHBOUR: 'it returns false'. Refute it at one input. -/
def fnExactSortKeysWrong : ChangeSpec := { name := "fnExactSortKeys", fn := fun _ => fun
  | [d] => { results := [.lit (.bool false)], args := [d] }
  | _ => none }
def FnExactSortKeysWrongFalsely : Prop := fnExactSortKeysRow.holds Try.pinned (OpenSpec.ofChange fnExactSortKeysWrong)

/-- 'laws.FnExactFindKey': WHATEVER THE INPUT: true; the input reads as it did. -/
def fnExactFindKeySpec : ChangeSpec := { name := "fnExactFindKey", fn := fun _ => fun
  | [d1, d2] => { results := [.lit (.bool true)], args := [d1, d2] }
  | _ => none }
def fnExactFindKeyRow : OpenClaim := { program := "ytdoelmjaongjfab", sum := "e7d8a5cd524e9c4b70e2fac3663d9ed0834de736f94fc1e59e4945db2fde7345", func := "loop.example/g01174/laws.FnExactFindKey", spec := "fnExactFindKey", inPlace := ["internal/bytealg.IndexByteString"], plainKeys := false, apart := false }
def FnExactFindKeySaid : Prop := fnExactFindKeyRow.holds Try.pinned (OpenSpec.ofChange fnExactFindKeySpec)

/-- ITS FALSE NEIGHBOUR: 'it returns false'. Refute it at one input. -/
def fnExactFindKeyWrong : ChangeSpec := { name := "fnExactFindKey", fn := fun _ => fun
  | [d1, d2] => { results := [.lit (.bool false)], args := [d1, d2] }
  | _ => none }
def FnExactFindKeyWrongFalsely : Prop := fnExactFindKeyRow.holds Try.pinned (OpenSpec.ofChange fnExactFindKeyWrong)

/-- 'laws.FnExactNearestKeys': WHATEVER THE INPUT: true; the input reads as it did. -/
def fnExactNearestKeysSpec : ChangeSpec := { name := "fnExactNearestKeys", fn := fun _ => fun
  | [d1, d2, d3] => { results := [.lit (.bool true)], args := [d1, d2, d3] }
  | _ => none }
def fnExactNearestKeysRow : OpenClaim := { program := "ytdoelmjaongjfab", sum := "e7d8a5cd524e9c4b70e2fac3663d9ed0834de736f94fc1e59e4945db2fde7345", func := "loop.example/g01174/laws.FnExactNearestKeys", spec := "fnExactNearestKeys", inPlace := ["internal/bytealg.Compare"], unfollowed := true, recurses := true, plainKeys := false, apart := false }
def FnExactNearestKeysSaid : Prop := fnExactNearestKeysRow.holds Try.pinned (OpenSpec.ofChange fnExactNearestKeysSpec)

/-- ITS FALSE NEIGHBOUR: 'it returns false'. Refute it at one input. -/
def fnExactNearestKeysWrong : ChangeSpec := { name := "fnExactNearestKeys", fn := fun _ => fun
  | [d1, d2, d3] => { results := [.lit (.bool false)], args := [d1, d2, d3] }
  | _ => none }
def FnExactNearestKeysWrongFalsely : Prop := fnExactNearestKeysRow.holds Try.pinned (OpenSpec.ofChange fnExactNearestKeysWrong)

/-- 'laws.FnKeyLists': WHATEVER THE INPUT: true; the input reads as it did. -/
def fnKeyListsSpec : ChangeSpec := { name := "fnKeyLists", fn := fun _ => fun
  | [d1, d2] => { results := [.lit (.bool true)], args := [d1, d2] }
  | _ => none }
def fnKeyListsRow : OpenClaim := { program := "ytdoelmjaongjfab", sum := "e7d8a5cd524e9c4b70e2fac3663d9ed0834de736f94fc1e59e4945db2fde7345", func := "loop.example/g01174/laws.FnKeyLists", spec := "fnKeyLists", inPlace := ["internal/bytealg.Compare", "internal/bytealg.IndexByteString"], unfollowed := true, recurses := true, plainKeys := false, apart := false }
def FnKeyListsSaid : Prop := fnKeyListsRow.holds Try.pinned (OpenSpec.ofChange fnKeyListsSpec)

/-- ITS FALSE NEIGHBOUR: 'it returns false'. Refute it at one input. -/
def fnKeyListsWrong : ChangeSpec := { name := "fnKeyLists", fn := fun _ => fun
  | [d1, d2] => { results := [.lit (.bool false)], args := [d1, d2] }
  | _ => none }
def FnKeyListsWrongFalsely : Prop := fnKeyListsRow.holds Try.pinned (OpenSpec.ofChange fnKeyListsWrong)

/-- 'laws.FnExactValidCommit': WHATEVER THE INPUT: true; the input reads as it did. -/
def fnExactValidCommitSpec : ChangeSpec := { name := "fnExactValidCommit", fn := fun _ => fun
  | [d] => { results := [.lit (.bool true)], args := [d] }
  | _ => none }
def fnExactValidCommitRow : OpenClaim := { program := "ytdoelmjaongjfab", sum := "e7d8a5cd524e9c4b70e2fac3663d9ed0834de736f94fc1e59e4945db2fde7345", func := "loop.example/g01174/laws.FnExactValidCommit", spec := "fnExactValidCommit", inPlace := ["internal/bytealg.Compare"], plainKeys := false, apart := false }
def FnExactValidCommitSaid : Prop := fnExactValidCommitRow.holds Try.pinned (OpenSpec.ofChange fnExactValidCommitSpec)

/-- ITS FALSE NEIGHBOUR: 'it returns false'. Refute it at one input. -/
def fnExactValidCommitWrong : ChangeSpec := { name := "fnExactValidCommit", fn := fun _ => fun
  | [d] => { results := [.lit (.bool false)], args := [d] }
  | _ => none }
def FnExactValidCommitWrongFalsely : Prop := fnExactValidCommitRow.holds Try.pinned (OpenSpec.ofChange fnExactValidCommitWrong)

/-- 'laws.FnExactSameCommit': WHATEVER THE INPUT: true; the input reads as it did. -/
def fnExactSameCommitSpec : ChangeSpec := { name := "fnExactSameCommit", fn := fun _ => fun
  | [d1, d2] => { results := [.lit (.bool true)], args := [d1, d2] }
  | _ => none }
def fnExactSameCommitRow : OpenClaim := { program := "ytdoelmjaongjfab", sum := "e7d8a5cd524e9c4b70e2fac3663d9ed0834de736f94fc1e59e4945db2fde7345", func := "loop.example/g01174/laws.FnExactSameCommit", spec := "fnExactSameCommit", plainKeys := false, apart := false }
def FnExactSameCommitSaid : Prop := fnExactSameCommitRow.holds Try.pinned (OpenSpec.ofChange fnExactSameCommitSpec)

/-- ITS FALSE NEIGHBOUR: 'it returns false'. Refute it at one input. -/
def fnExactSameCommitWrong : ChangeSpec := { name := "fnExactSameCommit", fn := fun _ => fun
  | [d1, d2] => { results := [.lit (.bool false)], args := [d1, d2] }
  | _ => none }
def FnExactSameCommitWrongFalsely : Prop := fnExactSameCommitRow.holds Try.pinned (OpenSpec.ofChange fnExactSameCommitWrong)

/-- 'laws.FnExactCommitData': WHATEVER THE INPUT: true; the input reads as it did. -/
def fnExactCommitDataSpec : ChangeSpec := { name := "fnExactCommitData", fn := fun _ => fun
  | [d] => { results := [.lit (.bool true)], args := [d] }
  | _ => none }
def fnExactCommitDataRow : OpenClaim := { program := "ytdoelmjaongjfab", sum := "e7d8a5cd524e9c4b70e2fac3663d9ed0834de736f94fc1e59e4945db2fde7345", func := "loop.example/g01174/laws.FnExactCommitData", spec := "fnExactCommitData", inPlace := ["internal/bytealg.Compare"], plainKeys := false, apart := false }
def FnExactCommitDataSaid : Prop := fnExactCommitDataRow.holds Try.pinned (OpenSpec.ofChange fnExactCommitDataSpec)

/-- ITS FALSE NEIGHBOUR: 'it returns false'. Refute it at one input. -/
def fnExactCommitDataWrong : ChangeSpec := { name := "fnExactCommitData", fn := fun _ => fun
  | [d] => { results := [.lit (.bool false)], args := [d] }
  | _ => none }
def FnExactCommitDataWrongFalsely : Prop := fnExactCommitDataRow.holds Try.pinned (OpenSpec.ofChange fnExactCommitDataWrong)

/-- 'laws.FnExactReadCommit': WHATEVER THE INPUT: true; the input reads as it did. -/
def fnExactReadCommitSpec : ChangeSpec := { name := "fnExactReadCommit", fn := fun _ => fun
  | [d] => { results := [.lit (.bool true)], args := [d] }
  | _ => none }
def fnExactReadCommitRow : OpenClaim := { program := "ytdoelmjaongjfab", sum := "e7d8a5cd524e9c4b70e2fac3663d9ed0834de736f94fc1e59e4945db2fde7345", func := "loop.example/g01174/laws.FnExactReadCommit", spec := "fnExactReadCommit", inPlace := ["internal/bytealg.Compare"], unfollowed := true, recurses := true, plainKeys := false, apart := false }
def FnExactReadCommitSaid : Prop := fnExactReadCommitRow.holds Try.pinned (OpenSpec.ofChange fnExactReadCommitSpec)

/-- ITS FALSE NEIGHBOUR: 'it returns false'. Refute it at one input. -/
def fnExactReadCommitWrong : ChangeSpec := { name := "fnExactReadCommit", fn := fun _ => fun
  | [d] => { results := [.lit (.bool false)], args := [d] }
  | _ => none }
def FnExactReadCommitWrongFalsely : Prop := fnExactReadCommitRow.holds Try.pinned (OpenSpec.ofChange fnExactReadCommitWrong)

/-- 'laws.FnExactCommitKey': WHATEVER THE INPUT: true; the input reads as it did. -/
def fnExactCommitKeySpec : ChangeSpec := { name := "fnExactCommitKey", fn := fun _ => fun
  | [d] => { results := [.lit (.bool true)], args := [d] }
  | _ => none }
def fnExactCommitKeyRow : OpenClaim := { program := "ytdoelmjaongjfab", sum := "e7d8a5cd524e9c4b70e2fac3663d9ed0834de736f94fc1e59e4945db2fde7345", func := "loop.example/g01174/laws.FnExactCommitKey", spec := "fnExactCommitKey", inPlace := ["internal/bytealg.Compare"], unfollowed := true, recurses := true, plainKeys := false, apart := false }
def FnExactCommitKeySaid : Prop := fnExactCommitKeyRow.holds Try.pinned (OpenSpec.ofChange fnExactCommitKeySpec)

/-- ITS FALSE NEIGHBOUR: 'it returns false'. Refute it at one input. -/
def fnExactCommitKeyWrong : ChangeSpec := { name := "fnExactCommitKey", fn := fun _ => fun
  | [d] => { results := [.lit (.bool false)], args := [d] }
  | _ => none }
def FnExactCommitKeyWrongFalsely : Prop := fnExactCommitKeyRow.holds Try.pinned (OpenSpec.ofChange fnExactCommitKeyWrong)

/-- 'laws.FnExactFeedHasher': WHATEVER THE INPUT: true; the input reads as it did. -/
def fnExactFeedHasherSpec : ChangeSpec := { name := "fnExactFeedHasher", fn := fun _ => fun
  | [d1, d2] => { results := [.lit (.bool true)], args := [d1, d2] }
  | _ => none }
def fnExactFeedHasherRow : OpenClaim := { program := "ytdoelmjaongjfab", sum := "e7d8a5cd524e9c4b70e2fac3663d9ed0834de736f94fc1e59e4945db2fde7345", func := "loop.example/g01174/laws.FnExactFeedHasher", spec := "fnExactFeedHasher", unfollowed := true, recurses := true, plainKeys := false, apart := false }
def FnExactFeedHasherSaid : Prop := fnExactFeedHasherRow.holds Try.pinned (OpenSpec.ofChange fnExactFeedHasherSpec)

/-- ITS FALSE NEIGHBOUR: 'it returns false'. Refute it at one input. -/
def fnExactFeedHasherWrong : ChangeSpec := { name := "fnExactFeedHasher", fn := fun _ => fun
  | [d1, d2] => { results := [.lit (.bool false)], args := [d1, d2] }
  | _ => none }
def FnExactFeedHasherWrongFalsely : Prop := fnExactFeedHasherRow.holds Try.pinned (OpenSpec.ofChange fnExactFeedHasherWrong)

/- THE SECOND FORM. 'bulk': how many values and letters a reading holds, each counted each time it is reached (what is shared counts as often as it is met; a slice's spare places count too). A statement '..UptoSaid' is the law's where the arguments, and the package variables that the reading takes, are together of bulk at most 1048576: NARROWER than '..Said'. Prove '..Said' where nothing that the law and all that it calls make is longer than what came in: it says more and counts as full. Else prove '..UptoSaid'. A law counts once. -/
mutual
def uptoBulk {H : Type} : DataW H → Nat
  | .lit (.string bytes) => bytes.length + 1
  | .lit _ => 1
  | .nil => 1
  | .ptr d => uptoBulk d + 1
  | .slice elems spare => uptoBulkAll elems + uptoBulkAll spare + 1
  | .agg parts => uptoBulkAll parts + 1
  | .iface _ d => uptoBulk d + 1
  | .map entries => uptoBulkEntries entries + 1
  | .held _ => 1
def uptoBulkAll {H : Type} : List (DataW H) → Nat
  | [] => 0
  | d :: r => uptoBulk d + uptoBulkAll r
def uptoBulkEntries {H : Type} : List (Lit × DataW H) → Nat
  | [] => 0
  | x :: r => uptoBulkEntry x + uptoBulkEntries r
def uptoBulkEntry {H : Type} : Lit × DataW H → Nat
  | (.string bytes, d) => bytes.length + uptoBulk d + 1
  | (_, d) => uptoBulk d + 1
 end
def uptoSmall : (H : Type) → List (DataW H) → Bool := fun _ ds => decide (uptoBulkAll ds ≤ 1048576)
def OpenSpec.upto (s : _root_.Go.ChangeSpec) : _root_.Go.OpenSpec := { _root_.Go.OpenSpec.ofChange s with cond := some uptoSmall }

/-- 'laws.FnExactSortKeys', WHERE WHAT IT READS IS OF BULK AT MOST 1048576: true; the input reads as it did. -/
def fnExactSortKeysUptoRow : OpenClaim := { program := "ytdoelmjaongjfab", sum := "e7d8a5cd524e9c4b70e2fac3663d9ed0834de736f94fc1e59e4945db2fde7345", func := "loop.example/g01174/laws.FnExactSortKeys", spec := "fnExactSortKeys", inPlace := ["internal/bytealg.Compare"], unfollowed := true, recurses := true, plainKeys := false, apart := false, narrowed := true }
def FnExactSortKeysUptoSaid : Prop := fnExactSortKeysUptoRow.holds Try.pinned (OpenSpec.upto fnExactSortKeysSpec)

/-- 'laws.FnExactFindKey', WHERE WHAT IT READS IS OF BULK AT MOST 1048576: true; the input reads as it did. -/
def fnExactFindKeyUptoRow : OpenClaim := { program := "ytdoelmjaongjfab", sum := "e7d8a5cd524e9c4b70e2fac3663d9ed0834de736f94fc1e59e4945db2fde7345", func := "loop.example/g01174/laws.FnExactFindKey", spec := "fnExactFindKey", inPlace := ["internal/bytealg.IndexByteString"], plainKeys := false, apart := false, narrowed := true }
def FnExactFindKeyUptoSaid : Prop := fnExactFindKeyUptoRow.holds Try.pinned (OpenSpec.upto fnExactFindKeySpec)

/-- 'laws.FnExactNearestKeys', WHERE WHAT IT READS IS OF BULK AT MOST 1048576: true; the input reads as it did. -/
def fnExactNearestKeysUptoRow : OpenClaim := { program := "ytdoelmjaongjfab", sum := "e7d8a5cd524e9c4b70e2fac3663d9ed0834de736f94fc1e59e4945db2fde7345", func := "loop.example/g01174/laws.FnExactNearestKeys", spec := "fnExactNearestKeys", inPlace := ["internal/bytealg.Compare"], unfollowed := true, recurses := true, plainKeys := false, apart := false, narrowed := true }
def FnExactNearestKeysUptoSaid : Prop := fnExactNearestKeysUptoRow.holds Try.pinned (OpenSpec.upto fnExactNearestKeysSpec)

/-- 'laws.FnKeyLists', WHERE WHAT IT READS IS OF BULK AT MOST 1048576: true; the input reads as it did. -/
def fnKeyListsUptoRow : OpenClaim := { program := "ytdoelmjaongjfab", sum := "e7d8a5cd524e9c4b70e2fac3663d9ed0834de736f94fc1e59e4945db2fde7345", func := "loop.example/g01174/laws.FnKeyLists", spec := "fnKeyLists", inPlace := ["internal/bytealg.Compare", "internal/bytealg.IndexByteString"], unfollowed := true, recurses := true, plainKeys := false, apart := false, narrowed := true }
def FnKeyListsUptoSaid : Prop := fnKeyListsUptoRow.holds Try.pinned (OpenSpec.upto fnKeyListsSpec)

/-- 'laws.FnExactValidCommit', WHERE WHAT IT READS IS OF BULK AT MOST 1048576: true; the input reads as it did. -/
def fnExactValidCommitUptoRow : OpenClaim := { program := "ytdoelmjaongjfab", sum := "e7d8a5cd524e9c4b70e2fac3663d9ed0834de736f94fc1e59e4945db2fde7345", func := "loop.example/g01174/laws.FnExactValidCommit", spec := "fnExactValidCommit", inPlace := ["internal/bytealg.Compare"], plainKeys := false, apart := false, narrowed := true }
def FnExactValidCommitUptoSaid : Prop := fnExactValidCommitUptoRow.holds Try.pinned (OpenSpec.upto fnExactValidCommitSpec)

/-- 'laws.FnExactSameCommit', WHERE WHAT IT READS IS OF BULK AT MOST 1048576: true; the input reads as it did. -/
def fnExactSameCommitUptoRow : OpenClaim := { program := "ytdoelmjaongjfab", sum := "e7d8a5cd524e9c4b70e2fac3663d9ed0834de736f94fc1e59e4945db2fde7345", func := "loop.example/g01174/laws.FnExactSameCommit", spec := "fnExactSameCommit", plainKeys := false, apart := false, narrowed := true }
def FnExactSameCommitUptoSaid : Prop := fnExactSameCommitUptoRow.holds Try.pinned (OpenSpec.upto fnExactSameCommitSpec)

/-- 'laws.FnExactCommitData', WHERE WHAT IT READS IS OF BULK AT MOST 1048576: true; the input reads as it did. -/
def fnExactCommitDataUptoRow : OpenClaim := { program := "ytdoelmjaongjfab", sum := "e7d8a5cd524e9c4b70e2fac3663d9ed0834de736f94fc1e59e4945db2fde7345", func := "loop.example/g01174/laws.FnExactCommitData", spec := "fnExactCommitData", inPlace := ["internal/bytealg.Compare"], plainKeys := false, apart := false, narrowed := true }
def FnExactCommitDataUptoSaid : Prop := fnExactCommitDataUptoRow.holds Try.pinned (OpenSpec.upto fnExactCommitDataSpec)

/-- 'laws.FnExactReadCommit', WHERE WHAT IT READS IS OF BULK AT MOST 1048576: true; the input reads as it did. -/
def fnExactReadCommitUptoRow : OpenClaim := { program := "ytdoelmjaongjfab", sum := "e7d8a5cd524e9c4b70e2fac3663d9ed0834de736f94fc1e59e4945db2fde7345", func := "loop.example/g01174/laws.FnExactReadCommit", spec := "fnExactReadCommit", inPlace := ["internal/bytealg.Compare"], unfollowed := true, recurses := true, plainKeys := false, apart := false, narrowed := true }
def FnExactReadCommitUptoSaid : Prop := fnExactReadCommitUptoRow.holds Try.pinned (OpenSpec.upto fnExactReadCommitSpec)

/-- 'laws.FnExactCommitKey', WHERE WHAT IT READS IS OF BULK AT MOST 1048576: true; the input reads as it did. -/
def fnExactCommitKeyUptoRow : OpenClaim := { program := "ytdoelmjaongjfab", sum := "e7d8a5cd524e9c4b70e2fac3663d9ed0834de736f94fc1e59e4945db2fde7345", func := "loop.example/g01174/laws.FnExactCommitKey", spec := "fnExactCommitKey", inPlace := ["internal/bytealg.Compare"], unfollowed := true, recurses := true, plainKeys := false, apart := false, narrowed := true }
def FnExactCommitKeyUptoSaid : Prop := fnExactCommitKeyUptoRow.holds Try.pinned (OpenSpec.upto fnExactCommitKeySpec)

/-- 'laws.FnExactFeedHasher', WHERE WHAT IT READS IS OF BULK AT MOST 1048576: true; the input reads as it did. -/
def fnExactFeedHasherUptoRow : OpenClaim := { program := "ytdoelmjaongjfab", sum := "e7d8a5cd524e9c4b70e2fac3663d9ed0834de736f94fc1e59e4945db2fde7345", func := "loop.example/g01174/laws.FnExactFeedHasher", spec := "fnExactFeedHasher", unfollowed := true, recurses := true, plainKeys := false, apart := false, narrowed := true }
def FnExactFeedHasherUptoSaid : Prop := fnExactFeedHasherUptoRow.holds Try.pinned (OpenSpec.upto fnExactFeedHasherSpec)

end Rows
end Go.Proofs.Ytdoelmjaongjfab
