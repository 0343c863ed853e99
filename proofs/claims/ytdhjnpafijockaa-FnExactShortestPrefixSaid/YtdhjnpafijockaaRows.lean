/-
  No cell of these rows narrows 'for every input' (looked for: loops, veiled, ifaces, maps, wideKeys, modest, calm, conditions, laid).
  DERIVED. THE GIVEN ROWS OF THIS SEAT. 10 by the template 'for every input the law returns true; each argument reads behind the call as it read before'; 0 by the template 'total and deterministic' (their statements: YtdhjnpafijockaaTotals.lean).
  GIVEN WITH THE SEED: the statements are not yours to turn. If you find one false, say at which input.
  Laid BY PROGRAM, IN A SANDBOX (cutbox-rows.mjs): the forced cells as the released guide's own fill.sh prints them over the translation de32df9094d86e43… (all of the seat's roots in one cut). By AI agents, Wed Nov 11 2026. No macro, syntax, notation, axiom, sorry.
-/
import Derived.Test.YtdhjnpafijockaaChecked
import GoSem.Claim
import GoSem.ClaimJoined
import GoSem.ClaimMapViews
import Derived.JoinedTies
import Derived.KernelRfl
namespace Go.Proofs.Ytdhjnpafijockaa
/- THE CELL 'sum', in the pinned program and in every row, IS THE sha256 OF THE DUMP (.gsa) THAT YtdhjnpafijockaaProg.lean LOADS. Nothing in Lean hashes anything: it is a label: what it is worth is what the hold of that sum in a sandbox is worth. -/
noncomputable def Try.pinned : Pinned := { name := "ytdhjnpafijockaa", sum := "de32df9094d86e43e470702b2fce4fe89060037466621ffa861f6d225244d444", checked := Try.checked }
namespace Rows
def none {H : Type} : Left H := { results := [], args := [] }

/-- 'laws.FnExactValidRule': WHATEVER THE INPUT: true; the input reads as it did. -/
def fnExactValidRuleSpec : ChangeSpec := { name := "fnExactValidRule", fn := fun _ => fun
  | [d] => { results := [.lit (.bool true)], args := [d] }
  | _ => none }
def fnExactValidRuleRow : OpenClaim := { program := "ytdhjnpafijockaa", sum := "de32df9094d86e43e470702b2fce4fe89060037466621ffa861f6d225244d444", func := "loop.example/g01174/laws.FnExactValidRule", spec := "fnExactValidRule", plainKeys := false, apart := false }
def FnExactValidRuleSaid : Prop := fnExactValidRuleRow.holds Try.pinned (OpenSpec.ofChange fnExactValidRuleSpec)

/-- ITS FALSE NEIGHBOUR: 'it returns false'. Refute it at one input. -/
def fnExactValidRuleWrong : ChangeSpec := { name := "fnExactValidRule", fn := fun _ => fun
  | [d] => { results := [.lit (.bool false)], args := [d] }
  | _ => none }
def FnExactValidRuleWrongFalsely : Prop := fnExactValidRuleRow.holds Try.pinned (OpenSpec.ofChange fnExactValidRuleWrong)

/-- 'laws.FnExactStartCutter': WHATEVER THE INPUT: true; the input reads as it did. -/
def fnExactStartCutterSpec : ChangeSpec := { name := "fnExactStartCutter", fn := fun _ => fun
  | [d] => { results := [.lit (.bool true)], args := [d] }
  | _ => none }
def fnExactStartCutterRow : OpenClaim := { program := "ytdhjnpafijockaa", sum := "de32df9094d86e43e470702b2fce4fe89060037466621ffa861f6d225244d444", func := "loop.example/g01174/laws.FnExactStartCutter", spec := "fnExactStartCutter", plainKeys := false, apart := false }
def FnExactStartCutterSaid : Prop := fnExactStartCutterRow.holds Try.pinned (OpenSpec.ofChange fnExactStartCutterSpec)

/-- ITS FALSE NEIGHBOUR: 'it returns false'. Refute it at one input. -/
def fnExactStartCutterWrong : ChangeSpec := { name := "fnExactStartCutter", fn := fun _ => fun
  | [d] => { results := [.lit (.bool false)], args := [d] }
  | _ => none }
def FnExactStartCutterWrongFalsely : Prop := fnExactStartCutterRow.holds Try.pinned (OpenSpec.ofChange fnExactStartCutterWrong)

/-- 'laws.FnExactSameCutter': WHATEVER THE INPUT: true; the input reads as it did. -/
def fnExactSameCutterSpec : ChangeSpec := { name := "fnExactSameCutter", fn := fun _ => fun
  | [d1, d2] => { results := [.lit (.bool true)], args := [d1, d2] }
  | _ => none }
def fnExactSameCutterRow : OpenClaim := { program := "ytdhjnpafijockaa", sum := "de32df9094d86e43e470702b2fce4fe89060037466621ffa861f6d225244d444", func := "loop.example/g01174/laws.FnExactSameCutter", spec := "fnExactSameCutter", plainKeys := false, apart := false }
def FnExactSameCutterSaid : Prop := fnExactSameCutterRow.holds Try.pinned (OpenSpec.ofChange fnExactSameCutterSpec)

/-- ITS FALSE NEIGHBOUR: 'it returns false'. Refute it at one input. -/
def fnExactSameCutterWrong : ChangeSpec := { name := "fnExactSameCutter", fn := fun _ => fun
  | [d1, d2] => { results := [.lit (.bool false)], args := [d1, d2] }
  | _ => none }
def FnExactSameCutterWrongFalsely : Prop := fnExactSameCutterRow.holds Try.pinned (OpenSpec.ofChange fnExactSameCutterWrong)

/-- 'laws.FnExactJoinChunks': WHATEVER THE INPUT: true; the input reads as it did. -/
def fnExactJoinChunksSpec : ChangeSpec := { name := "fnExactJoinChunks", fn := fun _ => fun
  | [d] => { results := [.lit (.bool true)], args := [d] }
  | _ => none }
def fnExactJoinChunksRow : OpenClaim := { program := "ytdhjnpafijockaa", sum := "de32df9094d86e43e470702b2fce4fe89060037466621ffa861f6d225244d444", func := "loop.example/g01174/laws.FnExactJoinChunks", spec := "fnExactJoinChunks", plainKeys := false, apart := false }
def FnExactJoinChunksSaid : Prop := fnExactJoinChunksRow.holds Try.pinned (OpenSpec.ofChange fnExactJoinChunksSpec)

/-- ITS FALSE NEIGHBOUR: 'it returns false'. Refute it at one input. -/
def fnExactJoinChunksWrong : ChangeSpec := { name := "fnExactJoinChunks", fn := fun _ => fun
  | [d] => { results := [.lit (.bool false)], args := [d] }
  | _ => none }
def FnExactJoinChunksWrongFalsely : Prop := fnExactJoinChunksRow.holds Try.pinned (OpenSpec.ofChange fnExactJoinChunksWrong)

/-- 'laws.FnExactSortKeys': WHATEVER THE INPUT: true; the input reads as it did. -/
def fnExactSortKeysSpec : ChangeSpec := { name := "fnExactSortKeys", fn := fun _ => fun
  | [d] => { results := [.lit (.bool true)], args := [d] }
  | _ => none }
def fnExactSortKeysRow : OpenClaim := { program := "ytdhjnpafijockaa", sum := "de32df9094d86e43e470702b2fce4fe89060037466621ffa861f6d225244d444", func := "loop.example/g01174/laws.FnExactSortKeys", spec := "fnExactSortKeys", inPlace := ["internal/bytealg.Compare"], unfollowed := true, recurses := true, plainKeys := false, apart := false }
def FnExactSortKeysSaid : Prop := fnExactSortKeysRow.holds Try.pinned (OpenSpec.ofChange fnExactSortKeysSpec)

/-- ITS FALSE NEIGHBOUR: 'it returns false'. Refute it at one input. -/
def fnExactSortKeysWrong : ChangeSpec := { name := "fnExactSortKeys", fn := fun _ => fun
  | [d] => { results := [.lit (.bool false)], args := [d] }
  | _ => none }
def FnExactSortKeysWrongFalsely : Prop := fnExactSortKeysRow.holds Try.pinned (OpenSpec.ofChange fnExactSortKeysWrong)

/-- 'laws.FnExactFindKey': WHATEVER THE INPUT: true; the input reads as it did. -/
def fnExactFindKeySpec : ChangeSpec := { name := "fnExactFindKey", fn := fun _ => fun
  | [d1, d2] => { results := [.lit (.bool true)], args := [d1, d2] }
  | _ => none }
def fnExactFindKeyRow : OpenClaim := { program := "ytdhjnpafijockaa", sum := "de32df9094d86e43e470702b2fce4fe89060037466621ffa861f6d225244d444", func := "loop.example/g01174/laws.FnExactFindKey", spec := "fnExactFindKey", inPlace := ["internal/bytealg.IndexByteString"], plainKeys := false, apart := false }
def FnExactFindKeySaid : Prop := fnExactFindKeyRow.holds Try.pinned (OpenSpec.ofChange fnExactFindKeySpec)

/-- ITS FALSE NEIGHBOUR: 'it returns false'. Refute it at one input. -/
def fnExactFindKeyWrong : ChangeSpec := { name := "fnExactFindKey", fn := fun _ => fun
  | [d1, d2] => { results := [.lit (.bool false)], args := [d1, d2] }
  | _ => none }
def FnExactFindKeyWrongFalsely : Prop := fnExactFindKeyRow.holds Try.pinned (OpenSpec.ofChange fnExactFindKeyWrong)

/-- 'laws.FnExactShortestPrefix': WHATEVER THE INPUT: true; the input reads as it did. -/
def fnExactShortestPrefixSpec : ChangeSpec := { name := "fnExactShortestPrefix", fn := fun _ => fun
  | [d1, d2] => { results := [.lit (.bool true)], args := [d1, d2] }
  | _ => none }
def fnExactShortestPrefixRow : OpenClaim := { program := "ytdhjnpafijockaa", sum := "de32df9094d86e43e470702b2fce4fe89060037466621ffa861f6d225244d444", func := "loop.example/g01174/laws.FnExactShortestPrefix", spec := "fnExactShortestPrefix", plainKeys := false, apart := false }
def FnExactShortestPrefixSaid : Prop := fnExactShortestPrefixRow.holds Try.pinned (OpenSpec.ofChange fnExactShortestPrefixSpec)

/-- ITS FALSE NEIGHBOUR: 'it returns false'. Refute it at one input. -/
def fnExactShortestPrefixWrong : ChangeSpec := { name := "fnExactShortestPrefix", fn := fun _ => fun
  | [d1, d2] => { results := [.lit (.bool false)], args := [d1, d2] }
  | _ => none }
def FnExactShortestPrefixWrongFalsely : Prop := fnExactShortestPrefixRow.holds Try.pinned (OpenSpec.ofChange fnExactShortestPrefixWrong)

/-- 'laws.FnExactNearestKeys': WHATEVER THE INPUT: true; the input reads as it did. -/
def fnExactNearestKeysSpec : ChangeSpec := { name := "fnExactNearestKeys", fn := fun _ => fun
  | [d1, d2, d3] => { results := [.lit (.bool true)], args := [d1, d2, d3] }
  | _ => none }
def fnExactNearestKeysRow : OpenClaim := { program := "ytdhjnpafijockaa", sum := "de32df9094d86e43e470702b2fce4fe89060037466621ffa861f6d225244d444", func := "loop.example/g01174/laws.FnExactNearestKeys", spec := "fnExactNearestKeys", inPlace := ["internal/bytealg.Compare"], unfollowed := true, recurses := true, plainKeys := false, apart := false }
def FnExactNearestKeysSaid : Prop := fnExactNearestKeysRow.holds Try.pinned (OpenSpec.ofChange fnExactNearestKeysSpec)

/-- ITS FALSE NEIGHBOUR: 'it returns false'. Refute it at one input. -/
def fnExactNearestKeysWrong : ChangeSpec := { name := "fnExactNearestKeys", fn := fun _ => fun
  | [d1, d2, d3] => { results := [.lit (.bool false)], args := [d1, d2, d3] }
  | _ => none }
def FnExactNearestKeysWrongFalsely : Prop := fnExactNearestKeysRow.holds Try.pinned (OpenSpec.ofChange fnExactNearestKeysWrong)

/-- 'laws.FnKeyLists': WHATEVER THE INPUT: true; the input reads as it did. -/
def fnKeyListsSpec : ChangeSpec := { name := "fnKeyLists", fn := fun _ => fun
  | [d1, d2] => { results := [.lit (.bool true)], args := [d1, d2] }
  | _ => none }
def fnKeyListsRow : OpenClaim := { program := "ytdhjnpafijockaa", sum := "de32df9094d86e43e470702b2fce4fe89060037466621ffa861f6d225244d444", func := "loop.example/g01174/laws.FnKeyLists", spec := "fnKeyLists", inPlace := ["internal/bytealg.Compare", "internal/bytealg.IndexByteString"], unfollowed := true, recurses := true, plainKeys := false, apart := false }
def FnKeyListsSaid : Prop := fnKeyListsRow.holds Try.pinned (OpenSpec.ofChange fnKeyListsSpec)

/-- ITS FALSE NEIGHBOUR: 'it returns false'. Refute it at one input. -/
def fnKeyListsWrong : ChangeSpec := { name := "fnKeyLists", fn := fun _ => fun
  | [d1, d2] => { results := [.lit (.bool false)], args := [d1, d2] }
  | _ => none }
def FnKeyListsWrongFalsely : Prop := fnKeyListsRow.holds Try.pinned (OpenSpec.ofChange fnKeyListsWrong)

/-- 'laws.FnExactPadBlocks': WHATEVER THE INPUT: true; the input reads as it did. -/
def fnExactPadBlocksSpec : ChangeSpec := { name := "fnExactPadBlocks", fn := fun _ => fun
  | [d] => { results := [.lit (.bool true)], args := [d] }
  | _ => none }
def fnExactPadBlocksRow : OpenClaim := { program := "ytdhjnpafijockaa", sum := "de32df9094d86e43e470702b2fce4fe89060037466621ffa861f6d225244d444", func := "loop.example/g01174/laws.FnExactPadBlocks", spec := "fnExactPadBlocks", unfollowed := true, recurses := true, plainKeys := false, apart := false }
def FnExactPadBlocksSaid : Prop := fnExactPadBlocksRow.holds Try.pinned (OpenSpec.ofChange fnExactPadBlocksSpec)

/-- ITS FALSE NEIGHBOUR: 'it returns false'. Refute it at one input. -/
def fnExactPadBlocksWrong : ChangeSpec := { name := "fnExactPadBlocks", fn := fun _ => fun
  | [d] => { results := [.lit (.bool false)], args := [d] }
  | _ => none }
def FnExactPadBlocksWrongFalsely : Prop := fnExactPadBlocksRow.holds Try.pinned (OpenSpec.ofChange fnExactPadBlocksWrong)

/- THE SECOND FORM. 'bulk': how many values and letters a reading holds, each counted each time it is reached (what is shared counts as often as it is met; a slice's spare places count too). A statement '..UptoSaid' is the law's where the arguments, and the package variables that the reading takes, are together of bulk at most 1048576: NARROWER than '..Said'. Prove '..Said' where nothing that the law and all that it calls make is longer than what came in: it says more and counts as full. Else prove '..UptoSaid'. A law counts once. -/
mutual
def uptoBulk {H : Type} : DataW H → Nat
  | .lit (.string bytes) => bytes.length + 1
  | .lit _ => 1
  | .nil => 1
  | .ptr d => uptoBulk d + 1
  | .slice elems spare => uptoBulkAll elems + uptoBulkAll spare + 1
  | .agg parts => uptoBulkAll parts + 1
  | .iface _ d => uptoBulk d + 1
  | .map entries => uptoBulkEntries entries + 1
  | .held _ => 1
def uptoBulkAll {H : Type} : List (DataW H) → Nat
  | [] => 0
  | d :: r => uptoBulk d + uptoBulkAll r
def uptoBulkEntries {H : Type} : List (Lit × DataW H) → Nat
  | [] => 0
  | x :: r => uptoBulkEntry x + uptoBulkEntries r
def uptoBulkEntry {H : Type} : Lit × DataW H → Nat
  | (.string bytes, d) => bytes.length + uptoBulk d + 1
  | (_, d) => uptoBulk d + 1
 end
def uptoSmall : (H : Type) → List (DataW H) → Bool := fun _ ds => decide (uptoBulkAll ds ≤ 1048576)
def OpenSpec.upto (s : _root_.Go.ChangeSpec) : _root_.Go.OpenSpec := { _root_.Go.OpenSpec.ofChange s with cond := some uptoSmall }

/-- 'laws.FnExactValidRule', WHERE WHAT IT READS IS OF BULK AT MOST 1048576: true; the input reads as it did. -/
def fnExactValidRuleUptoRow : OpenClaim := { program := "ytdhjnpafijockaa", sum := "de32df9094d86e43e470702b2fce4fe89060037466621ffa861f6d225244d444", func := "loop.example/g01174/laws.FnExactValidRule", spec := "fnExactValidRule", plainKeys := false, apart := false, narrowed := true }
def FnExactValidRuleUptoSaid : Prop := fnExactValidRuleUptoRow.holds Try.pinned (OpenSpec.upto fnExactValidRuleSpec)

/-- 'laws.FnExactStartCutter', WHERE WHAT IT READS IS OF BULK AT MOST 1048576: true; the input reads as it did. -/
def fnExactStartCutterUptoRow : OpenClaim := { program := "ytdhjnpafijockaa", sum := "de32df9094d86e43e470702b2fce4fe89060037466621ffa861f6d225244d444", func := "loop.example/g01174/laws.FnExactStartCutter", spec := "fnExactStartCutter", plainKeys := false, apart := false, narrowed := true }
def FnExactStartCutterUptoSaid : Prop := fnExactStartCutterUptoRow.holds Try.pinned (OpenSpec.upto fnExactStartCutterSpec)

/-- 'laws.FnExactSameCutter', WHERE WHAT IT READS IS OF BULK AT MOST 1048576: true; the input reads as it did. -/
def fnExactSameCutterUptoRow : OpenClaim := { program := "ytdhjnpafijockaa", sum := "de32df9094d86e43e470702b2fce4fe89060037466621ffa861f6d225244d444", func := "loop.example/g01174/laws.FnExactSameCutter", spec := "fnExactSameCutter", plainKeys := false, apart := false, narrowed := true }
def FnExactSameCutterUptoSaid : Prop := fnExactSameCutterUptoRow.holds Try.pinned (OpenSpec.upto fnExactSameCutterSpec)

/-- 'laws.FnExactJoinChunks', WHERE WHAT IT READS IS OF BULK AT MOST 1048576: true; the input reads as it did. -/
def fnExactJoinChunksUptoRow : OpenClaim := { program := "ytdhjnpafijockaa", sum := "de32df9094d86e43e470702b2fce4fe89060037466621ffa861f6d225244d444", func := "loop.example/g01174/laws.FnExactJoinChunks", spec := "fnExactJoinChunks", plainKeys := false, apart := false, narrowed := true }
def FnExactJoinChunksUptoSaid : Prop := fnExactJoinChunksUptoRow.holds Try.pinned (OpenSpec.upto fnExactJoinChunksSpec)

/-- 'laws.FnExactSortKeys', WHERE WHAT IT READS IS OF BULK AT MOST 1048576: true; the input reads as it did. -/
def fnExactSortKeysUptoRow : OpenClaim := { program := "ytdhjnpafijockaa", sum := "de32df9094d86e43e470702b2fce4fe89060037466621ffa861f6d225244d444", func := "loop.example/g01174/laws.FnExactSortKeys", spec := "fnExactSortKeys", inPlace := ["internal/bytealg.Compare"], unfollowed := true, recurses := true, plainKeys := false, apart := false, narrowed := true }
def FnExactSortKeysUptoSaid : Prop := fnExactSortKeysUptoRow.holds Try.pinned (OpenSpec.upto fnExactSortKeysSpec)

/-- 'laws.FnExactFindKey', WHERE WHAT IT READS IS OF BULK AT MOST 1048576: true; the input reads as it did. -/
def fnExactFindKeyUptoRow : OpenClaim := { program := "ytdhjnpafijockaa", sum := "de32df9094d86e43e470702b2fce4fe89060037466621ffa861f6d225244d444", func := "loop.example/g01174/laws.FnExactFindKey", spec := "fnExactFindKey", inPlace := ["internal/bytealg.IndexByteString"], plainKeys := false, apart := false, narrowed := true }
def FnExactFindKeyUptoSaid : Prop := fnExactFindKeyUptoRow.holds Try.pinned (OpenSpec.upto fnExactFindKeySpec)

/-- 'laws.FnExactShortestPrefix', WHERE WHAT IT READS IS OF BULK AT MOST 1048576: true; the input reads as it did. -/
def fnExactShortestPrefixUptoRow : OpenClaim := { program := "ytdhjnpafijockaa", sum := "de32df9094d86e43e470702b2fce4fe89060037466621ffa861f6d225244d444", func := "loop.example/g01174/laws.FnExactShortestPrefix", spec := "fnExactShortestPrefix", plainKeys := false, apart := false, narrowed := true }
def FnExactShortestPrefixUptoSaid : Prop := fnExactShortestPrefixUptoRow.holds Try.pinned (OpenSpec.upto fnExactShortestPrefixSpec)

/-- 'laws.FnExactNearestKeys', WHERE WHAT IT READS IS OF BULK AT MOST 1048576: true; the input reads as it did. -/
def fnExactNearestKeysUptoRow : OpenClaim := { program := "ytdhjnpafijockaa", sum := "de32df9094d86e43e470702b2fce4fe89060037466621ffa861f6d225244d444", func := "loop.example/g01174/laws.FnExactNearestKeys", spec := "fnExactNearestKeys", inPlace := ["internal/bytealg.Compare"], unfollowed := true, recurses := true, plainKeys := false, apart := false, narrowed := true }
def FnExactNearestKeysUptoSaid : Prop := fnExactNearestKeysUptoRow.holds Try.pinned (OpenSpec.upto fnExactNearestKeysSpec)

/-- 'laws.FnKeyLists', WHERE WHAT IT READS IS OF BULK AT MOST 1048576: true; the input reads as it did. -/
def fnKeyListsUptoRow : OpenClaim := { program := "ytdhjnpafijockaa", sum := "de32df9094d86e43e470702b2fce4fe89060037466621ffa861f6d225244d444", func := "loop.example/g01174/laws.FnKeyLists", spec := "fnKeyLists", inPlace := ["internal/bytealg.Compare", "internal/bytealg.IndexByteString"], unfollowed := true, recurses := true, plainKeys := false, apart := false, narrowed := true }
def FnKeyListsUptoSaid : Prop := fnKeyListsUptoRow.holds Try.pinned (OpenSpec.upto fnKeyListsSpec)

/-- 'laws.FnExactPadBlocks', WHERE WHAT IT READS IS OF BULK AT MOST 1048576: true; the input reads as it did. -/
def fnExactPadBlocksUptoRow : OpenClaim := { program := "ytdhjnpafijockaa", sum := "de32df9094d86e43e470702b2fce4fe89060037466621ffa861f6d225244d444", func := "loop.example/g01174/laws.FnExactPadBlocks", spec := "fnExactPadBlocks", unfollowed := true, recurses := true, plainKeys := false, apart := false, narrowed := true }
def FnExactPadBlocksUptoSaid : Prop := fnExactPadBlocksUptoRow.holds Try.pinned (OpenSpec.upto fnExactPadBlocksSpec)

end Rows
end Go.Proofs.Ytdhjnpafijockaa
