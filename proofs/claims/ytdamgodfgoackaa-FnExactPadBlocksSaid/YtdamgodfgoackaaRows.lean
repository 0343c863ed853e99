/-
  No cell of these rows narrows 'for every input' (looked for: loops, veiled, ifaces, maps, wideKeys, modest, calm, conditions, laid).
  DERIVED. THE GIVEN ROWS OF THIS SEAT. 12 by the template 'for every input the law returns true; each argument reads behind the call as it read before'; 0 by the template 'total and deterministic' (their statements: YtdamgodfgoackaaTotals.lean).
  GIVEN WITH THE SEED: the statements are not yours to turn. If you find one false, say at which input.
  Laid BY PROGRAM, IN A SANDBOX (cutbox-rows.mjs): the forced cells as the released guide's own fill.sh prints them over the translation 3dbfdc1dcefc00af… (all of the seat's roots in one cut). By AI agents, Wed Nov 11 2026. No macro, syntax, notation, axiom, sorry.
-/
import Derived.Test.YtdamgodfgoackaaChecked
import GoSem.Claim
import GoSem.ClaimJoined
import GoSem.ClaimMapViews
import Derived.JoinedTies
import Derived.KernelRfl
namespace Go.Proofs.Ytdamgodfgoackaa
/- THE CELL 'sum', in the pinned program and in every row, IS THE sha256 OF THE DUMP (.gsa) THAT YtdamgodfgoackaaProg.lean LOADS. Nothing in Lean hashes anything: it is a label: what it is worth is what the hold of that sum in a sandbox is worth. -/
noncomputable def Try.pinned : Pinned := { name := "ytdamgodfgoackaa", sum := "3dbfdc1dcefc00af1c326604631316e9516a1cf520633248f6af41264087ebdb", checked := Try.checked }
namespace Rows
def none {H : Type} : Left H := { results := [], args := [] }

/-- 'laws.FnExactHashOf': WHATEVER THE INPUT: true; the input reads as it did. -/
def fnExactHashOfSpec : ChangeSpec := { name := "fnExactHashOf", fn := fun _ => fun
  | [d1, d2] => { results := [.lit (.bool true)], args := [d1, d2] }
  | _ => none }
def fnExactHashOfRow : OpenClaim := { program := "ytdamgodfgoackaa", sum := "3dbfdc1dcefc00af1c326604631316e9516a1cf520633248f6af41264087ebdb", func := "loop.example/g01174/laws.FnExactHashOf", spec := "fnExactHashOf", unfollowed := true, recurses := true, plainKeys := false, apart := false }
def FnExactHashOfSaid : Prop := fnExactHashOfRow.holds Try.pinned (OpenSpec.ofChange fnExactHashOfSpec)

/-- ITS FALSE NEIGHBOUR: 'it returns false'. Refute it at one input. -/
def fnExactHashOfWrong : ChangeSpec := { name := "fnExactHashOf", fn := fun _ => fun
  | [d1, d2] => { results := [.lit (.bool false)], args := [d1, d2] }
  | _ => none }
def FnExactHashOfWrongFalsely : Prop := fnExactHashOfRow.holds Try.pinned (OpenSpec.ofChange fnExactHashOfWrong)

/-- 'laws.FnExactKeyOf': WHATEVER THE INPUT: true; the input reads as it did. -/
def fnExactKeyOfSpec : ChangeSpec := { name := "fnExactKeyOf", fn := fun _ => fun
  | [d] => { results := [.lit (.bool true)], args := [d] }
  | _ => none }
def fnExactKeyOfRow : OpenClaim := { program := "ytdamgodfgoackaa", sum := "3dbfdc1dcefc00af1c326604631316e9516a1cf520633248f6af41264087ebdb", func := "loop.example/g01174/laws.FnExactKeyOf", spec := "fnExactKeyOf", unfollowed := true, recurses := true, plainKeys := false, apart := false }
def FnExactKeyOfSaid : Prop := fnExactKeyOfRow.holds Try.pinned (OpenSpec.ofChange fnExactKeyOfSpec)

/-- ITS FALSE NEIGHBOUR: 'it returns false'. Refute it at one input. -/
def fnExactKeyOfWrong : ChangeSpec := { name := "fnExactKeyOf", fn := fun _ => fun
  | [d] => { results := [.lit (.bool false)], args := [d] }
  | _ => none }
def FnExactKeyOfWrongFalsely : Prop := fnExactKeyOfRow.holds Try.pinned (OpenSpec.ofChange fnExactKeyOfWrong)

/-- 'laws.FnExactPairKey': WHATEVER THE INPUT: true; the input reads as it did. -/
def fnExactPairKeySpec : ChangeSpec := { name := "fnExactPairKey", fn := fun _ => fun
  | [d1, d2, d3] => { results := [.lit (.bool true)], args := [d1, d2, d3] }
  | _ => none }
def fnExactPairKeyRow : OpenClaim := { program := "ytdamgodfgoackaa", sum := "3dbfdc1dcefc00af1c326604631316e9516a1cf520633248f6af41264087ebdb", func := "loop.example/g01174/laws.FnExactPairKey", spec := "fnExactPairKey", unfollowed := true, recurses := true, plainKeys := false, apart := false }
def FnExactPairKeySaid : Prop := fnExactPairKeyRow.holds Try.pinned (OpenSpec.ofChange fnExactPairKeySpec)

/-- ITS FALSE NEIGHBOUR: 'it returns false'. Refute it at one input. -/
def fnExactPairKeyWrong : ChangeSpec := { name := "fnExactPairKey", fn := fun _ => fun
  | [d1, d2, d3] => { results := [.lit (.bool false)], args := [d1, d2, d3] }
  | _ => none }
def FnExactPairKeyWrongFalsely : Prop := fnExactPairKeyRow.holds Try.pinned (OpenSpec.ofChange fnExactPairKeyWrong)

/-- 'laws.FnExactChunkKey': WHATEVER THE INPUT: true; the input reads as it did. -/
def fnExactChunkKeySpec : ChangeSpec := { name := "fnExactChunkKey", fn := fun _ => fun
  | [d] => { results := [.lit (.bool true)], args := [d] }
  | _ => none }
def fnExactChunkKeyRow : OpenClaim := { program := "ytdamgodfgoackaa", sum := "3dbfdc1dcefc00af1c326604631316e9516a1cf520633248f6af41264087ebdb", func := "loop.example/g01174/laws.FnExactChunkKey", spec := "fnExactChunkKey", unfollowed := true, recurses := true, plainKeys := false, apart := false }
def FnExactChunkKeySaid : Prop := fnExactChunkKeyRow.holds Try.pinned (OpenSpec.ofChange fnExactChunkKeySpec)

/-- ITS FALSE NEIGHBOUR: 'it returns false'. Refute it at one input. -/
def fnExactChunkKeyWrong : ChangeSpec := { name := "fnExactChunkKey", fn := fun _ => fun
  | [d] => { results := [.lit (.bool false)], args := [d] }
  | _ => none }
def FnExactChunkKeyWrongFalsely : Prop := fnExactChunkKeyRow.holds Try.pinned (OpenSpec.ofChange fnExactChunkKeyWrong)

/-- 'laws.FnExactPadBlocks': WHATEVER THE INPUT: true; the input reads as it did. -/
def fnExactPadBlocksSpec : ChangeSpec := { name := "fnExactPadBlocks", fn := fun _ => fun
  | [d] => { results := [.lit (.bool true)], args := [d] }
  | _ => none }
def fnExactPadBlocksRow : OpenClaim := { program := "ytdamgodfgoackaa", sum := "3dbfdc1dcefc00af1c326604631316e9516a1cf520633248f6af41264087ebdb", func := "loop.example/g01174/laws.FnExactPadBlocks", spec := "fnExactPadBlocks", unfollowed := true, recurses := true, plainKeys := false, apart := false }
def FnExactPadBlocksSaid : Prop := fnExactPadBlocksRow.holds Try.pinned (OpenSpec.ofChange fnExactPadBlocksSpec)

/-- ITS FALSE NEIGHBOUR: 'it returns false'. Refute it at one input. -/
def fnExactPadBlocksWrong : ChangeSpec := { name := "fnExactPadBlocks", fn := fun _ => fun
  | [d] => { results := [.lit (.bool false)], args := [d] }
  | _ => none }
def FnExactPadBlocksWrongFalsely : Prop := fnExactPadBlocksRow.holds Try.pinned (OpenSpec.ofChange fnExactPadBlocksWrong)

/-- 'laws.FnExactFeedHasher': WHATEVER THE INPUT: true; the input reads as it did. -/
def fnExactFeedHasherSpec : ChangeSpec := { name := "fnExactFeedHasher", fn := fun _ => fun
  | [d1, d2] => { results := [.lit (.bool true)], args := [d1, d2] }
  | _ => none }
def fnExactFeedHasherRow : OpenClaim := { program := "ytdamgodfgoackaa", sum := "3dbfdc1dcefc00af1c326604631316e9516a1cf520633248f6af41264087ebdb", func := "loop.example/g01174/laws.FnExactFeedHasher", spec := "fnExactFeedHasher", unfollowed := true, recurses := true, plainKeys := false, apart := false }
def FnExactFeedHasherSaid : Prop := fnExactFeedHasherRow.holds Try.pinned (OpenSpec.ofChange fnExactFeedHasherSpec)

/-- ITS FALSE NEIGHBOUR: 'it returns false'. Refute it at one input. -/
def fnExactFeedHasherWrong : ChangeSpec := { name := "fnExactFeedHasher", fn := fun _ => fun
  | [d1, d2] => { results := [.lit (.bool false)], args := [d1, d2] }
  | _ => none }
def FnExactFeedHasherWrongFalsely : Prop := fnExactFeedHasherRow.holds Try.pinned (OpenSpec.ofChange fnExactFeedHasherWrong)

/-- 'laws.FnExactValidCutter': WHATEVER THE INPUT: true; the input reads as it did. -/
def fnExactValidCutterSpec : ChangeSpec := { name := "fnExactValidCutter", fn := fun _ => fun
  | [d] => { results := [.lit (.bool true)], args := [d] }
  | _ => none }
def fnExactValidCutterRow : OpenClaim := { program := "ytdamgodfgoackaa", sum := "3dbfdc1dcefc00af1c326604631316e9516a1cf520633248f6af41264087ebdb", func := "loop.example/g01174/laws.FnExactValidCutter", spec := "fnExactValidCutter", unfollowed := true, recurses := true, plainKeys := false, apart := false }
def FnExactValidCutterSaid : Prop := fnExactValidCutterRow.holds Try.pinned (OpenSpec.ofChange fnExactValidCutterSpec)

/-- ITS FALSE NEIGHBOUR: 'it returns false'. Refute it at one input. -/
def fnExactValidCutterWrong : ChangeSpec := { name := "fnExactValidCutter", fn := fun _ => fun
  | [d] => { results := [.lit (.bool false)], args := [d] }
  | _ => none }
def FnExactValidCutterWrongFalsely : Prop := fnExactValidCutterRow.holds Try.pinned (OpenSpec.ofChange fnExactValidCutterWrong)

/-- 'laws.FnExactJoinChunks': WHATEVER THE INPUT: true; the input reads as it did. -/
def fnExactJoinChunksSpec : ChangeSpec := { name := "fnExactJoinChunks", fn := fun _ => fun
  | [d] => { results := [.lit (.bool true)], args := [d] }
  | _ => none }
def fnExactJoinChunksRow : OpenClaim := { program := "ytdamgodfgoackaa", sum := "3dbfdc1dcefc00af1c326604631316e9516a1cf520633248f6af41264087ebdb", func := "loop.example/g01174/laws.FnExactJoinChunks", spec := "fnExactJoinChunks", plainKeys := false, apart := false }
def FnExactJoinChunksSaid : Prop := fnExactJoinChunksRow.holds Try.pinned (OpenSpec.ofChange fnExactJoinChunksSpec)

/-- ITS FALSE NEIGHBOUR: 'it returns false'. Refute it at one input. -/
def fnExactJoinChunksWrong : ChangeSpec := { name := "fnExactJoinChunks", fn := fun _ => fun
  | [d] => { results := [.lit (.bool false)], args := [d] }
  | _ => none }
def FnExactJoinChunksWrongFalsely : Prop := fnExactJoinChunksRow.holds Try.pinned (OpenSpec.ofChange fnExactJoinChunksWrong)

/-- 'laws.FnExactFindKey': WHATEVER THE INPUT: true; the input reads as it did. -/
def fnExactFindKeySpec : ChangeSpec := { name := "fnExactFindKey", fn := fun _ => fun
  | [d1, d2] => { results := [.lit (.bool true)], args := [d1, d2] }
  | _ => none }
def fnExactFindKeyRow : OpenClaim := { program := "ytdamgodfgoackaa", sum := "3dbfdc1dcefc00af1c326604631316e9516a1cf520633248f6af41264087ebdb", func := "loop.example/g01174/laws.FnExactFindKey", spec := "fnExactFindKey", inPlace := ["internal/bytealg.IndexByteString"], plainKeys := false, apart := false }
def FnExactFindKeySaid : Prop := fnExactFindKeyRow.holds Try.pinned (OpenSpec.ofChange fnExactFindKeySpec)

/-- ITS FALSE NEIGHBOUR: 'it returns false'. Refute it at one input. -/
def fnExactFindKeyWrong : ChangeSpec := { name := "fnExactFindKey", fn := fun _ => fun
  | [d1, d2] => { results := [.lit (.bool false)], args := [d1, d2] }
  | _ => none }
def FnExactFindKeyWrongFalsely : Prop := fnExactFindKeyRow.holds Try.pinned (OpenSpec.ofChange fnExactFindKeyWrong)

/-- 'laws.FnExactSortKeys': WHATEVER THE INPUT: true; the input reads as it did. -/
def fnExactSortKeysSpec : ChangeSpec := { name := "fnExactSortKeys", fn := fun _ => fun
  | [d] => { results := [.lit (.bool true)], args := [d] }
  | _ => none }
def fnExactSortKeysRow : OpenClaim := { program := "ytdamgodfgoackaa", sum := "3dbfdc1dcefc00af1c326604631316e9516a1cf520633248f6af41264087ebdb", func := "loop.example/g01174/laws.FnExactSortKeys", spec := "fnExactSortKeys", inPlace := ["internal/bytealg.Compare"], unfollowed := true, recurses := true, plainKeys := false, apart := false }
def FnExactSortKeysSaid : Prop := fnExactSortKeysRow.holds Try.pinned (OpenSpec.ofChange fnExactSortKeysSpec)

/-- ITS FALSE NEIGHBOUR: 'it returns false'. Refute it at one input. -/
def fnExactSortKeysWrong : ChangeSpec := { name := "fnExactSortKeys", fn := fun _ => fun
  | [d] => { results := [.lit (.bool false)], args := [d] }
  | _ => none }
def FnExactSortKeysWrongFalsely : Prop := fnExactSortKeysRow.holds Try.pinned (OpenSpec.ofChange fnExactSortKeysWrong)

/-- 'laws.FnExactEndCutter': WHATEVER THE INPUT: true; the input reads as it did. -/
def fnExactEndCutterSpec : ChangeSpec := { name := "fnExactEndCutter", fn := fun _ => fun
  | [d] => { results := [.lit (.bool true)], args := [d] }
  | _ => none }
def fnExactEndCutterRow : OpenClaim := { program := "ytdamgodfgoackaa", sum := "3dbfdc1dcefc00af1c326604631316e9516a1cf520633248f6af41264087ebdb", func := "loop.example/g01174/laws.FnExactEndCutter", spec := "fnExactEndCutter", unfollowed := true, recurses := true, plainKeys := false, apart := false }
def FnExactEndCutterSaid : Prop := fnExactEndCutterRow.holds Try.pinned (OpenSpec.ofChange fnExactEndCutterSpec)

/-- ITS FALSE NEIGHBOUR: 'it returns false'. Refute it at one input. -/
def fnExactEndCutterWrong : ChangeSpec := { name := "fnExactEndCutter", fn := fun _ => fun
  | [d] => { results := [.lit (.bool false)], args := [d] }
  | _ => none }
def FnExactEndCutterWrongFalsely : Prop := fnExactEndCutterRow.holds Try.pinned (OpenSpec.ofChange fnExactEndCutterWrong)

/-- 'laws.FnExactSpareBytes': WHATEVER THE INPUT: true; the input reads as it did. -/
def fnExactSpareBytesSpec : ChangeSpec := { name := "fnExactSpareBytes", fn := fun _ => fun
  | [d1, d2, d3] => { results := [.lit (.bool true)], args := [d1, d2, d3] }
  | _ => none }
def fnExactSpareBytesRow : OpenClaim := { program := "ytdamgodfgoackaa", sum := "3dbfdc1dcefc00af1c326604631316e9516a1cf520633248f6af41264087ebdb", func := "loop.example/g01174/laws.FnExactSpareBytes", spec := "fnExactSpareBytes", unfollowed := true, recurses := true, plainKeys := false, apart := false }
def FnExactSpareBytesSaid : Prop := fnExactSpareBytesRow.holds Try.pinned (OpenSpec.ofChange fnExactSpareBytesSpec)

/-- ITS FALSE NEIGHBOUR: 'it returns false'. Refute it at one input. -/
def fnExactSpareBytesWrong : ChangeSpec := { name := "fnExactSpareBytes", fn := fun _ => fun
  | [d1, d2, d3] => { results := [.lit (.bool false)], args := [d1, d2, d3] }
  | _ => none }
def FnExactSpareBytesWrongFalsely : Prop := fnExactSpareBytesRow.holds Try.pinned (OpenSpec.ofChange fnExactSpareBytesWrong)

/- THE SECOND FORM. 'bulk': how many values and letters a reading holds, each counted each time it is reached (what is shared counts as often as it is met; a slice's spare places count too). A statement '..UptoSaid' is the law's where the arguments, and the package variables that the reading takes, are together of bulk at most 1048576: NARROWER than '..Said'. Prove '..Said' where nothing that the law and all that it calls make is longer than what came in: it says more and counts as full. Else prove '..UptoSaid'. A law counts once. -/
mutual
def uptoBulk {H : Type} : DataW H → Nat
  | .lit (.string bytes) => bytes.length + 1
  | .lit _ => 1
  | .nil => 1
  | .ptr d => uptoBulk d + 1
  | .slice elems spare => uptoBulkAll elems + uptoBulkAll spare + 1
  | .agg parts => uptoBulkAll parts + 1
  | .iface _ d => uptoBulk d + 1
  | .map entries => uptoBulkEntries entries + 1
  | .held _ => 1
def uptoBulkAll {H : Type} : List (DataW H) → Nat
  | [] => 0
  | d :: r => uptoBulk d + uptoBulkAll r
def uptoBulkEntries {H : Type} : List (Lit × DataW H) → Nat
  | [] => 0
  | x :: r => uptoBulkEntry x + uptoBulkEntries r
def uptoBulkEntry {H : Type} : Lit × DataW H → Nat
  | (.string bytes, d) => bytes.length + uptoBulk d + 1
  | (_, d) => uptoBulk d + 1
 end
def uptoSmall : (H : Type) → List (DataW H) → Bool := fun _ ds => decide (uptoBulkAll ds ≤ 1048576)
def OpenSpec.upto (s : _root_.Go.ChangeSpec) : _root_.Go.OpenSpec := { _root_.Go.OpenSpec.ofChange s with cond := some uptoSmall }

/-- 'laws.FnExactHashOf', WHERE WHAT IT READS IS OF BULK AT MOST 1048576: true; the input reads as it did. -/
def fnExactHashOfUptoRow : OpenClaim := { program := "ytdamgodfgoackaa", sum := "3dbfdc1dcefc00af1c326604631316e9516a1cf520633248f6af41264087ebdb", func := "loop.example/g01174/laws.FnExactHashOf", spec := "fnExactHashOf", unfollowed := true, recurses := true, plainKeys := false, apart := false, narrowed := true }
def FnExactHashOfUptoSaid : Prop := fnExactHashOfUptoRow.holds Try.pinned (OpenSpec.upto fnExactHashOfSpec)

/-- 'laws.FnExactKeyOf', WHERE WHAT IT READS IS OF BULK AT MOST 1048576: true; the input reads as it did. -/
def fnExactKeyOfUptoRow : OpenClaim := { program := "ytdamgodfgoackaa", sum := "3dbfdc1dcefc00af1c326604631316e9516a1cf520633248f6af41264087ebdb", func := "loop.example/g01174/laws.FnExactKeyOf", spec := "fnExactKeyOf", unfollowed := true, recurses := true, plainKeys := false, apart := false, narrowed := true }
def FnExactKeyOfUptoSaid : Prop := fnExactKeyOfUptoRow.holds Try.pinned (OpenSpec.upto fnExactKeyOfSpec)

/-- 'laws.FnExactPairKey', WHERE WHAT IT READS IS OF BULK AT MOST 1048576: true; the input reads as it did. -/
def fnExactPairKeyUptoRow : OpenClaim := { program := "ytdamgodfgoackaa", sum := "3dbfdc1dcefc00af1c326604631316e9516a1cf520633248f6af41264087ebdb", func := "loop.example/g01174/laws.FnExactPairKey", spec := "fnExactPairKey", unfollowed := true, recurses := true, plainKeys := false, apart := false, narrowed := true }
def FnExactPairKeyUptoSaid : Prop := fnExactPairKeyUptoRow.holds Try.pinned (OpenSpec.upto fnExactPairKeySpec)

/-- 'laws.FnExactChunkKey', WHERE WHAT IT READS IS OF BULK AT MOST 1048576: true; the input reads as it did. -/
def fnExactChunkKeyUptoRow : OpenClaim := { program := "ytdamgodfgoackaa", sum := "3dbfdc1dcefc00af1c326604631316e9516a1cf520633248f6af41264087ebdb", func := "loop.example/g01174/laws.FnExactChunkKey", spec := "fnExactChunkKey", unfollowed := true, recurses := true, plainKeys := false, apart := false, narrowed := true }
def FnExactChunkKeyUptoSaid : Prop := fnExactChunkKeyUptoRow.holds Try.pinned (OpenSpec.upto fnExactChunkKeySpec)

/-- 'laws.FnExactPadBlocks', WHERE WHAT IT READS IS OF BULK AT MOST 1048576: true; the input reads as it did. -/
def fnExactPadBlocksUptoRow : OpenClaim := { program := "ytdamgodfgoackaa", sum := "3dbfdc1dcefc00af1c326604631316e9516a1cf520633248f6af41264087ebdb", func := "loop.example/g01174/laws.FnExactPadBlocks", spec := "fnExactPadBlocks", unfollowed := true, recurses := true, plainKeys := false, apart := false, narrowed := true }
def FnExactPadBlocksUptoSaid : Prop := fnExactPadBlocksUptoRow.holds Try.pinned (OpenSpec.upto fnExactPadBlocksSpec)

/-- 'laws.FnExactFeedHasher', WHERE WHAT IT READS IS OF BULK AT MOST 1048576: true; the input reads as it did. -/
def fnExactFeedHasherUptoRow : OpenClaim := { program := "ytdamgodfgoackaa", sum := "3dbfdc1dcefc00af1c326604631316e9516a1cf520633248f6af41264087ebdb", func := "loop.example/g01174/laws.FnExactFeedHasher", spec := "fnExactFeedHasher", unfollowed := true, recurses := true, plainKeys := false, apart := false, narrowed := true }
def FnExactFeedHasherUptoSaid : Prop := fnExactFeedHasherUptoRow.holds Try.pinned (OpenSpec.upto fnExactFeedHasherSpec)

/-- 'laws.FnExactValidCutter', WHERE WHAT IT READS IS OF BULK AT MOST 1048576: true; the input reads as it did. -/
def fnExactValidCutterUptoRow : OpenClaim := { program := "ytdamgodfgoackaa", sum := "3dbfdc1dcefc00af1c326604631316e9516a1cf520633248f6af41264087ebdb", func := "loop.example/g01174/laws.FnExactValidCutter", spec := "fnExactValidCutter", unfollowed := true, recurses := true, plainKeys := false, apart := false, narrowed := true }
def FnExactValidCutterUptoSaid : Prop := fnExactValidCutterUptoRow.holds Try.pinned (OpenSpec.upto fnExactValidCutterSpec)

/-- 'laws.FnExactJoinChunks', WHERE WHAT IT READS IS OF BULK AT MOST 1048576: true; the input reads as it did. -/
def fnExactJoinChunksUptoRow : OpenClaim := { program := "ytdamgodfgoackaa", sum := "3dbfdc1dcefc00af1c326604631316e9516a1cf520633248f6af41264087ebdb", func := "loop.example/g01174/laws.FnExactJoinChunks", spec := "fnExactJoinChunks", plainKeys := false, apart := false, narrowed := true }
def FnExactJoinChunksUptoSaid : Prop := fnExactJoinChunksUptoRow.holds Try.pinned (OpenSpec.upto fnExactJoinChunksSpec)

/-- 'laws.FnExactFindKey', WHERE WHAT IT READS IS OF BULK AT MOST 1048576: true; the input reads as it did. -/
def fnExactFindKeyUptoRow : OpenClaim := { program := "ytdamgodfgoackaa", sum := "3dbfdc1dcefc00af1c326604631316e9516a1cf520633248f6af41264087ebdb", func := "loop.example/g01174/laws.FnExactFindKey", spec := "fnExactFindKey", inPlace := ["internal/bytealg.IndexByteString"], plainKeys := false, apart := false, narrowed := true }
def FnExactFindKeyUptoSaid : Prop := fnExactFindKeyUptoRow.holds Try.pinned (OpenSpec.upto fnExactFindKeySpec)

/-- 'laws.FnExactSortKeys', WHERE WHAT IT READS IS OF BULK AT MOST 1048576: true; the input reads as it did. -/
def fnExactSortKeysUptoRow : OpenClaim := { program := "ytdamgodfgoackaa", sum := "3dbfdc1dcefc00af1c326604631316e9516a1cf520633248f6af41264087ebdb", func := "loop.example/g01174/laws.FnExactSortKeys", spec := "fnExactSortKeys", inPlace := ["internal/bytealg.Compare"], unfollowed := true, recurses := true, plainKeys := false, apart := false, narrowed := true }
def FnExactSortKeysUptoSaid : Prop := fnExactSortKeysUptoRow.holds Try.pinned (OpenSpec.upto fnExactSortKeysSpec)

/-- 'laws.FnExactEndCutter', WHERE WHAT IT READS IS OF BULK AT MOST 1048576: true; the input reads as it did. -/
def fnExactEndCutterUptoRow : OpenClaim := { program := "ytdamgodfgoackaa", sum := "3dbfdc1dcefc00af1c326604631316e9516a1cf520633248f6af41264087ebdb", func := "loop.example/g01174/laws.FnExactEndCutter", spec := "fnExactEndCutter", unfollowed := true, recurses := true, plainKeys := false, apart := false, narrowed := true }
def FnExactEndCutterUptoSaid : Prop := fnExactEndCutterUptoRow.holds Try.pinned (OpenSpec.upto fnExactEndCutterSpec)

/-- 'laws.FnExactSpareBytes', WHERE WHAT IT READS IS OF BULK AT MOST 1048576: true; the input reads as it did. -/
def fnExactSpareBytesUptoRow : OpenClaim := { program := "ytdamgodfgoackaa", sum := "3dbfdc1dcefc00af1c326604631316e9516a1cf520633248f6af41264087ebdb", func := "loop.example/g01174/laws.FnExactSpareBytes", spec := "fnExactSpareBytes", unfollowed := true, recurses := true, plainKeys := false, apart := false, narrowed := true }
def FnExactSpareBytesUptoSaid : Prop := fnExactSpareBytesUptoRow.holds Try.pinned (OpenSpec.upto fnExactSpareBytesSpec)

end Rows
end Go.Proofs.Ytdamgodfgoackaa
