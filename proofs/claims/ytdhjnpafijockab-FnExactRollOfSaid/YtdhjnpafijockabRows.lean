/-
  No cell of these rows narrows 'for every input' (looked for: loops, veiled, ifaces, maps, wideKeys, modest, calm, conditions, laid).
  DERIVED. THE GIVEN ROWS OF THIS SEAT. 12 by the template 'for every input the law returns true; each argument reads behind the call as it read before'; 0 by the template 'total and deterministic' (their statements: YtdhjnpafijockabTotals.lean).
  GIVEN WITH THE SEED: the statements are not yours to turn. If you find one false, say at which input.
  Laid BY PROGRAM, IN A SANDBOX (cutbox-rows.mjs): the forced cells as the released guide's own fill.sh prints them over the translation a92bfe41194817b0… (all of the seat's roots in one cut). By AI agents, Wed Nov 11 2026. No macro, syntax, notation, axiom, sorry.
-/
import Derived.Test.YtdhjnpafijockabChecked
import GoSem.Claim
import GoSem.ClaimJoined
import GoSem.ClaimMapViews
import Derived.JoinedTies
import Derived.KernelRfl
namespace Go.Proofs.Ytdhjnpafijockab
/- THE CELL 'sum', in the pinned program and in every row, IS THE sha256 OF THE DUMP (.gsa) THAT YtdhjnpafijockabProg.lean LOADS. Nothing in Lean hashes anything: it is a label: what it is worth is what the hold of that sum in a sandbox is worth. -/
noncomputable def Try.pinned : Pinned := { name := "ytdhjnpafijockab", sum := "a92bfe41194817b0aeb1aab7174e372040185535ad2d293efbe050f2ad5367d8", checked := Try.checked }
namespace Rows
def none {H : Type} : Left H := { results := [], args := [] }

/-- 'laws.FnExactMixBlock': WHATEVER THE INPUT: true; the input reads as it did. -/
def fnExactMixBlockSpec : ChangeSpec := { name := "fnExactMixBlock", fn := fun _ => fun
  | [d1, d2] => { results := [.lit (.bool true)], args := [d1, d2] }
  | _ => none }
def fnExactMixBlockRow : OpenClaim := { program := "ytdhjnpafijockab", sum := "a92bfe41194817b0aeb1aab7174e372040185535ad2d293efbe050f2ad5367d8", func := "loop.example/g01174/laws.FnExactMixBlock", spec := "fnExactMixBlock", apart := false }
def FnExactMixBlockSaid : Prop := fnExactMixBlockRow.holds Try.pinned (OpenSpec.ofChange fnExactMixBlockSpec)

/-- ITS FALSE NEIGHBOUR: 'it returns false'. Refute it at one input. -/
def fnExactMixBlockWrong : ChangeSpec := { name := "fnExactMixBlock", fn := fun _ => fun
  | [d1, d2] => { results := [.lit (.bool false)], args := [d1, d2] }
  | _ => none }
def FnExactMixBlockWrongFalsely : Prop := fnExactMixBlockRow.holds Try.pinned (OpenSpec.ofChange fnExactMixBlockWrong)

/-- 'laws.FnExactRollTable': WHATEVER THE INPUT: true; the input reads as it did. -/
def fnExactRollTableSpec : ChangeSpec := { name := "fnExactRollTable", fn := fun _ => fun
  | [] => { results := [.lit (.bool true)], args := [] }
  | _ => none }
def fnExactRollTableRow : OpenClaim := { program := "ytdhjnpafijockab", sum := "a92bfe41194817b0aeb1aab7174e372040185535ad2d293efbe050f2ad5367d8", func := "loop.example/g01174/laws.FnExactRollTable", spec := "fnExactRollTable", apart := false }
def FnExactRollTableSaid : Prop := fnExactRollTableRow.holds Try.pinned (OpenSpec.ofChange fnExactRollTableSpec)

/-- ITS FALSE NEIGHBOUR: 'it returns false'. Refute it at one input. -/
def fnExactRollTableWrong : ChangeSpec := { name := "fnExactRollTable", fn := fun _ => fun
  | [] => { results := [.lit (.bool false)], args := [] }
  | _ => none }
def FnExactRollTableWrongFalsely : Prop := fnExactRollTableRow.holds Try.pinned (OpenSpec.ofChange fnExactRollTableWrong)

/-- 'laws.FnExactRollOf': WHATEVER THE INPUT: true; the input reads as it did. -/
def fnExactRollOfSpec : ChangeSpec := { name := "fnExactRollOf", fn := fun _ => fun
  | [d] => { results := [.lit (.bool true)], args := [d] }
  | _ => none }
def fnExactRollOfRow : OpenClaim := { program := "ytdhjnpafijockab", sum := "a92bfe41194817b0aeb1aab7174e372040185535ad2d293efbe050f2ad5367d8", func := "loop.example/g01174/laws.FnExactRollOf", spec := "fnExactRollOf", apart := false }
def FnExactRollOfSaid : Prop := fnExactRollOfRow.holds Try.pinned (OpenSpec.ofChange fnExactRollOfSpec)

/-- ITS FALSE NEIGHBOUR: 'it returns false'. Refute it at one input. -/
def fnExactRollOfWrong : ChangeSpec := { name := "fnExactRollOf", fn := fun _ => fun
  | [d] => { results := [.lit (.bool false)], args := [d] }
  | _ => none }
def FnExactRollOfWrongFalsely : Prop := fnExactRollOfRow.holds Try.pinned (OpenSpec.ofChange fnExactRollOfWrong)

/-- 'laws.FnExactHashOf': WHATEVER THE INPUT: true; the input reads as it did. -/
def fnExactHashOfSpec : ChangeSpec := { name := "fnExactHashOf", fn := fun _ => fun
  | [d1, d2] => { results := [.lit (.bool true)], args := [d1, d2] }
  | _ => none }
def fnExactHashOfRow : OpenClaim := { program := "ytdhjnpafijockab", sum := "a92bfe41194817b0aeb1aab7174e372040185535ad2d293efbe050f2ad5367d8", func := "loop.example/g01174/laws.FnExactHashOf", spec := "fnExactHashOf", unfollowed := true, recurses := true, apart := false }
def FnExactHashOfSaid : Prop := fnExactHashOfRow.holds Try.pinned (OpenSpec.ofChange fnExactHashOfSpec)

/-- ITS FALSE NEIGHBOUR: 'it returns false'. Refute it at one input. -/
def fnExactHashOfWrong : ChangeSpec := { name := "fnExactHashOf", fn := fun _ => fun
  | [d1, d2] => { results := [.lit (.bool false)], args := [d1, d2] }
  | _ => none }
def FnExactHashOfWrongFalsely : Prop := fnExactHashOfRow.holds Try.pinned (OpenSpec.ofChange fnExactHashOfWrong)

/-- 'laws.FnExactFeedHasher': WHATEVER THE INPUT: true; the input reads as it did. -/
def fnExactFeedHasherSpec : ChangeSpec := { name := "fnExactFeedHasher", fn := fun _ => fun
  | [d1, d2] => { results := [.lit (.bool true)], args := [d1, d2] }
  | _ => none }
def fnExactFeedHasherRow : OpenClaim := { program := "ytdhjnpafijockab", sum := "a92bfe41194817b0aeb1aab7174e372040185535ad2d293efbe050f2ad5367d8", func := "loop.example/g01174/laws.FnExactFeedHasher", spec := "fnExactFeedHasher", unfollowed := true, recurses := true, apart := false }
def FnExactFeedHasherSaid : Prop := fnExactFeedHasherRow.holds Try.pinned (OpenSpec.ofChange fnExactFeedHasherSpec)

/-- ITS FALSE NEIGHBOUR: 'it returns false'. Refute it at one input. -/
def fnExactFeedHasherWrong : ChangeSpec := { name := "fnExactFeedHasher", fn := fun _ => fun
  | [d1, d2] => { results := [.lit (.bool false)], args := [d1, d2] }
  | _ => none }
def FnExactFeedHasherWrongFalsely : Prop := fnExactFeedHasherRow.holds Try.pinned (OpenSpec.ofChange fnExactFeedHasherWrong)

/-- 'laws.FnExactKeyOf': WHATEVER THE INPUT: true; the input reads as it did. -/
def fnExactKeyOfSpec : ChangeSpec := { name := "fnExactKeyOf", fn := fun _ => fun
  | [d] => { results := [.lit (.bool true)], args := [d] }
  | _ => none }
def fnExactKeyOfRow : OpenClaim := { program := "ytdhjnpafijockab", sum := "a92bfe41194817b0aeb1aab7174e372040185535ad2d293efbe050f2ad5367d8", func := "loop.example/g01174/laws.FnExactKeyOf", spec := "fnExactKeyOf", unfollowed := true, recurses := true, apart := false }
def FnExactKeyOfSaid : Prop := fnExactKeyOfRow.holds Try.pinned (OpenSpec.ofChange fnExactKeyOfSpec)

/-- ITS FALSE NEIGHBOUR: 'it returns false'. Refute it at one input. -/
def fnExactKeyOfWrong : ChangeSpec := { name := "fnExactKeyOf", fn := fun _ => fun
  | [d] => { results := [.lit (.bool false)], args := [d] }
  | _ => none }
def FnExactKeyOfWrongFalsely : Prop := fnExactKeyOfRow.holds Try.pinned (OpenSpec.ofChange fnExactKeyOfWrong)

/-- 'laws.FnExactPairKey': WHATEVER THE INPUT: true; the input reads as it did. -/
def fnExactPairKeySpec : ChangeSpec := { name := "fnExactPairKey", fn := fun _ => fun
  | [d1, d2, d3] => { results := [.lit (.bool true)], args := [d1, d2, d3] }
  | _ => none }
def fnExactPairKeyRow : OpenClaim := { program := "ytdhjnpafijockab", sum := "a92bfe41194817b0aeb1aab7174e372040185535ad2d293efbe050f2ad5367d8", func := "loop.example/g01174/laws.FnExactPairKey", spec := "fnExactPairKey", unfollowed := true, recurses := true, apart := false }
def FnExactPairKeySaid : Prop := fnExactPairKeyRow.holds Try.pinned (OpenSpec.ofChange fnExactPairKeySpec)

/-- ITS FALSE NEIGHBOUR: 'it returns false'. Refute it at one input. -/
def fnExactPairKeyWrong : ChangeSpec := { name := "fnExactPairKey", fn := fun _ => fun
  | [d1, d2, d3] => { results := [.lit (.bool false)], args := [d1, d2, d3] }
  | _ => none }
def FnExactPairKeyWrongFalsely : Prop := fnExactPairKeyRow.holds Try.pinned (OpenSpec.ofChange fnExactPairKeyWrong)

/-- 'laws.FnExactChunkKey': WHATEVER THE INPUT: true; the input reads as it did. -/
def fnExactChunkKeySpec : ChangeSpec := { name := "fnExactChunkKey", fn := fun _ => fun
  | [d] => { results := [.lit (.bool true)], args := [d] }
  | _ => none }
def fnExactChunkKeyRow : OpenClaim := { program := "ytdhjnpafijockab", sum := "a92bfe41194817b0aeb1aab7174e372040185535ad2d293efbe050f2ad5367d8", func := "loop.example/g01174/laws.FnExactChunkKey", spec := "fnExactChunkKey", unfollowed := true, recurses := true, apart := false }
def FnExactChunkKeySaid : Prop := fnExactChunkKeyRow.holds Try.pinned (OpenSpec.ofChange fnExactChunkKeySpec)

/-- ITS FALSE NEIGHBOUR: 'it returns false'. Refute it at one input. -/
def fnExactChunkKeyWrong : ChangeSpec := { name := "fnExactChunkKey", fn := fun _ => fun
  | [d] => { results := [.lit (.bool false)], args := [d] }
  | _ => none }
def FnExactChunkKeyWrongFalsely : Prop := fnExactChunkKeyRow.holds Try.pinned (OpenSpec.ofChange fnExactChunkKeyWrong)

/-- 'laws.FnExactValidCutter': WHATEVER THE INPUT: true; the input reads as it did. -/
def fnExactValidCutterSpec : ChangeSpec := { name := "fnExactValidCutter", fn := fun _ => fun
  | [d] => { results := [.lit (.bool true)], args := [d] }
  | _ => none }
def fnExactValidCutterRow : OpenClaim := { program := "ytdhjnpafijockab", sum := "a92bfe41194817b0aeb1aab7174e372040185535ad2d293efbe050f2ad5367d8", func := "loop.example/g01174/laws.FnExactValidCutter", spec := "fnExactValidCutter", unfollowed := true, recurses := true, apart := false }
def FnExactValidCutterSaid : Prop := fnExactValidCutterRow.holds Try.pinned (OpenSpec.ofChange fnExactValidCutterSpec)

/-- ITS FALSE NEIGHBOUR: 'it returns false'. Refute it at one input. -/
def fnExactValidCutterWrong : ChangeSpec := { name := "fnExactValidCutter", fn := fun _ => fun
  | [d] => { results := [.lit (.bool false)], args := [d] }
  | _ => none }
def FnExactValidCutterWrongFalsely : Prop := fnExactValidCutterRow.holds Try.pinned (OpenSpec.ofChange fnExactValidCutterWrong)

/-- 'laws.FnExactEndCutter': WHATEVER THE INPUT: true; the input reads as it did. -/
def fnExactEndCutterSpec : ChangeSpec := { name := "fnExactEndCutter", fn := fun _ => fun
  | [d] => { results := [.lit (.bool true)], args := [d] }
  | _ => none }
def fnExactEndCutterRow : OpenClaim := { program := "ytdhjnpafijockab", sum := "a92bfe41194817b0aeb1aab7174e372040185535ad2d293efbe050f2ad5367d8", func := "loop.example/g01174/laws.FnExactEndCutter", spec := "fnExactEndCutter", unfollowed := true, recurses := true, apart := false }
def FnExactEndCutterSaid : Prop := fnExactEndCutterRow.holds Try.pinned (OpenSpec.ofChange fnExactEndCutterSpec)

/-- ITS FALSE NEIGHBOUR: 'it returns false'. Refute it at one input. -/
def fnExactEndCutterWrong : ChangeSpec := { name := "fnExactEndCutter", fn := fun _ => fun
  | [d] => { results := [.lit (.bool false)], args := [d] }
  | _ => none }
def FnExactEndCutterWrongFalsely : Prop := fnExactEndCutterRow.holds Try.pinned (OpenSpec.ofChange fnExactEndCutterWrong)

/-- 'laws.FnExactCutPlaces': WHATEVER THE INPUT: true; the input reads as it did. -/
def fnExactCutPlacesSpec : ChangeSpec := { name := "fnExactCutPlaces", fn := fun _ => fun
  | [d1, d2] => { results := [.lit (.bool true)], args := [d1, d2] }
  | _ => none }
def fnExactCutPlacesRow : OpenClaim := { program := "ytdhjnpafijockab", sum := "a92bfe41194817b0aeb1aab7174e372040185535ad2d293efbe050f2ad5367d8", func := "loop.example/g01174/laws.FnExactCutPlaces", spec := "fnExactCutPlaces", unfollowed := true, recurses := true, apart := false }
def FnExactCutPlacesSaid : Prop := fnExactCutPlacesRow.holds Try.pinned (OpenSpec.ofChange fnExactCutPlacesSpec)

/-- ITS FALSE NEIGHBOUR: 'it returns false'. Refute it at one input. -/
def fnExactCutPlacesWrong : ChangeSpec := { name := "fnExactCutPlaces", fn := fun _ => fun
  | [d1, d2] => { results := [.lit (.bool false)], args := [d1, d2] }
  | _ => none }
def FnExactCutPlacesWrongFalsely : Prop := fnExactCutPlacesRow.holds Try.pinned (OpenSpec.ofChange fnExactCutPlacesWrong)

/-- 'laws.FnExactChunksOf': WHATEVER THE INPUT: true; the input reads as it did. -/
def fnExactChunksOfSpec : ChangeSpec := { name := "fnExactChunksOf", fn := fun _ => fun
  | [d1, d2] => { results := [.lit (.bool true)], args := [d1, d2] }
  | _ => none }
def fnExactChunksOfRow : OpenClaim := { program := "ytdhjnpafijockab", sum := "a92bfe41194817b0aeb1aab7174e372040185535ad2d293efbe050f2ad5367d8", func := "loop.example/g01174/laws.FnExactChunksOf", spec := "fnExactChunksOf", unfollowed := true, recurses := true, apart := false }
def FnExactChunksOfSaid : Prop := fnExactChunksOfRow.holds Try.pinned (OpenSpec.ofChange fnExactChunksOfSpec)

/-- ITS FALSE NEIGHBOUR: 'it returns false'. Refute it at one input. -/
def fnExactChunksOfWrong : ChangeSpec := { name := "fnExactChunksOf", fn := fun _ => fun
  | [d1, d2] => { results := [.lit (.bool false)], args := [d1, d2] }
  | _ => none }
def FnExactChunksOfWrongFalsely : Prop := fnExactChunksOfRow.holds Try.pinned (OpenSpec.ofChange fnExactChunksOfWrong)

/- THE SECOND FORM. 'bulk': how many values and letters a reading holds, each counted each time it is reached (what is shared counts as often as it is met; a slice's spare places count too). A statement '..UptoSaid' is the law's where the arguments, and the package variables that the reading takes, are together of bulk at most 1048576: NARROWER than '..Said'. Prove '..Said' where nothing that the law and all that it calls make is longer than what came in: it says more and counts as full. Else prove '..UptoSaid'. A law counts once. -/
mutual
def uptoBulk {H : Type} : DataW H → Nat
  | .lit (.string bytes) => bytes.length + 1
  | .lit _ => 1
  | .nil => 1
  | .ptr d => uptoBulk d + 1
  | .slice elems spare => uptoBulkAll elems + uptoBulkAll spare + 1
  | .agg parts => uptoBulkAll parts + 1
  | .iface _ d => uptoBulk d + 1
  | .map entries => uptoBulkEntries entries + 1
  | .held _ => 1
def uptoBulkAll {H : Type} : List (DataW H) → Nat
  | [] => 0
  | d :: r => uptoBulk d + uptoBulkAll r
def uptoBulkEntries {H : Type} : List (Lit × DataW H) → Nat
  | [] => 0
  | x :: r => uptoBulkEntry x + uptoBulkEntries r
def uptoBulkEntry {H : Type} : Lit × DataW H → Nat
  | (.string bytes, d) => bytes.length + uptoBulk d + 1
  | (_, d) => uptoBulk d + 1
 end
def uptoSmall : (H : Type) → List (DataW H) → Bool := fun _ ds => decide (uptoBulkAll ds ≤ 1048576)
def OpenSpec.upto (s : _root_.Go.ChangeSpec) : _root_.Go.OpenSpec := { _root_.Go.OpenSpec.ofChange s with cond := some uptoSmall }

/-- 'laws.FnExactMixBlock', WHERE WHAT IT READS IS OF BULK AT MOST 1048576: true; the input reads as it did. -/
def fnExactMixBlockUptoRow : OpenClaim := { program := "ytdhjnpafijockab", sum := "a92bfe41194817b0aeb1aab7174e372040185535ad2d293efbe050f2ad5367d8", func := "loop.example/g01174/laws.FnExactMixBlock", spec := "fnExactMixBlock", apart := false, narrowed := true }
def FnExactMixBlockUptoSaid : Prop := fnExactMixBlockUptoRow.holds Try.pinned (OpenSpec.upto fnExactMixBlockSpec)

/-- 'laws.FnExactRollTable', WHERE WHAT IT READS IS OF BULK AT MOST 1048576: true; the input reads as it did. -/
def fnExactRollTableUptoRow : OpenClaim := { program := "ytdhjnpafijockab", sum := "a92bfe41194817b0aeb1aab7174e372040185535ad2d293efbe050f2ad5367d8", func := "loop.example/g01174/laws.FnExactRollTable", spec := "fnExactRollTable", apart := false, narrowed := true }
def FnExactRollTableUptoSaid : Prop := fnExactRollTableUptoRow.holds Try.pinned (OpenSpec.upto fnExactRollTableSpec)

/-- 'laws.FnExactRollOf', WHERE WHAT IT READS IS OF BULK AT MOST 1048576: true; the input reads as it did. -/
def fnExactRollOfUptoRow : OpenClaim := { program := "ytdhjnpafijockab", sum := "a92bfe41194817b0aeb1aab7174e372040185535ad2d293efbe050f2ad5367d8", func := "loop.example/g01174/laws.FnExactRollOf", spec := "fnExactRollOf", apart := false, narrowed := true }
def FnExactRollOfUptoSaid : Prop := fnExactRollOfUptoRow.holds Try.pinned (OpenSpec.upto fnExactRollOfSpec)

/-- 'laws.FnExactHashOf', WHERE WHAT IT READS IS OF BULK AT MOST 1048576: true; the input reads as it did. -/
def fnExactHashOfUptoRow : OpenClaim := { program := "ytdhjnpafijockab", sum := "a92bfe41194817b0aeb1aab7174e372040185535ad2d293efbe050f2ad5367d8", func := "loop.example/g01174/laws.FnExactHashOf", spec := "fnExactHashOf", unfollowed := true, recurses := true, apart := false, narrowed := true }
def FnExactHashOfUptoSaid : Prop := fnExactHashOfUptoRow.holds Try.pinned (OpenSpec.upto fnExactHashOfSpec)

/-- 'laws.FnExactFeedHasher', WHERE WHAT IT READS IS OF BULK AT MOST 1048576: true; the input reads as it did. -/
def fnExactFeedHasherUptoRow : OpenClaim := { program := "ytdhjnpafijockab", sum := "a92bfe41194817b0aeb1aab7174e372040185535ad2d293efbe050f2ad5367d8", func := "loop.example/g01174/laws.FnExactFeedHasher", spec := "fnExactFeedHasher", unfollowed := true, recurses := true, apart := false, narrowed := true }
def FnExactFeedHasherUptoSaid : Prop := fnExactFeedHasherUptoRow.holds Try.pinned (OpenSpec.upto fnExactFeedHasherSpec)

/-- 'laws.FnExactKeyOf', WHERE WHAT IT READS IS OF BULK AT MOST 1048576: true; the input reads as it did. -/
def fnExactKeyOfUptoRow : OpenClaim := { program := "ytdhjnpafijockab", sum := "a92bfe41194817b0aeb1aab7174e372040185535ad2d293efbe050f2ad5367d8", func := "loop.example/g01174/laws.FnExactKeyOf", spec := "fnExactKeyOf", unfollowed := true, recurses := true, apart := false, narrowed := true }
def FnExactKeyOfUptoSaid : Prop := fnExactKeyOfUptoRow.holds Try.pinned (OpenSpec.upto fnExactKeyOfSpec)

/-- 'laws.FnExactPairKey', WHERE WHAT IT READS IS OF BULK AT MOST 1048576: true; the input reads as it did. -/
def fnExactPairKeyUptoRow : OpenClaim := { program := "ytdhjnpafijockab", sum := "a92bfe41194817b0aeb1aab7174e372040185535ad2d293efbe050f2ad5367d8", func := "loop.example/g01174/laws.FnExactPairKey", spec := "fnExactPairKey", unfollowed := true, recurses := true, apart := false, narrowed := true }
def FnExactPairKeyUptoSaid : Prop := fnExactPairKeyUptoRow.holds Try.pinned (OpenSpec.upto fnExactPairKeySpec)

/-- 'laws.FnExactChunkKey', WHERE WHAT IT READS IS OF BULK AT MOST 1048576: true; the input reads as it did. -/
def fnExactChunkKeyUptoRow : OpenClaim := { program := "ytdhjnpafijockab", sum := "a92bfe41194817b0aeb1aab7174e372040185535ad2d293efbe050f2ad5367d8", func := "loop.example/g01174/laws.FnExactChunkKey", spec := "fnExactChunkKey", unfollowed := true, recurses := true, apart := false, narrowed := true }
def FnExactChunkKeyUptoSaid : Prop := fnExactChunkKeyUptoRow.holds Try.pinned (OpenSpec.upto fnExactChunkKeySpec)

/-- 'laws.FnExactValidCutter', WHERE WHAT IT READS IS OF BULK AT MOST 1048576: true; the input reads as it did. -/
def fnExactValidCutterUptoRow : OpenClaim := { program := "ytdhjnpafijockab", sum := "a92bfe41194817b0aeb1aab7174e372040185535ad2d293efbe050f2ad5367d8", func := "loop.example/g01174/laws.FnExactValidCutter", spec := "fnExactValidCutter", unfollowed := true, recurses := true, apart := false, narrowed := true }
def FnExactValidCutterUptoSaid : Prop := fnExactValidCutterUptoRow.holds Try.pinned (OpenSpec.upto fnExactValidCutterSpec)

/-- 'laws.FnExactEndCutter', WHERE WHAT IT READS IS OF BULK AT MOST 1048576: true; the input reads as it did. -/
def fnExactEndCutterUptoRow : OpenClaim := { program := "ytdhjnpafijockab", sum := "a92bfe41194817b0aeb1aab7174e372040185535ad2d293efbe050f2ad5367d8", func := "loop.example/g01174/laws.FnExactEndCutter", spec := "fnExactEndCutter", unfollowed := true, recurses := true, apart := false, narrowed := true }
def FnExactEndCutterUptoSaid : Prop := fnExactEndCutterUptoRow.holds Try.pinned (OpenSpec.upto fnExactEndCutterSpec)

/-- 'laws.FnExactCutPlaces', WHERE WHAT IT READS IS OF BULK AT MOST 1048576: true; the input reads as it did. -/
def fnExactCutPlacesUptoRow : OpenClaim := { program := "ytdhjnpafijockab", sum := "a92bfe41194817b0aeb1aab7174e372040185535ad2d293efbe050f2ad5367d8", func := "loop.example/g01174/laws.FnExactCutPlaces", spec := "fnExactCutPlaces", unfollowed := true, recurses := true, apart := false, narrowed := true }
def FnExactCutPlacesUptoSaid : Prop := fnExactCutPlacesUptoRow.holds Try.pinned (OpenSpec.upto fnExactCutPlacesSpec)

/-- 'laws.FnExactChunksOf', WHERE WHAT IT READS IS OF BULK AT MOST 1048576: true; the input reads as it did. -/
def fnExactChunksOfUptoRow : OpenClaim := { program := "ytdhjnpafijockab", sum := "a92bfe41194817b0aeb1aab7174e372040185535ad2d293efbe050f2ad5367d8", func := "loop.example/g01174/laws.FnExactChunksOf", spec := "fnExactChunksOf", unfollowed := true, recurses := true, apart := false, narrowed := true }
def FnExactChunksOfUptoSaid : Prop := fnExactChunksOfUptoRow.holds Try.pinned (OpenSpec.upto fnExactChunksOfSpec)

end Rows
end Go.Proofs.Ytdhjnpafijockab
