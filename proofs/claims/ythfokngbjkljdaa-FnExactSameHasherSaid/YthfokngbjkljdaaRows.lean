/-
  No cell of these rows narrows 'for every input' (looked for: loops, veiled, ifaces, maps, wideKeys, modest, calm, conditions, laid).
  DERIVED. THE GIVEN ROWS OF THIS SEAT. 12 by the template 'for every input the law returns true; each argument reads behind the call as it read before'; 0 by the template 'total and deterministic' (their statements: YthfokngbjkljdaaTotals.lean).
  GIVEN WITH THE SEED: the statements are not yours to turn. If you find one false, say at which input.
  Laid BY PROGRAM, IN A SANDBOX (cutbox-rows.mjs): the forced cells as the released guide's own fill.sh prints them over the translation 9c52ff4242f3f7c8… (all of the seat's roots in one cut). By AI agents, Wed Nov 11 2026. No macro, syntax, notation, axiom, sorry.
-/
import Derived.Test.YthfokngbjkljdaaChecked
import GoSem.Claim
import GoSem.ClaimJoined
import GoSem.ClaimMapViews
import Derived.JoinedTies
import Derived.KernelRfl
namespace Go.Proofs.Ythfokngbjkljdaa
/- THE CELL 'sum', in the pinned program and in every row, IS THE sha256 OF THE DUMP (.gsa) THAT YthfokngbjkljdaaProg.lean LOADS. Nothing in Lean hashes anything: it is a label: what it is worth is what the hold of that sum in a sandbox is worth. -/
noncomputable def Try.pinned : Pinned := { name := "ythfokngbjkljdaa", sum := "9c52ff4242f3f7c8d6ba176819f6b589caad357e7f1cfe15d296a45083fba484", checked := Try.checked }
namespace Rows
def none {H : Type} : Left H := { results := [], args := [] }

/-- 'laws.FnExactCodeName': WHATEVER THE INPUT: true; the input reads as it did. -/
def fnExactCodeNameSpec : ChangeSpec := { name := "fnExactCodeName", fn := fun _ => fun
  | [d] => { results := [.lit (.bool true)], args := [d] }
  | _ => none }
def fnExactCodeNameRow : OpenClaim := { program := "ythfokngbjkljdaa", sum := "9c52ff4242f3f7c8d6ba176819f6b589caad357e7f1cfe15d296a45083fba484", func := "loop.example/g01174/laws.FnExactCodeName", spec := "fnExactCodeName", apart := false }
def FnExactCodeNameSaid : Prop := fnExactCodeNameRow.holds Try.pinned (OpenSpec.ofChange fnExactCodeNameSpec)

/-- ITS FALSE NEIGHBOUR: 'it returns false'. Refute it at one input. -/
def fnExactCodeNameWrong : ChangeSpec := { name := "fnExactCodeName", fn := fun _ => fun
  | [d] => { results := [.lit (.bool false)], args := [d] }
  | _ => none }
def FnExactCodeNameWrongFalsely : Prop := fnExactCodeNameRow.holds Try.pinned (OpenSpec.ofChange fnExactCodeNameWrong)

/-- 'laws.FnExactMixBlock': WHATEVER THE INPUT: true; the input reads as it did. -/
def fnExactMixBlockSpec : ChangeSpec := { name := "fnExactMixBlock", fn := fun _ => fun
  | [d1, d2] => { results := [.lit (.bool true)], args := [d1, d2] }
  | _ => none }
def fnExactMixBlockRow : OpenClaim := { program := "ythfokngbjkljdaa", sum := "9c52ff4242f3f7c8d6ba176819f6b589caad357e7f1cfe15d296a45083fba484", func := "loop.example/g01174/laws.FnExactMixBlock", spec := "fnExactMixBlock", apart := false }
def FnExactMixBlockSaid : Prop := fnExactMixBlockRow.holds Try.pinned (OpenSpec.ofChange fnExactMixBlockSpec)

/-- ITS FALSE NEIGHBOUR: 'it returns false'. Refute it at one input. -/
def fnExactMixBlockWrong : ChangeSpec := { name := "fnExactMixBlock", fn := fun _ => fun
  | [d1, d2] => { results := [.lit (.bool false)], args := [d1, d2] }
  | _ => none }
def FnExactMixBlockWrongFalsely : Prop := fnExactMixBlockRow.holds Try.pinned (OpenSpec.ofChange fnExactMixBlockWrong)

/-- 'laws.FnExactStartState': WHATEVER THE INPUT: true; the input reads as it did. -/
def fnExactStartStateSpec : ChangeSpec := { name := "fnExactStartState", fn := fun _ => fun
  | [d] => { results := [.lit (.bool true)], args := [d] }
  | _ => none }
def fnExactStartStateRow : OpenClaim := { program := "ythfokngbjkljdaa", sum := "9c52ff4242f3f7c8d6ba176819f6b589caad357e7f1cfe15d296a45083fba484", func := "loop.example/g01174/laws.FnExactStartState", spec := "fnExactStartState", apart := false }
def FnExactStartStateSaid : Prop := fnExactStartStateRow.holds Try.pinned (OpenSpec.ofChange fnExactStartStateSpec)

/-- ITS FALSE NEIGHBOUR: 'it returns false'. Refute it at one input. -/
def fnExactStartStateWrong : ChangeSpec := { name := "fnExactStartState", fn := fun _ => fun
  | [d] => { results := [.lit (.bool false)], args := [d] }
  | _ => none }
def FnExactStartStateWrongFalsely : Prop := fnExactStartStateRow.holds Try.pinned (OpenSpec.ofChange fnExactStartStateWrong)

/-- 'laws.FnExactPadBlocks': WHATEVER THE INPUT: true; the input reads as it did. -/
def fnExactPadBlocksSpec : ChangeSpec := { name := "fnExactPadBlocks", fn := fun _ => fun
  | [d] => { results := [.lit (.bool true)], args := [d] }
  | _ => none }
def fnExactPadBlocksRow : OpenClaim := { program := "ythfokngbjkljdaa", sum := "9c52ff4242f3f7c8d6ba176819f6b589caad357e7f1cfe15d296a45083fba484", func := "loop.example/g01174/laws.FnExactPadBlocks", spec := "fnExactPadBlocks", unfollowed := true, recurses := true, apart := false }
def FnExactPadBlocksSaid : Prop := fnExactPadBlocksRow.holds Try.pinned (OpenSpec.ofChange fnExactPadBlocksSpec)

/-- ITS FALSE NEIGHBOUR: 'it returns false'. Refute it at one input. -/
def fnExactPadBlocksWrong : ChangeSpec := { name := "fnExactPadBlocks", fn := fun _ => fun
  | [d] => { results := [.lit (.bool false)], args := [d] }
  | _ => none }
def FnExactPadBlocksWrongFalsely : Prop := fnExactPadBlocksRow.holds Try.pinned (OpenSpec.ofChange fnExactPadBlocksWrong)

/-- 'laws.FnExactHashOf': WHATEVER THE INPUT: true; the input reads as it did. -/
def fnExactHashOfSpec : ChangeSpec := { name := "fnExactHashOf", fn := fun _ => fun
  | [d1, d2] => { results := [.lit (.bool true)], args := [d1, d2] }
  | _ => none }
def fnExactHashOfRow : OpenClaim := { program := "ythfokngbjkljdaa", sum := "9c52ff4242f3f7c8d6ba176819f6b589caad357e7f1cfe15d296a45083fba484", func := "loop.example/g01174/laws.FnExactHashOf", spec := "fnExactHashOf", unfollowed := true, recurses := true, apart := false }
def FnExactHashOfSaid : Prop := fnExactHashOfRow.holds Try.pinned (OpenSpec.ofChange fnExactHashOfSpec)

/-- ITS FALSE NEIGHBOUR: 'it returns false'. Refute it at one input. -/
def fnExactHashOfWrong : ChangeSpec := { name := "fnExactHashOf", fn := fun _ => fun
  | [d1, d2] => { results := [.lit (.bool false)], args := [d1, d2] }
  | _ => none }
def FnExactHashOfWrongFalsely : Prop := fnExactHashOfRow.holds Try.pinned (OpenSpec.ofChange fnExactHashOfWrong)

/-- 'laws.FnExactStartHasher': WHATEVER THE INPUT: true; the input reads as it did. -/
def fnExactStartHasherSpec : ChangeSpec := { name := "fnExactStartHasher", fn := fun _ => fun
  | [d] => { results := [.lit (.bool true)], args := [d] }
  | _ => none }
def fnExactStartHasherRow : OpenClaim := { program := "ythfokngbjkljdaa", sum := "9c52ff4242f3f7c8d6ba176819f6b589caad357e7f1cfe15d296a45083fba484", func := "loop.example/g01174/laws.FnExactStartHasher", spec := "fnExactStartHasher", apart := false }
def FnExactStartHasherSaid : Prop := fnExactStartHasherRow.holds Try.pinned (OpenSpec.ofChange fnExactStartHasherSpec)

/-- ITS FALSE NEIGHBOUR: 'it returns false'. Refute it at one input. -/
def fnExactStartHasherWrong : ChangeSpec := { name := "fnExactStartHasher", fn := fun _ => fun
  | [d] => { results := [.lit (.bool false)], args := [d] }
  | _ => none }
def FnExactStartHasherWrongFalsely : Prop := fnExactStartHasherRow.holds Try.pinned (OpenSpec.ofChange fnExactStartHasherWrong)

/-- 'laws.FnExactValidHasher': WHATEVER THE INPUT: true; the input reads as it did. -/
def fnExactValidHasherSpec : ChangeSpec := { name := "fnExactValidHasher", fn := fun _ => fun
  | [d] => { results := [.lit (.bool true)], args := [d] }
  | _ => none }
def fnExactValidHasherRow : OpenClaim := { program := "ythfokngbjkljdaa", sum := "9c52ff4242f3f7c8d6ba176819f6b589caad357e7f1cfe15d296a45083fba484", func := "loop.example/g01174/laws.FnExactValidHasher", spec := "fnExactValidHasher", apart := false }
def FnExactValidHasherSaid : Prop := fnExactValidHasherRow.holds Try.pinned (OpenSpec.ofChange fnExactValidHasherSpec)

/-- ITS FALSE NEIGHBOUR: 'it returns false'. Refute it at one input. -/
def fnExactValidHasherWrong : ChangeSpec := { name := "fnExactValidHasher", fn := fun _ => fun
  | [d] => { results := [.lit (.bool false)], args := [d] }
  | _ => none }
def FnExactValidHasherWrongFalsely : Prop := fnExactValidHasherRow.holds Try.pinned (OpenSpec.ofChange fnExactValidHasherWrong)

/-- 'laws.FnExactSameHasher': WHATEVER THE INPUT: true; the input reads as it did. -/
def fnExactSameHasherSpec : ChangeSpec := { name := "fnExactSameHasher", fn := fun _ => fun
  | [d1, d2] => { results := [.lit (.bool true)], args := [d1, d2] }
  | _ => none }
def fnExactSameHasherRow : OpenClaim := { program := "ythfokngbjkljdaa", sum := "9c52ff4242f3f7c8d6ba176819f6b589caad357e7f1cfe15d296a45083fba484", func := "loop.example/g01174/laws.FnExactSameHasher", spec := "fnExactSameHasher", apart := false }
def FnExactSameHasherSaid : Prop := fnExactSameHasherRow.holds Try.pinned (OpenSpec.ofChange fnExactSameHasherSpec)

/-- ITS FALSE NEIGHBOUR: 'it returns false'. Refute it at one input. -/
def fnExactSameHasherWrong : ChangeSpec := { name := "fnExactSameHasher", fn := fun _ => fun
  | [d1, d2] => { results := [.lit (.bool false)], args := [d1, d2] }
  | _ => none }
def FnExactSameHasherWrongFalsely : Prop := fnExactSameHasherRow.holds Try.pinned (OpenSpec.ofChange fnExactSameHasherWrong)

/-- 'laws.FnExactFeedHasher': WHATEVER THE INPUT: true; the input reads as it did. -/
def fnExactFeedHasherSpec : ChangeSpec := { name := "fnExactFeedHasher", fn := fun _ => fun
  | [d1, d2] => { results := [.lit (.bool true)], args := [d1, d2] }
  | _ => none }
def fnExactFeedHasherRow : OpenClaim := { program := "ythfokngbjkljdaa", sum := "9c52ff4242f3f7c8d6ba176819f6b589caad357e7f1cfe15d296a45083fba484", func := "loop.example/g01174/laws.FnExactFeedHasher", spec := "fnExactFeedHasher", unfollowed := true, recurses := true, apart := false }
def FnExactFeedHasherSaid : Prop := fnExactFeedHasherRow.holds Try.pinned (OpenSpec.ofChange fnExactFeedHasherSpec)

/-- ITS FALSE NEIGHBOUR: 'it returns false'. Refute it at one input. -/
def fnExactFeedHasherWrong : ChangeSpec := { name := "fnExactFeedHasher", fn := fun _ => fun
  | [d1, d2] => { results := [.lit (.bool false)], args := [d1, d2] }
  | _ => none }
def FnExactFeedHasherWrongFalsely : Prop := fnExactFeedHasherRow.holds Try.pinned (OpenSpec.ofChange fnExactFeedHasherWrong)

/-- 'laws.FnExactKeyOf': WHATEVER THE INPUT: true; the input reads as it did. -/
def fnExactKeyOfSpec : ChangeSpec := { name := "fnExactKeyOf", fn := fun _ => fun
  | [d] => { results := [.lit (.bool true)], args := [d] }
  | _ => none }
def fnExactKeyOfRow : OpenClaim := { program := "ythfokngbjkljdaa", sum := "9c52ff4242f3f7c8d6ba176819f6b589caad357e7f1cfe15d296a45083fba484", func := "loop.example/g01174/laws.FnExactKeyOf", spec := "fnExactKeyOf", unfollowed := true, recurses := true, apart := false }
def FnExactKeyOfSaid : Prop := fnExactKeyOfRow.holds Try.pinned (OpenSpec.ofChange fnExactKeyOfSpec)

/-- ITS FALSE NEIGHBOUR: 'it returns false'. Refute it at one input. -/
def fnExactKeyOfWrong : ChangeSpec := { name := "fnExactKeyOf", fn := fun _ => fun
  | [d] => { results := [.lit (.bool false)], args := [d] }
  | _ => none }
def FnExactKeyOfWrongFalsely : Prop := fnExactKeyOfRow.holds Try.pinned (OpenSpec.ofChange fnExactKeyOfWrong)

/-- 'laws.FnExactPairKey': WHATEVER THE INPUT: true; the input reads as it did. -/
def fnExactPairKeySpec : ChangeSpec := { name := "fnExactPairKey", fn := fun _ => fun
  | [d1, d2, d3] => { results := [.lit (.bool true)], args := [d1, d2, d3] }
  | _ => none }
def fnExactPairKeyRow : OpenClaim := { program := "ythfokngbjkljdaa", sum := "9c52ff4242f3f7c8d6ba176819f6b589caad357e7f1cfe15d296a45083fba484", func := "loop.example/g01174/laws.FnExactPairKey", spec := "fnExactPairKey", unfollowed := true, recurses := true, apart := false }
def FnExactPairKeySaid : Prop := fnExactPairKeyRow.holds Try.pinned (OpenSpec.ofChange fnExactPairKeySpec)

/-- ITS FALSE NEIGHBOUR: 'it returns false'. Refute it at one input. -/
def fnExactPairKeyWrong : ChangeSpec := { name := "fnExactPairKey", fn := fun _ => fun
  | [d1, d2, d3] => { results := [.lit (.bool false)], args := [d1, d2, d3] }
  | _ => none }
def FnExactPairKeyWrongFalsely : Prop := fnExactPairKeyRow.holds Try.pinned (OpenSpec.ofChange fnExactPairKeyWrong)

/-- 'laws.FnExactXorKeys': WHATEVER THE INPUT: true; the input reads as it did. -/
def fnExactXorKeysSpec : ChangeSpec := { name := "fnExactXorKeys", fn := fun _ => fun
  | [d1, d2] => { results := [.lit (.bool true)], args := [d1, d2] }
  | _ => none }
def fnExactXorKeysRow : OpenClaim := { program := "ythfokngbjkljdaa", sum := "9c52ff4242f3f7c8d6ba176819f6b589caad357e7f1cfe15d296a45083fba484", func := "loop.example/g01174/laws.FnExactXorKeys", spec := "fnExactXorKeys", apart := false }
def FnExactXorKeysSaid : Prop := fnExactXorKeysRow.holds Try.pinned (OpenSpec.ofChange fnExactXorKeysSpec)

/-- ITS FALSE NEIGHBOUR: 'it returns false'. Refute it at one input. -/
def fnExactXorKeysWrong : ChangeSpec := { name := "fnExactXorKeys", fn := fun _ => fun
  | [d1, d2] => { results := [.lit (.bool false)], args := [d1, d2] }
  | _ => none }
def FnExactXorKeysWrongFalsely : Prop := fnExactXorKeysRow.holds Try.pinned (OpenSpec.ofChange fnExactXorKeysWrong)

/- THE SECOND FORM. 'bulk': how many values and letters a reading holds, each counted each time it is reached (what is shared counts as often as it is met; a slice's spare places count too). A statement '..UptoSaid' is the law's where the arguments, and the package variables that the reading takes, are together of bulk at most 1048576: NARROWER than '..Said'. Prove '..Said' where nothing that the law and all that it calls make is longer than what came in: it says more and counts as full. Else prove '..UptoSaid'. A law counts once. -/
mutual
def uptoBulk {H : Type} : DataW H → Nat
  | .lit (.string bytes) => bytes.length + 1
  | .lit _ => 1
  | .nil => 1
  | .ptr d => uptoBulk d + 1
  | .slice elems spare => uptoBulkAll elems + uptoBulkAll spare + 1
  | .agg parts => uptoBulkAll parts + 1
  | .iface _ d => uptoBulk d + 1
  | .map entries => uptoBulkEntries entries + 1
  | .held _ => 1
def uptoBulkAll {H : Type} : List (DataW H) → Nat
  | [] => 0
  | d :: r => uptoBulk d + uptoBulkAll r
def uptoBulkEntries {H : Type} : List (Lit × DataW H) → Nat
  | [] => 0
  | x :: r => uptoBulkEntry x + uptoBulkEntries r
def uptoBulkEntry {H : Type} : Lit × DataW H → Nat
  | (.string bytes, d) => bytes.length + uptoBulk d + 1
  | (_, d) => uptoBulk d + 1
 end
def uptoSmall : (H : Type) → List (DataW H) → Bool := fun _ ds => decide (uptoBulkAll ds ≤ 1048576)
def OpenSpec.upto (s : _root_.Go.ChangeSpec) : _root_.Go.OpenSpec := { _root_.Go.OpenSpec.ofChange s with cond := some uptoSmall }

/-- 'laws.FnExactCodeName', WHERE WHAT IT READS IS OF BULK AT MOST 1048576: true; the input reads as it did. -/
def fnExactCodeNameUptoRow : OpenClaim := { program := "ythfokngbjkljdaa", sum := "9c52ff4242f3f7c8d6ba176819f6b589caad357e7f1cfe15d296a45083fba484", func := "loop.example/g01174/laws.FnExactCodeName", spec := "fnExactCodeName", apart := false, narrowed := true }
def FnExactCodeNameUptoSaid : Prop := fnExactCodeNameUptoRow.holds Try.pinned (OpenSpec.upto fnExactCodeNameSpec)

/-- 'laws.FnExactMixBlock', WHERE WHAT IT READS IS OF BULK AT MOST 1048576: true; the input reads as it did. -/
def fnExactMixBlockUptoRow : OpenClaim := { program := "ythfokngbjkljdaa", sum := "9c52ff4242f3f7c8d6ba176819f6b589caad357e7f1cfe15d296a45083fba484", func := "loop.example/g01174/laws.FnExactMixBlock", spec := "fnExactMixBlock", apart := false, narrowed := true }
def FnExactMixBlockUptoSaid : Prop := fnExactMixBlockUptoRow.holds Try.pinned (OpenSpec.upto fnExactMixBlockSpec)

/-- 'laws.FnExactStartState', WHERE WHAT IT READS IS OF BULK AT MOST 1048576: true; the input reads as it did. -/
def fnExactStartStateUptoRow : OpenClaim := { program := "ythfokngbjkljdaa", sum := "9c52ff4242f3f7c8d6ba176819f6b589caad357e7f1cfe15d296a45083fba484", func := "loop.example/g01174/laws.FnExactStartState", spec := "fnExactStartState", apart := false, narrowed := true }
def FnExactStartStateUptoSaid : Prop := fnExactStartStateUptoRow.holds Try.pinned (OpenSpec.upto fnExactStartStateSpec)

/-- 'laws.FnExactPadBlocks', WHERE WHAT IT READS IS OF BULK AT MOST 1048576: true; the input reads as it did. -/
def fnExactPadBlocksUptoRow : OpenClaim := { program := "ythfokngbjkljdaa", sum := "9c52ff4242f3f7c8d6ba176819f6b589caad357e7f1cfe15d296a45083fba484", func := "loop.example/g01174/laws.FnExactPadBlocks", spec := "fnExactPadBlocks", unfollowed := true, recurses := true, apart := false, narrowed := true }
def FnExactPadBlocksUptoSaid : Prop := fnExactPadBlocksUptoRow.holds Try.pinned (OpenSpec.upto fnExactPadBlocksSpec)

/-- 'laws.FnExactHashOf', WHERE WHAT IT READS IS OF BULK AT MOST 1048576: true; the input reads as it did. -/
def fnExactHashOfUptoRow : OpenClaim := { program := "ythfokngbjkljdaa", sum := "9c52ff4242f3f7c8d6ba176819f6b589caad357e7f1cfe15d296a45083fba484", func := "loop.example/g01174/laws.FnExactHashOf", spec := "fnExactHashOf", unfollowed := true, recurses := true, apart := false, narrowed := true }
def FnExactHashOfUptoSaid : Prop := fnExactHashOfUptoRow.holds Try.pinned (OpenSpec.upto fnExactHashOfSpec)

/-- 'laws.FnExactStartHasher', WHERE WHAT IT READS IS OF BULK AT MOST 1048576: true; the input reads as it did. -/
def fnExactStartHasherUptoRow : OpenClaim := { program := "ythfokngbjkljdaa", sum := "9c52ff4242f3f7c8d6ba176819f6b589caad357e7f1cfe15d296a45083fba484", func := "loop.example/g01174/laws.FnExactStartHasher", spec := "fnExactStartHasher", apart := false, narrowed := true }
def FnExactStartHasherUptoSaid : Prop := fnExactStartHasherUptoRow.holds Try.pinned (OpenSpec.upto fnExactStartHasherSpec)

/-- 'laws.FnExactValidHasher', WHERE WHAT IT READS IS OF BULK AT MOST 1048576: true; the input reads as it did. -/
def fnExactValidHasherUptoRow : OpenClaim := { program := "ythfokngbjkljdaa", sum := "9c52ff4242f3f7c8d6ba176819f6b589caad357e7f1cfe15d296a45083fba484", func := "loop.example/g01174/laws.FnExactValidHasher", spec := "fnExactValidHasher", apart := false, narrowed := true }
def FnExactValidHasherUptoSaid : Prop := fnExactValidHasherUptoRow.holds Try.pinned (OpenSpec.upto fnExactValidHasherSpec)

/-- 'laws.FnExactSameHasher', WHERE WHAT IT READS IS OF BULK AT MOST 1048576: true; the input reads as it did. -/
def fnExactSameHasherUptoRow : OpenClaim := { program := "ythfokngbjkljdaa", sum := "9c52ff4242f3f7c8d6ba176819f6b589caad357e7f1cfe15d296a45083fba484", func := "loop.example/g01174/laws.FnExactSameHasher", spec := "fnExactSameHasher", apart := false, narrowed := true }
def FnExactSameHasherUptoSaid : Prop := fnExactSameHasherUptoRow.holds Try.pinned (OpenSpec.upto fnExactSameHasherSpec)

/-- 'laws.FnExactFeedHasher', WHERE WHAT IT READS IS OF BULK AT MOST 1048576: true; the input reads as it did. -/
def fnExactFeedHasherUptoRow : OpenClaim := { program := "ythfokngbjkljdaa", sum := "9c52ff4242f3f7c8d6ba176819f6b589caad357e7f1cfe15d296a45083fba484", func := "loop.example/g01174/laws.FnExactFeedHasher", spec := "fnExactFeedHasher", unfollowed := true, recurses := true, apart := false, narrowed := true }
def FnExactFeedHasherUptoSaid : Prop := fnExactFeedHasherUptoRow.holds Try.pinned (OpenSpec.upto fnExactFeedHasherSpec)

/-- 'laws.FnExactKeyOf', WHERE WHAT IT READS IS OF BULK AT MOST 1048576: true; the input reads as it did. -/
def fnExactKeyOfUptoRow : OpenClaim := { program := "ythfokngbjkljdaa", sum := "9c52ff4242f3f7c8d6ba176819f6b589caad357e7f1cfe15d296a45083fba484", func := "loop.example/g01174/laws.FnExactKeyOf", spec := "fnExactKeyOf", unfollowed := true, recurses := true, apart := false, narrowed := true }
def FnExactKeyOfUptoSaid : Prop := fnExactKeyOfUptoRow.holds Try.pinned (OpenSpec.upto fnExactKeyOfSpec)

/-- 'laws.FnExactPairKey', WHERE WHAT IT READS IS OF BULK AT MOST 1048576: true; the input reads as it did. -/
def fnExactPairKeyUptoRow : OpenClaim := { program := "ythfokngbjkljdaa", sum := "9c52ff4242f3f7c8d6ba176819f6b589caad357e7f1cfe15d296a45083fba484", func := "loop.example/g01174/laws.FnExactPairKey", spec := "fnExactPairKey", unfollowed := true, recurses := true, apart := false, narrowed := true }
def FnExactPairKeyUptoSaid : Prop := fnExactPairKeyUptoRow.holds Try.pinned (OpenSpec.upto fnExactPairKeySpec)

/-- 'laws.FnExactXorKeys', WHERE WHAT IT READS IS OF BULK AT MOST 1048576: true; the input reads as it did. -/
def fnExactXorKeysUptoRow : OpenClaim := { program := "ythfokngbjkljdaa", sum := "9c52ff4242f3f7c8d6ba176819f6b589caad357e7f1cfe15d296a45083fba484", func := "loop.example/g01174/laws.FnExactXorKeys", spec := "fnExactXorKeys", apart := false, narrowed := true }
def FnExactXorKeysUptoSaid : Prop := fnExactXorKeysUptoRow.holds Try.pinned (OpenSpec.upto fnExactXorKeysSpec)

end Rows
end Go.Proofs.Ythfokngbjkljdaa
