/-
  No cell of these rows narrows 'for every input' (looked for: loops, veiled, ifaces, maps, wideKeys, modest, calm, conditions, laid).
  DERIVED. THE GIVEN ROWS OF THIS SEAT. 11 by the template 'for every input the law returns true; each argument reads behind the call as it read before'; 0 by the template 'total and deterministic' (their statements: YtdoelmjaongjfaaTotals.lean).
  GIVEN WITH THE SEED: the statements are not yours to turn. If you find one false, say at which input.
  Laid BY PROGRAM, IN A SANDBOX (cutbox-rows.mjs): the forced cells as the released guide's own fill.sh prints them over the translation 60bc52232ecd0268… (all of the seat's roots in one cut). By AI agents, Wed Nov 11 2026. No macro, syntax, notation, axiom, sorry.
-/
import Derived.Test.YtdoelmjaongjfaaChecked
import GoSem.Claim
import GoSem.ClaimJoined
import GoSem.ClaimMapViews
import Derived.JoinedTies
import Derived.KernelRfl
namespace Go.Proofs.Ytdoelmjaongjfaa
/- THE CELL 'sum', in the pinned program and in every row, IS THE sha256 OF THE DUMP (.gsa) THAT YtdoelmjaongjfaaProg.lean LOADS. Nothing in Lean hashes anything: it is a label: what it is worth is what the hold of that sum in a sandbox is worth. -/
noncomputable def Try.pinned : Pinned := { name := "ytdoelmjaongjfaa", sum := "60bc52232ecd02684e4d85fb8036cd71ffa8ad5a7a3ca87ffe995d1d98af9194", checked := Try.checked }
namespace Rows
def none {H : Type} : Left H := { results := [], args := [] }

/-- 'laws.FnExactValidStore': WHATEVER THE INPUT: true; the input reads as it did. -/
def fnExactValidStoreSpec : ChangeSpec := { name := "fnExactValidStore", fn := fun _ => fun
  | [d] => { results := [.lit (.bool true)], args := [d] }
  | _ => none }
def fnExactValidStoreRow : OpenClaim := { program := "ytdoelmjaongjfaa", sum := "60bc52232ecd02684e4d85fb8036cd71ffa8ad5a7a3ca87ffe995d1d98af9194", func := "loop.example/g01174/laws.FnExactValidStore", spec := "fnExactValidStore", inPlace := ["internal/bytealg.Compare"], unfollowed := true, recurses := true, plainKeys := false, apart := false }
def FnExactValidStoreSaid : Prop := fnExactValidStoreRow.holds Try.pinned (OpenSpec.ofChange fnExactValidStoreSpec)

/-- ITS FALSE NEIGHBOUR: 'it returns false'. Refute it at one input. -/
def fnExactValidStoreWrong : ChangeSpec := { name := "fnExactValidStore", fn := fun _ => fun
  | [d] => { results := [.lit (.bool false)], args := [d] }
  | _ => none }
def FnExactValidStoreWrongFalsely : Prop := fnExactValidStoreRow.holds Try.pinned (OpenSpec.ofChange fnExactValidStoreWrong)

/-- 'laws.FnExactSameStore': WHATEVER THE INPUT: true; the input reads as it did. -/
def fnExactSameStoreSpec : ChangeSpec := { name := "fnExactSameStore", fn := fun _ => fun
  | [d1, d2] => { results := [.lit (.bool true)], args := [d1, d2] }
  | _ => none }
def fnExactSameStoreRow : OpenClaim := { program := "ytdoelmjaongjfaa", sum := "60bc52232ecd02684e4d85fb8036cd71ffa8ad5a7a3ca87ffe995d1d98af9194", func := "loop.example/g01174/laws.FnExactSameStore", spec := "fnExactSameStore", unfollowed := true, recurses := true, plainKeys := false, apart := false }
def FnExactSameStoreSaid : Prop := fnExactSameStoreRow.holds Try.pinned (OpenSpec.ofChange fnExactSameStoreSpec)

/-- ITS FALSE NEIGHBOUR: 'it returns false'. Refute it at one input. -/
def fnExactSameStoreWrong : ChangeSpec := { name := "fnExactSameStore", fn := fun _ => fun
  | [d1, d2] => { results := [.lit (.bool false)], args := [d1, d2] }
  | _ => none }
def FnExactSameStoreWrongFalsely : Prop := fnExactSameStoreRow.holds Try.pinned (OpenSpec.ofChange fnExactSameStoreWrong)

/-- 'laws.FnExactKeysOfStore': WHATEVER THE INPUT: true; the input reads as it did. -/
def fnExactKeysOfStoreSpec : ChangeSpec := { name := "fnExactKeysOfStore", fn := fun _ => fun
  | [d] => { results := [.lit (.bool true)], args := [d] }
  | _ => none }
def fnExactKeysOfStoreRow : OpenClaim := { program := "ytdoelmjaongjfaa", sum := "60bc52232ecd02684e4d85fb8036cd71ffa8ad5a7a3ca87ffe995d1d98af9194", func := "loop.example/g01174/laws.FnExactKeysOfStore", spec := "fnExactKeysOfStore", inPlace := ["internal/bytealg.Compare"], unfollowed := true, recurses := true, plainKeys := false, apart := false }
def FnExactKeysOfStoreSaid : Prop := fnExactKeysOfStoreRow.holds Try.pinned (OpenSpec.ofChange fnExactKeysOfStoreSpec)

/-- ITS FALSE NEIGHBOUR: 'it returns false'. Refute it at one input. -/
def fnExactKeysOfStoreWrong : ChangeSpec := { name := "fnExactKeysOfStore", fn := fun _ => fun
  | [d] => { results := [.lit (.bool false)], args := [d] }
  | _ => none }
def FnExactKeysOfStoreWrongFalsely : Prop := fnExactKeysOfStoreRow.holds Try.pinned (OpenSpec.ofChange fnExactKeysOfStoreWrong)

/-- 'laws.FnExactGetBlob': WHATEVER THE INPUT: true; the input reads as it did. -/
def fnExactGetBlobSpec : ChangeSpec := { name := "fnExactGetBlob", fn := fun _ => fun
  | [d1, d2] => { results := [.lit (.bool true)], args := [d1, d2] }
  | _ => none }
def fnExactGetBlobRow : OpenClaim := { program := "ytdoelmjaongjfaa", sum := "60bc52232ecd02684e4d85fb8036cd71ffa8ad5a7a3ca87ffe995d1d98af9194", func := "loop.example/g01174/laws.FnExactGetBlob", spec := "fnExactGetBlob", inPlace := ["internal/bytealg.Compare"], unfollowed := true, recurses := true, plainKeys := false, apart := false }
def FnExactGetBlobSaid : Prop := fnExactGetBlobRow.holds Try.pinned (OpenSpec.ofChange fnExactGetBlobSpec)

/-- ITS FALSE NEIGHBOUR: 'it returns false'. Refute it at one input. -/
def fnExactGetBlobWrong : ChangeSpec := { name := "fnExactGetBlob", fn := fun _ => fun
  | [d1, d2] => { results := [.lit (.bool false)], args := [d1, d2] }
  | _ => none }
def FnExactGetBlobWrongFalsely : Prop := fnExactGetBlobRow.holds Try.pinned (OpenSpec.ofChange fnExactGetBlobWrong)

/-- 'laws.FnExactPutBlob': WHATEVER THE INPUT: true; the input reads as it did. -/
def fnExactPutBlobSpec : ChangeSpec := { name := "fnExactPutBlob", fn := fun _ => fun
  | [d1, d2] => { results := [.lit (.bool true)], args := [d1, d2] }
  | _ => none }
def fnExactPutBlobRow : OpenClaim := { program := "ytdoelmjaongjfaa", sum := "60bc52232ecd02684e4d85fb8036cd71ffa8ad5a7a3ca87ffe995d1d98af9194", func := "loop.example/g01174/laws.FnExactPutBlob", spec := "fnExactPutBlob", inPlace := ["internal/bytealg.Compare"], unfollowed := true, recurses := true, plainKeys := false, apart := false }
def FnExactPutBlobSaid : Prop := fnExactPutBlobRow.holds Try.pinned (OpenSpec.ofChange fnExactPutBlobSpec)

/-- ITS FALSE NEIGHBOUR: 'it returns false'. Refute it at one input. -/
def fnExactPutBlobWrong : ChangeSpec := { name := "fnExactPutBlob", fn := fun _ => fun
  | [d1, d2] => { results := [.lit (.bool false)], args := [d1, d2] }
  | _ => none }
def FnExactPutBlobWrongFalsely : Prop := fnExactPutBlobRow.holds Try.pinned (OpenSpec.ofChange fnExactPutBlobWrong)

/-- 'laws.FnExactDropBlob': WHATEVER THE INPUT: true; the input reads as it did. -/
def fnExactDropBlobSpec : ChangeSpec := { name := "fnExactDropBlob", fn := fun _ => fun
  | [d1, d2] => { results := [.lit (.bool true)], args := [d1, d2] }
  | _ => none }
def fnExactDropBlobRow : OpenClaim := { program := "ytdoelmjaongjfaa", sum := "60bc52232ecd02684e4d85fb8036cd71ffa8ad5a7a3ca87ffe995d1d98af9194", func := "loop.example/g01174/laws.FnExactDropBlob", spec := "fnExactDropBlob", inPlace := ["internal/bytealg.Compare"], unfollowed := true, recurses := true, plainKeys := false, apart := false }
def FnExactDropBlobSaid : Prop := fnExactDropBlobRow.holds Try.pinned (OpenSpec.ofChange fnExactDropBlobSpec)

/-- ITS FALSE NEIGHBOUR: 'it returns false'. Refute it at one input. -/
def fnExactDropBlobWrong : ChangeSpec := { name := "fnExactDropBlob", fn := fun _ => fun
  | [d1, d2] => { results := [.lit (.bool false)], args := [d1, d2] }
  | _ => none }
def FnExactDropBlobWrongFalsely : Prop := fnExactDropBlobRow.holds Try.pinned (OpenSpec.ofChange fnExactDropBlobWrong)

/-- 'laws.FnExactJoinStores': WHATEVER THE INPUT: true; the input reads as it did. -/
def fnExactJoinStoresSpec : ChangeSpec := { name := "fnExactJoinStores", fn := fun _ => fun
  | [d1, d2] => { results := [.lit (.bool true)], args := [d1, d2] }
  | _ => none }
def fnExactJoinStoresRow : OpenClaim := { program := "ytdoelmjaongjfaa", sum := "60bc52232ecd02684e4d85fb8036cd71ffa8ad5a7a3ca87ffe995d1d98af9194", func := "loop.example/g01174/laws.FnExactJoinStores", spec := "fnExactJoinStores", inPlace := ["internal/bytealg.Compare"], unfollowed := true, recurses := true, plainKeys := false, apart := false }
def FnExactJoinStoresSaid : Prop := fnExactJoinStoresRow.holds Try.pinned (OpenSpec.ofChange fnExactJoinStoresSpec)

/-- ITS FALSE NEIGHBOUR: 'it returns false'. Refute it at one input. -/
def fnExactJoinStoresWrong : ChangeSpec := { name := "fnExactJoinStores", fn := fun _ => fun
  | [d1, d2] => { results := [.lit (.bool false)], args := [d1, d2] }
  | _ => none }
def FnExactJoinStoresWrongFalsely : Prop := fnExactJoinStoresRow.holds Try.pinned (OpenSpec.ofChange fnExactJoinStoresWrong)

/-- 'laws.FnExactMinusStores': WHATEVER THE INPUT: true; the input reads as it did. -/
def fnExactMinusStoresSpec : ChangeSpec := { name := "fnExactMinusStores", fn := fun _ => fun
  | [d1, d2] => { results := [.lit (.bool true)], args := [d1, d2] }
  | _ => none }
def fnExactMinusStoresRow : OpenClaim := { program := "ytdoelmjaongjfaa", sum := "60bc52232ecd02684e4d85fb8036cd71ffa8ad5a7a3ca87ffe995d1d98af9194", func := "loop.example/g01174/laws.FnExactMinusStores", spec := "fnExactMinusStores", inPlace := ["internal/bytealg.Compare"], unfollowed := true, recurses := true, plainKeys := false, apart := false }
def FnExactMinusStoresSaid : Prop := fnExactMinusStoresRow.holds Try.pinned (OpenSpec.ofChange fnExactMinusStoresSpec)

/-- ITS FALSE NEIGHBOUR: 'it returns false'. Refute it at one input. -/
def fnExactMinusStoresWrong : ChangeSpec := { name := "fnExactMinusStores", fn := fun _ => fun
  | [d1, d2] => { results := [.lit (.bool false)], args := [d1, d2] }
  | _ => none }
def FnExactMinusStoresWrongFalsely : Prop := fnExactMinusStoresRow.holds Try.pinned (OpenSpec.ofChange fnExactMinusStoresWrong)

/-- 'laws.FnExactStoreBytes': WHATEVER THE INPUT: true; the input reads as it did. -/
def fnExactStoreBytesSpec : ChangeSpec := { name := "fnExactStoreBytes", fn := fun _ => fun
  | [d] => { results := [.lit (.bool true)], args := [d] }
  | _ => none }
def fnExactStoreBytesRow : OpenClaim := { program := "ytdoelmjaongjfaa", sum := "60bc52232ecd02684e4d85fb8036cd71ffa8ad5a7a3ca87ffe995d1d98af9194", func := "loop.example/g01174/laws.FnExactStoreBytes", spec := "fnExactStoreBytes", inPlace := ["internal/bytealg.Compare"], unfollowed := true, recurses := true, plainKeys := false, apart := false }
def FnExactStoreBytesSaid : Prop := fnExactStoreBytesRow.holds Try.pinned (OpenSpec.ofChange fnExactStoreBytesSpec)

/-- ITS FALSE NEIGHBOUR: 'it returns false'. Refute it at one input. -/
def fnExactStoreBytesWrong : ChangeSpec := { name := "fnExactStoreBytes", fn := fun _ => fun
  | [d] => { results := [.lit (.bool false)], args := [d] }
  | _ => none }
def FnExactStoreBytesWrongFalsely : Prop := fnExactStoreBytesRow.holds Try.pinned (OpenSpec.ofChange fnExactStoreBytesWrong)

/-- 'laws.FnExactIsPartOf': WHATEVER THE INPUT: true; the input reads as it did. -/
def fnExactIsPartOfSpec : ChangeSpec := { name := "fnExactIsPartOf", fn := fun _ => fun
  | [d1, d2] => { results := [.lit (.bool true)], args := [d1, d2] }
  | _ => none }
def fnExactIsPartOfRow : OpenClaim := { program := "ytdoelmjaongjfaa", sum := "60bc52232ecd02684e4d85fb8036cd71ffa8ad5a7a3ca87ffe995d1d98af9194", func := "loop.example/g01174/laws.FnExactIsPartOf", spec := "fnExactIsPartOf", inPlace := ["internal/bytealg.Compare"], unfollowed := true, recurses := true, plainKeys := false, apart := false }
def FnExactIsPartOfSaid : Prop := fnExactIsPartOfRow.holds Try.pinned (OpenSpec.ofChange fnExactIsPartOfSpec)

/-- ITS FALSE NEIGHBOUR: 'it returns false'. Refute it at one input. -/
def fnExactIsPartOfWrong : ChangeSpec := { name := "fnExactIsPartOf", fn := fun _ => fun
  | [d1, d2] => { results := [.lit (.bool false)], args := [d1, d2] }
  | _ => none }
def FnExactIsPartOfWrongFalsely : Prop := fnExactIsPartOfRow.holds Try.pinned (OpenSpec.ofChange fnExactIsPartOfWrong)

/-- 'laws.FnExactAnswerWants': WHATEVER THE INPUT: true; the input reads as it did. -/
def fnExactAnswerWantsSpec : ChangeSpec := { name := "fnExactAnswerWants", fn := fun _ => fun
  | [d1, d2, d3] => { results := [.lit (.bool true)], args := [d1, d2, d3] }
  | _ => none }
def fnExactAnswerWantsRow : OpenClaim := { program := "ytdoelmjaongjfaa", sum := "60bc52232ecd02684e4d85fb8036cd71ffa8ad5a7a3ca87ffe995d1d98af9194", func := "loop.example/g01174/laws.FnExactAnswerWants", spec := "fnExactAnswerWants", inPlace := ["internal/bytealg.Compare"], unfollowed := true, recurses := true, plainKeys := false, apart := false }
def FnExactAnswerWantsSaid : Prop := fnExactAnswerWantsRow.holds Try.pinned (OpenSpec.ofChange fnExactAnswerWantsSpec)

/-- ITS FALSE NEIGHBOUR: 'it returns false'. Refute it at one input. -/
def fnExactAnswerWantsWrong : ChangeSpec := { name := "fnExactAnswerWants", fn := fun _ => fun
  | [d1, d2, d3] => { results := [.lit (.bool false)], args := [d1, d2, d3] }
  | _ => none }
def FnExactAnswerWantsWrongFalsely : Prop := fnExactAnswerWantsRow.holds Try.pinned (OpenSpec.ofChange fnExactAnswerWantsWrong)

/- THE SECOND FORM. 'bulk': how many values and letters a reading holds, each counted each time it is reached (what is shared counts as often as it is met; a slice's spare places count too). A statement '..UptoSaid' is the law's where the arguments, and the package variables that the reading takes, are together of bulk at most 1048576: NARROWER than '..Said'. Prove '..Said' where nothing that the law and all that it calls make is longer than what came in: it says more and counts as full. Else prove '..UptoSaid'. A law counts once. -/
mutual
def uptoBulk {H : Type} : DataW H → Nat
  | .lit (.string bytes) => bytes.length + 1
  | .lit _ => 1
  | .nil => 1
  | .ptr d => uptoBulk d + 1
  | .slice elems spare => uptoBulkAll elems + uptoBulkAll spare + 1
  | .agg parts => uptoBulkAll parts + 1
  | .iface _ d => uptoBulk d + 1
  | .map entries => uptoBulkEntries entries + 1
  | .held _ => 1
def uptoBulkAll {H : Type} : List (DataW H) → Nat
  | [] => 0
  | d :: r => uptoBulk d + uptoBulkAll r
def uptoBulkEntries {H : Type} : List (Lit × DataW H) → Nat
  | [] => 0
  | x :: r => uptoBulkEntry x + uptoBulkEntries r
def uptoBulkEntry {H : Type} : Lit × DataW H → Nat
  | (.string bytes, d) => bytes.length + uptoBulk d + 1
  | (_, d) => uptoBulk d + 1
 end
def uptoSmall : (H : Type) → List (DataW H) → Bool := fun _ ds => decide (uptoBulkAll ds ≤ 1048576)
def OpenSpec.upto (s : _root_.Go.ChangeSpec) : _root_.Go.OpenSpec := { _root_.Go.OpenSpec.ofChange s with cond := some uptoSmall }

/-- 'laws.FnExactValidStore', WHERE WHAT IT READS IS OF BULK AT MOST 1048576: true; the input reads as it did. -/
def fnExactValidStoreUptoRow : OpenClaim := { program := "ytdoelmjaongjfaa", sum := "60bc52232ecd02684e4d85fb8036cd71ffa8ad5a7a3ca87ffe995d1d98af9194", func := "loop.example/g01174/laws.FnExactValidStore", spec := "fnExactValidStore", inPlace := ["internal/bytealg.Compare"], unfollowed := true, recurses := true, plainKeys := false, apart := false, narrowed := true }
def FnExactValidStoreUptoSaid : Prop := fnExactValidStoreUptoRow.holds Try.pinned (OpenSpec.upto fnExactValidStoreSpec)

/-- 'laws.FnExactSameStore', WHERE WHAT IT READS IS OF BULK AT MOST 1048576: true; the input reads as it did. -/
def fnExactSameStoreUptoRow : OpenClaim := { program := "ytdoelmjaongjfaa", sum := "60bc52232ecd02684e4d85fb8036cd71ffa8ad5a7a3ca87ffe995d1d98af9194", func := "loop.example/g01174/laws.FnExactSameStore", spec := "fnExactSameStore", unfollowed := true, recurses := true, plainKeys := false, apart := false, narrowed := true }
def FnExactSameStoreUptoSaid : Prop := fnExactSameStoreUptoRow.holds Try.pinned (OpenSpec.upto fnExactSameStoreSpec)

/-- 'laws.FnExactKeysOfStore', WHERE WHAT IT READS IS OF BULK AT MOST 1048576: true; the input reads as it did. -/
def fnExactKeysOfStoreUptoRow : OpenClaim := { program := "ytdoelmjaongjfaa", sum := "60bc52232ecd02684e4d85fb8036cd71ffa8ad5a7a3ca87ffe995d1d98af9194", func := "loop.example/g01174/laws.FnExactKeysOfStore", spec := "fnExactKeysOfStore", inPlace := ["internal/bytealg.Compare"], unfollowed := true, recurses := true, plainKeys := false, apart := false, narrowed := true }
def FnExactKeysOfStoreUptoSaid : Prop := fnExactKeysOfStoreUptoRow.holds Try.pinned (OpenSpec.upto fnExactKeysOfStoreSpec)

/-- 'laws.FnExactGetBlob', WHERE WHAT IT READS IS OF BULK AT MOST 1048576: true; the input reads as it did. -/
def fnExactGetBlobUptoRow : OpenClaim := { program := "ytdoelmjaongjfaa", sum := "60bc52232ecd02684e4d85fb8036cd71ffa8ad5a7a3ca87ffe995d1d98af9194", func := "loop.example/g01174/laws.FnExactGetBlob", spec := "fnExactGetBlob", inPlace := ["internal/bytealg.Compare"], unfollowed := true, recurses := true, plainKeys := false, apart := false, narrowed := true }
def FnExactGetBlobUptoSaid : Prop := fnExactGetBlobUptoRow.holds Try.pinned (OpenSpec.upto fnExactGetBlobSpec)

/-- 'laws.FnExactPutBlob', WHERE WHAT IT READS IS OF BULK AT MOST 1048576: true; the input reads as it did. -/
def fnExactPutBlobUptoRow : OpenClaim := { program := "ytdoelmjaongjfaa", sum := "60bc52232ecd02684e4d85fb8036cd71ffa8ad5a7a3ca87ffe995d1d98af9194", func := "loop.example/g01174/laws.FnExactPutBlob", spec := "fnExactPutBlob", inPlace := ["internal/bytealg.Compare"], unfollowed := true, recurses := true, plainKeys := false, apart := false, narrowed := true }
def FnExactPutBlobUptoSaid : Prop := fnExactPutBlobUptoRow.holds Try.pinned (OpenSpec.upto fnExactPutBlobSpec)

/-- 'laws.FnExactDropBlob', WHERE WHAT IT READS IS OF BULK AT MOST 1048576: true; the input reads as it did. -/
def fnExactDropBlobUptoRow : OpenClaim := { program := "ytdoelmjaongjfaa", sum := "60bc52232ecd02684e4d85fb8036cd71ffa8ad5a7a3ca87ffe995d1d98af9194", func := "loop.example/g01174/laws.FnExactDropBlob", spec := "fnExactDropBlob", inPlace := ["internal/bytealg.Compare"], unfollowed := true, recurses := true, plainKeys := false, apart := false, narrowed := true }
def FnExactDropBlobUptoSaid : Prop := fnExactDropBlobUptoRow.holds Try.pinned (OpenSpec.upto fnExactDropBlobSpec)

/-- 'laws.FnExactJoinStores', WHERE WHAT IT READS IS OF BULK AT MOST 1048576: true; the input reads as it did. -/
def fnExactJoinStoresUptoRow : OpenClaim := { program := "ytdoelmjaongjfaa", sum := "60bc52232ecd02684e4d85fb8036cd71ffa8ad5a7a3ca87ffe995d1d98af9194", func := "loop.example/g01174/laws.FnExactJoinStores", spec := "fnExactJoinStores", inPlace := ["internal/bytealg.Compare"], unfollowed := true, recurses := true, plainKeys := false, apart := false, narrowed := true }
def FnExactJoinStoresUptoSaid : Prop := fnExactJoinStoresUptoRow.holds Try.pinned (OpenSpec.upto fnExactJoinStoresSpec)

/-- 'laws.FnExactMinusStores', WHERE WHAT IT READS IS OF BULK AT MOST 1048576: true; the input reads as it did. -/
def fnExactMinusStoresUptoRow : OpenClaim := { program := "ytdoelmjaongjfaa", sum := "60bc52232ecd02684e4d85fb8036cd71ffa8ad5a7a3ca87ffe995d1d98af9194", func := "loop.example/g01174/laws.FnExactMinusStores", spec := "fnExactMinusStores", inPlace := ["internal/bytealg.Compare"], unfollowed := true, recurses := true, plainKeys := false, apart := false, narrowed := true }
def FnExactMinusStoresUptoSaid : Prop := fnExactMinusStoresUptoRow.holds Try.pinned (OpenSpec.upto fnExactMinusStoresSpec)

/-- 'laws.FnExactStoreBytes', WHERE WHAT IT READS IS OF BULK AT MOST 1048576: true; the input reads as it did. -/
def fnExactStoreBytesUptoRow : OpenClaim := { program := "ytdoelmjaongjfaa", sum := "60bc52232ecd02684e4d85fb8036cd71ffa8ad5a7a3ca87ffe995d1d98af9194", func := "loop.example/g01174/laws.FnExactStoreBytes", spec := "fnExactStoreBytes", inPlace := ["internal/bytealg.Compare"], unfollowed := true, recurses := true, plainKeys := false, apart := false, narrowed := true }
def FnExactStoreBytesUptoSaid : Prop := fnExactStoreBytesUptoRow.holds Try.pinned (OpenSpec.upto fnExactStoreBytesSpec)

/-- 'laws.FnExactIsPartOf', WHERE WHAT IT READS IS OF BULK AT MOST 1048576: true; the input reads as it did. -/
def fnExactIsPartOfUptoRow : OpenClaim := { program := "ytdoelmjaongjfaa", sum := "60bc52232ecd02684e4d85fb8036cd71ffa8ad5a7a3ca87ffe995d1d98af9194", func := "loop.example/g01174/laws.FnExactIsPartOf", spec := "fnExactIsPartOf", inPlace := ["internal/bytealg.Compare"], unfollowed := true, recurses := true, plainKeys := false, apart := false, narrowed := true }
def FnExactIsPartOfUptoSaid : Prop := fnExactIsPartOfUptoRow.holds Try.pinned (OpenSpec.upto fnExactIsPartOfSpec)

/-- 'laws.FnExactAnswerWants', WHERE WHAT IT READS IS OF BULK AT MOST 1048576: true; the input reads as it did. -/
def fnExactAnswerWantsUptoRow : OpenClaim := { program := "ytdoelmjaongjfaa", sum := "60bc52232ecd02684e4d85fb8036cd71ffa8ad5a7a3ca87ffe995d1d98af9194", func := "loop.example/g01174/laws.FnExactAnswerWants", spec := "fnExactAnswerWants", inPlace := ["internal/bytealg.Compare"], unfollowed := true, recurses := true, plainKeys := false, apart := false, narrowed := true }
def FnExactAnswerWantsUptoSaid : Prop := fnExactAnswerWantsUptoRow.holds Try.pinned (OpenSpec.upto fnExactAnswerWantsSpec)

end Rows
end Go.Proofs.Ytdoelmjaongjfaa
