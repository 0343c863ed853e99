/- The contract of sort.SearchStrings, laid off the shelf (numbers by name). -/
import Derived.Shelf.SlSorted.Search
import Derived.Test.YtmkddiconpacnaaProg
namespace Go.Proofs
open Go.Shelf
def Try.searchS_ren : Go.Shelf.Ren := ⟨fun | 15 => 128 | 16 => 156 | 23 => 157 | n => n, fun | 0 => 0 | 3 => 3 | 4 => 4 | 9 => 9 | 30 => 120 | 35 => 199 | 38 => 165 | n => n, fun | n => n⟩
theorem Try.searchS : Go.Proofs.SlLaysO.n15 Try.prog Try.searchS_ren := {
  mixed := by kernel_rfl
  f15 := Try.func128.trans (congrArg some (by kernel_rfl))
  f16 := Try.func156.trans (congrArg some (by kernel_rfl))
  f23 := Try.func157.trans (congrArg some (by kernel_rfl))
  t0 := Try.underlying0
  a0 := Try.isAgg0
  z0 := Try.sizeOf0
  v0 := Try.zeroValue0
  t3 := Try.underlying3
  a3 := Try.isAgg3
  z3 := Try.sizeOf3
  v3 := Try.zeroValue3
  t4 := Try.underlying4
  a4 := Try.isAgg4
  z4 := Try.sizeOf4
  v4 := Try.zeroValue4
  t9 := Try.underlying9
  a9 := Try.isAgg9
  z9 := Try.sizeOf9
  v9 := Try.zeroValue9
  t30 := Try.underlying120
  a30 := Try.isAgg120
  z30 := Try.sizeOf120
  v30 := Try.zeroValue120
  t35 := Try.underlying199
  a35 := Try.isAgg199
  z35 := Try.sizeOf199
  v35 := Try.zeroValue199
  t38 := Try.underlying165
  a38 := Try.isAgg165
  z38 := Try.sizeOf165
  v38 := Try.zeroValue165 }
theorem Try.search_strings (blk off cap : Nat) (d : Array ByteArray) (x : ByteArray) (w : World) (hc : ∀ i, i < d.size → w.cell? ⟨blk, off + i, none⟩ = some (Value.string d[i]!)) (hblk : blk < w.heap.size) (hsz : d.size < 4611686018427387904)
    (hs : ∀ a b, a ≤ b → b < d.size → (!decide (d[a]!.data.toList < x.data.toList)) = true → (!decide (d[b]!.data.toList < x.data.toList)) = true) :
    Calls Try.prog 128 #[.slice (some ⟨blk, off, none⟩) d.size cap, .string x] w fun e w' => e = .returned (.int .i64 (d.toList.countP (fun y => !!decide (y.data.toList < x.data.toList)) : Nat)) ∧ Go.RowKit.Below w.heap.size w w' :=
  Any.sort_SearchStrings Try.searchS blk off cap d x w hc hblk hsz hs
theorem Try.search_none (p : Option Addr) (cap : Nat) (x : ByteArray) (w : World) :
    Calls Try.prog 128 #[.slice p 0 cap, .string x] w fun e w' => e = .returned (.int .i64 0) ∧ Go.RowKit.Below w.heap.size w w' := Any.sort_SearchStrings_none Try.searchS p cap x w
end Go.Proofs
