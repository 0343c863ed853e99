package tests

import (
	"slices"
	"testing"

	"loop.example/g01174/impl"
)

func TestProgramsAreApart(t *testing.T) {
	base := []byte("0123456789abcdefghij")
	data := []byte("0123456789, and then abcdefghij, and 0123456789")
	most := make([]byte, impl.MaxBlobData)
	more := make([]byte, impl.MaxBlobData+1)
	all := [][]byte{nil, base, data, plainDelta(base, data), most, more, {0}, copyOp(0, 20), addOp("abc")}
	for i, one := range all {
		for k, other := range all {
			checkPure(t, numbered("DeltaOf", i, k), impl.DeltaOf, one, other)
			checkPure(t, numbered("ApplyDelta", i, k), impl.ApplyDelta, one, other)
		}
	}
	checkPure(t, "ApplyDelta of too much", impl.ApplyDelta, most, slices.Repeat(copyOp(0, 255), 5))
	checkPure(t, "ApplyDelta of all that there may be", impl.ApplyDelta, most, slices.Concat(slices.Repeat(copyOp(0, 255), 4), copyOp(0, 4)))
}

// purePacks returns data that are packs, or that are torn or changed.
func purePacks() [][]byte {
	r := chance(631)
	pack := plainPack(alikeBlobs(r, 12, 2).store())
	_, records := smallLine(4, 9)
	return [][]byte{
		nil,
		[]byte("HTP1"),
		packOf(),
		pack,
		pack[:len(pack)-1],
		pack[:len(pack)/2],
		changedAt(pack, len(pack)-1),
		changedAt(pack, len(pack)/2),
		append(slices.Clone(pack), 0),
		packOf(records...),
		packOf(records[1], records[0]),
		make([]byte, impl.MaxPack+1),
	}
}

func TestPacksAreApart(t *testing.T) {
	packs := purePacks()
	for i, data := range packs {
		name := numbered(" of the data", i)
		for title, function := range map[string]any{
			"ReadPack": impl.ReadPack, "IsPack": impl.IsPack, "ScanPack": impl.ScanPack, "MendPack": impl.MendPack,
			"IndexOfPack": impl.IndexOfPack, "CountDeltas": impl.CountDeltas, "KeyOfPack": impl.KeyOfPack,
		} {
			checkPure(t, title+name, function, data)
		}
		checkPure(t, "SeekPack of no key"+name, impl.SeekPack, data, impl.Key{})
		for k := range plainRead(data).blobs {
			checkPure(t, "SeekPack"+name, impl.SeekPack, data, k)
		}
		for _, at := range []int64{-1, 0, 3, 40, impl.MaxPack} {
			checkPure(t, "SpoilPack"+name, impl.SpoilPack, data, at, int64(3))
			checkPure(t, "SpoilPack of no bit"+name, impl.SpoilPack, data, at, int64(8))
		}
		for _, other := range packs {
			checkPure(t, "JoinPacks"+name, impl.JoinPacks, data, other)
		}
	}
}

func TestPacksOfStoresAreApart(t *testing.T) {
	stores, keys := pureStores()
	stores = append(stores, alikeBlobs(chance(632), 12, 2).store(), wrongStores()[13])
	for i, s := range stores {
		name := numbered(" of the store", i)
		checkPure(t, "PackStore"+name, impl.PackStore, s)
		for n := range keys {
			checkPure(t, "PackReachable"+name, impl.PackReachable, s, keys[:n+1])
		}
		checkPure(t, "PackReachable without roots"+name, impl.PackReachable, s, nil)
		checkPure(t, "PackReachable with many roots"+name, impl.PackReachable, s, make([]impl.Key, impl.MaxKeys+1))
	}
}

func TestLargeArgumentsOfPacksReturn(t *testing.T) {
	long := make([]byte, 500000)
	many := impl.Store{Blobs: make([]impl.Blob, 400000)}
	isNone[byte](t, "DeltaOf", impl.ErrLimit)(impl.DeltaOf(long, long))
	isNone[byte](t, "ApplyDelta", impl.ErrLimit)(impl.ApplyDelta(long, long))
	isNone[byte](t, "PackStore", impl.ErrInvalid)(impl.PackStore(many))
	isNone[byte](t, "JoinPacks", impl.ErrLimit)(impl.JoinPacks(long, long))
	isNone[byte](t, "PackReachable", impl.ErrInvalid)(impl.PackReachable(many, make([]impl.Key, 10000)))
	isNone[byte](t, "PackReachable of no blobs", impl.ErrLimit)(impl.PackReachable(impl.Store{}, make([]impl.Key, 30000)))
	isWrongPack(t, "long data", long, impl.ErrLimit)
}
