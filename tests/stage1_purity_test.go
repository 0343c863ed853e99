package tests

import (
	"bytes"
	"slices"
	"testing"

	"loop.example/g01174/impl"
)

// noByte does not occur in the data of these tests.
const noByte = 0xEE

// plainBytes returns n bytes, none of which is noByte.
func plainBytes(n int) []byte {
	data := make([]byte, n)
	for i := range data {
		data[i] = byte(i % 200)
	}
	return data
}

func TestBlocksAreApart(t *testing.T) {
	for _, n := range []int{0, 1, 23, 24, 32, 64, 100, impl.MaxData} {
		spoiled := [32]byte(bytes.Repeat([]byte{noByte}, 32))
		checkApart(t, "PadBlocks", plainBytes(n), noByte, spoiled, func(data []byte) [][32]byte {
			blocks, _ := impl.PadBlocks(data)
			return blocks
		})
	}
}

func TestFedHashersAreApart(t *testing.T) {
	for held := range 32 {
		for _, n := range []int{0, 1, 5, 31, 32, 33, 70} {
			start := impl.Hasher{State: impl.StartState(1), Count: int64(64 + held)}
			checkApart(t, "data of FeedHasher", plainBytes(n), noByte, noByte, func(data []byte) []byte {
				h := start
				h.Held = plainBytes(held)
				return feed(t, h, data).Held
			})
			checkApart(t, "hasher of FeedHasher", plainBytes(held), noByte, noByte, func(heldBytes []byte) []byte {
				h := start
				h.Held = heldBytes
				return feed(t, h, plainBytes(n)).Held
			})
		}
	}
}

func TestHashersFedInTwoWaysAreApart(t *testing.T) {
	h := feed(t, impl.StartHasher(1), []byte("abc"))
	left := feed(t, h, []byte("left"))
	right := feed(t, h, []byte("other"))
	checkFed(t, h, 1, []byte("abc"))
	checkFed(t, left, 1, []byte("abcleft"))
	checkFed(t, right, 1, []byte("abcother"))
}

func TestListsOfKeysAreApart(t *testing.T) {
	other := impl.Key(bytes.Repeat([]byte{noByte}, 32))
	for _, list := range keyLists(30) {
		checkApart(t, "SortKeys", list, other, other, func(list []impl.Key) []impl.Key {
			sorted, _ := impl.SortKeys(list)
			return sorted
		})
		for _, count := range []int64{0, 1, impl.MaxKeys} {
			checkApart(t, "NearestKeys", list, other, other, func(list []impl.Key) []impl.Key {
				near, _ := impl.NearestKeys(list, impl.Key{1}, count)
				return near
			})
		}
		sorted, _ := impl.SortKeys(list)
		checkApart(t, "SortKeys of sorted ones", sorted, other, other, func(list []impl.Key) []impl.Key {
			sorted, _ := impl.SortKeys(list)
			return sorted
		})
	}
}

// told is what functions tell that return no slices.
type told struct {
	key    impl.Key
	code   int64
	number int64
	right  bool
}

func TestDataAreOnlyRead(t *testing.T) {
	for _, n := range []int{0, 1, 24, 31, 32, 100, impl.MaxData, impl.MaxData + 1} {
		checkApart(t, "HashOf", plainBytes(n), noByte, told{}, func(data []byte) []told {
			key, code := impl.HashOf(3, data)
			return []told{{key: key, code: code}}
		})
		h := impl.Hasher{State: impl.StartState(3), Count: int64(n)}
		checkApart(t, "hasher", plainBytes(n), noByte, told{}, func(data []byte) []told {
			h := h
			h.Held = data
			key, code := impl.KeyOf(h)
			g := h
			g.Held = slices.Clone(data)
			return []told{{key: key, code: code, right: impl.ValidHasher(h)}, {right: impl.SameHasher(h, g)}}
		})
	}
}

func TestListsAreOnlyRead(t *testing.T) {
	other := impl.Key(bytes.Repeat([]byte{noByte}, 32))
	for _, list := range append(keyLists(31), tooMany()...) {
		checkApart(t, "FindKey", list, other, told{}, func(list []impl.Key) []told {
			key, code := impl.FindKey(list, "0")
			return []told{{key: key, code: code}}
		})
		checkApart(t, "ShortestPrefix", list, other, told{}, func(list []impl.Key) []told {
			n, code := impl.ShortestPrefix(list, impl.Key{})
			return []told{{number: n, code: code}}
		})
	}
}

func TestArraysAreValues(t *testing.T) {
	state, block := impl.StartState(4), [32]byte{1, 2, 3}
	mixed := impl.MixBlock(state, block)
	same(t, "state", state, impl.StartState(4))
	same(t, "block", block, [32]byte{1, 2, 3})
	same(t, "again", impl.MixBlock(state, block), mixed)

	a, b := impl.Key{1, 2}, impl.Key{3, 4}
	impl.XorKeys(a, b)
	impl.PairKey(1, a, b)
	impl.CommonBits(a, b)
	same(t, "first key", a, impl.Key{1, 2})
	same(t, "second key", b, impl.Key{3, 4})

	h := feed(t, impl.StartHasher(2), plainBytes(40))
	kept := impl.Hasher{State: h.State, Held: slices.Clone(h.Held), Count: h.Count}
	feed(t, h, plainBytes(100))
	same(t, "hasher", impl.SameHasher(h, kept), true)
}

func TestLargeArgumentsReturn(t *testing.T) {
	data, keys := make([]byte, 1000000), make([]impl.Key, 1000000)
	_, code := impl.PadBlocks(data)
	same(t, "PadBlocks", code, impl.ErrLimit)
	_, code = impl.HashOf(0, data)
	same(t, "HashOf", code, impl.ErrLimit)
	_, code = impl.FeedHasher(impl.StartHasher(0), data)
	same(t, "FeedHasher", code, impl.ErrLimit)
	_, code = impl.KeyOf(impl.Hasher{Held: data, Count: 1000000})
	same(t, "KeyOf", code, impl.ErrInvalid)
	_, code = impl.ReadKey(string(data))
	same(t, "ReadKey", code, impl.ErrSyntax)
	_, code = impl.FindKey(nil, string(data))
	same(t, "FindKey", code, impl.ErrSyntax)
	_, code = impl.SortKeys(keys)
	same(t, "SortKeys", code, impl.ErrLimit)
	_, code = impl.ShortestPrefix(keys, impl.Key{})
	same(t, "ShortestPrefix", code, impl.ErrLimit)
	_, code = impl.NearestKeys(keys, impl.Key{}, 1)
	same(t, "NearestKeys", code, impl.ErrLimit)
}
