package tests

import (
	"bytes"
	"testing"

	"loop.example/g01174/impl"
)

// noKey does not occur in the lists of these tests.
var noKey = impl.Key(bytes.Repeat([]byte{noByte}, 32))

func TestKeysOfTreesAreApart(t *testing.T) {
	for _, n := range []int{0, 1, 2, 3, 4, 5, 7, 8, 11, 64, impl.MaxLeaves, impl.MaxLeaves + 1} {
		list := leavesOf(351, n)
		for _, i := range []int64{0, 1, int64(n) / 2, int64(n) - 1, int64(n)} {
			for name, call := range map[string]func([]impl.Key) ([]impl.Key, int64){
				"ProofOf":     func(list []impl.Key) ([]impl.Key, int64) { return impl.ProofOf(list, i) },
				"RangeProof":  func(list []impl.Key) ([]impl.Key, int64) { return impl.RangeProof(list, i, i+2) },
				"all leaves":  func(list []impl.Key) ([]impl.Key, int64) { return impl.RangeProof(list, 0, i) },
				"PeaksOf":     impl.PeaksOf,
				"GrowthProof": func(list []impl.Key) ([]impl.Key, int64) { return impl.GrowthProof(list, i) },
			} {
				checkApart(t, numbered(name, n, int(i)), list, noKey, noKey, func(list []impl.Key) []impl.Key {
					keys, _ := call(list)
					return keys
				})
			}
		}
	}
}

func TestPeaksAreApart(t *testing.T) {
	list := leavesOf(352, impl.MaxLeaves)
	for n := range impl.MaxLeaves {
		checkApart(t, numbered("AddLeaf", n), plainPeaks(list[:n]), noKey, noKey, func(peaks []impl.Key) []impl.Key {
			grown, _ := impl.AddLeaf(peaks, int64(n), list[n])
			return grown
		})
	}
}

func TestPeaksThatGrowInTwoWaysAreApart(t *testing.T) {
	list := leavesOf(353, 7)
	peaks := peaksOf(t, list[:6])
	left, _ := impl.AddLeaf(peaks, 6, list[6])
	right, _ := impl.AddLeaf(peaks, 6, impl.Key{6})
	sameList(t, "before", peaks, plainPeaks(list[:6]))
	sameList(t, "the one way", left, plainPeaks(list))
	sameList(t, "the other way", right, append(plainPeaks(list[:6]), impl.Key{6}))
}

func TestListsOfTreesAreOnlyRead(t *testing.T) {
	for _, n := range []int{0, 1, 2, 5, 8, 21, impl.MaxLeaves, impl.MaxLeaves + 1} {
		list := leavesOf(354, n)
		checkApart(t, numbered("leaves", n), list, noKey, told{}, func(list []impl.Key) []told {
			key, one := impl.ListKey(list)
			yes, two := impl.CheckRange(key, int64(n), 0, list, nil)
			_, three := impl.ClashOf(list, leavesOf(354, n))
			_, four := impl.ClashOf(leavesOf(354, n), list)
			_, five := impl.ClashOfProof(list, 0, impl.Key{}, nil)
			return []told{{key: key, code: one}, {right: yes, code: two}, {code: three}, {code: four}, {code: five}}
		})
	}
}

func TestProofsAreOnlyRead(t *testing.T) {
	for _, n := range []int64{1, 2, 5, 8, 21, impl.MaxLeaves} {
		list := leavesOf(355, int(n))
		root := plainListKey(list)
		i := n / 3
		proof := proofOf(t, list, int(i))
		for _, keys := range [][]impl.Key{proof, proof[:len(proof)/2], leavesOf(356, 9)} {
			checkApart(t, numbered("proof", int(n)), keys, noKey, told{}, func(proof []impl.Key) []told {
				yes, one := impl.CheckProof(root, n, i, list[i], proof)
				_, two := impl.ClashOfProof(list, i, list[i], proof)
				return []told{{right: yes, code: one}, {code: two}}
			})
		}
		for _, keys := range [][]impl.Key{rangeProof(t, list, int(i), int(i+1)), nil, leavesOf(357, 20)} {
			checkApart(t, numbered("range proof", int(n)), keys, noKey, told{}, func(proof []impl.Key) []told {
				yes, one := impl.CheckRange(root, n, i, list[i:i+1], proof)
				return []told{{right: yes, code: one}}
			})
		}
		m := i + 1
		for _, keys := range [][]impl.Key{growthProof(t, list, int(m)), plainPeaks(list[:m]), nil, leavesOf(358, 20)} {
			checkApart(t, numbered("growth proof", int(n)), keys, noKey, told{}, func(proof []impl.Key) []told {
				yes, one := impl.CheckGrowth(plainListKey(list[:m]), m, root, n, proof)
				return []told{{right: yes, code: one}}
			})
		}
		checkApart(t, numbered("peaks", int(n)), plainPeaks(list), noKey, told{}, func(peaks []impl.Key) []told {
			key, one := impl.KeyOfPeaks(peaks, n)
			return []told{{key: key, code: one}}
		})
	}
}

func TestLargeArgumentsOfListsReturn(t *testing.T) {
	keys := make([]impl.Key, 1000000)
	_, code := impl.ListKey(keys)
	same(t, "ListKey", code, impl.ErrLimit)
	isError(t, "ProofOf", impl.ErrLimit)(impl.ProofOf(keys, 0))
	isRefused(t, "CheckProof", impl.ErrLimit)(impl.CheckProof(impl.Key{}, 5, 0, impl.Key{}, keys))
	isError(t, "RangeProof", impl.ErrLimit)(impl.RangeProof(keys, 0, 1000000))
	isRefused(t, "leaves of CheckRange", impl.ErrLimit)(impl.CheckRange(impl.Key{}, 1000000, 0, keys, nil))
	isRefused(t, "proof of CheckRange", impl.ErrLimit)(impl.CheckRange(impl.Key{}, 5, 0, keys[:1], keys))
	isError(t, "PeaksOf", impl.ErrLimit)(impl.PeaksOf(keys))
	isError(t, "AddLeaf", impl.ErrLimit)(impl.AddLeaf(keys, 1000000, impl.Key{}))
	_, code = impl.KeyOfPeaks(keys, 1000000)
	same(t, "KeyOfPeaks", code, impl.ErrLimit)
	isError(t, "GrowthProof", impl.ErrLimit)(impl.GrowthProof(keys, 1))
	isRefused(t, "CheckGrowth", impl.ErrLimit)(impl.CheckGrowth(impl.Key{}, 1, impl.Key{}, 5, keys))
	isNoClash(t, "ClashOf", impl.ErrLimit)(impl.ClashOf(keys, keys))
	isNoClash(t, "list of ClashOfProof", impl.ErrLimit)(impl.ClashOfProof(keys, 0, impl.Key{}, nil))
	isNoClash(t, "proof of ClashOfProof", impl.ErrLimit)(impl.ClashOfProof(keys[:5], 0, impl.Key{}, keys))
}
