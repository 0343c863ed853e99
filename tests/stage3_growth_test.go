package tests

import (
	"math/bits"
	"slices"
	"testing"

	"loop.example/g01174/impl"
)

// peaksOf returns the peaks of a list that has no error.
func peaksOf(t *testing.T, list []impl.Key) []impl.Key {
	t.Helper()
	peaks, code := impl.PeaksOf(list)
	same(t, numbered("code of the peaks", len(list)), code, impl.OK)
	return peaks
}

// keyOfPeaks returns the key of peaks that have no error.
func keyOfPeaks(t *testing.T, peaks []impl.Key, n int) impl.Key {
	t.Helper()
	key, code := impl.KeyOfPeaks(peaks, int64(n))
	same(t, numbered("code of KeyOfPeaks", n), code, impl.OK)
	return key
}

func TestListsGrowLeafByLeaf(t *testing.T) {
	list := leavesOf(331, impl.MaxLeaves)
	var peaks []impl.Key
	for n, leaf := range list {
		sameList(t, numbered("peaks as they grow", n), peaks, plainPeaks(list[:n]))
		sameList(t, numbered("peaks of the whole", n), peaksOf(t, list[:n]), peaks)
		same(t, numbered("key of the peaks", n), keyOfPeaks(t, peaks, n), plainListKey(list[:n]))
		same(t, numbered("as many as bits", n), len(peaks), bits.OnesCount(uint(n)))
		grown, code := impl.AddLeaf(peaks, int64(n), leaf)
		same(t, numbered("code of AddLeaf", n), code, impl.OK)
		peaks = grown
	}
	sameList(t, "the peak of MaxLeaves leaves", peaks, []impl.Key{plainListKey(list)})
	same(t, "the key of MaxLeaves leaves", keyOfPeaks(t, peaks, impl.MaxLeaves), listKey(t, list))
}

func TestKnownPeaks(t *testing.T) {
	node := impl.NodeKey
	l := leavesOf(332, 7)
	same(t, "peaks of no leaves", len(peaksOf(t, nil)), 0)
	sameList(t, "1 leaf", peaksOf(t, l[:1]), l[:1])
	sameList(t, "2 leaves", peaksOf(t, l[:2]), []impl.Key{node(l[0], l[1])})
	four := node(node(l[0], l[1]), node(l[2], l[3]))
	sameList(t, "4 leaves", peaksOf(t, l[:4]), []impl.Key{four})
	sameList(t, "5 leaves", peaksOf(t, l[:5]), []impl.Key{four, l[4]})
	sameList(t, "6 leaves", peaksOf(t, l[:6]), []impl.Key{four, node(l[4], l[5])})
	sameList(t, "7 leaves", peaksOf(t, l), []impl.Key{four, node(l[4], l[5]), l[6]})
	same(t, "key of 7 leaves", keyOfPeaks(t, peaksOf(t, l), 7), node(four, node(node(l[4], l[5]), l[6])))
	same(t, "key of no peaks", keyOfPeaks(t, nil, 0), listKey(t, nil))
	same(t, "key of no peaks, not nil", keyOfPeaks(t, []impl.Key{}, 0), listKey(t, nil))
	same(t, "key of one peak", keyOfPeaks(t, l[:1], 128), l[0])
	same(t, "key of peaks by chance", keyOfPeaks(t, l[:3], 7), node(l[0], node(l[1], l[2])))
	grown, code := impl.AddLeaf(nil, 0, l[0])
	same(t, "code of the first leaf", code, impl.OK)
	sameList(t, "the first leaf", grown, l[:1])
	grown, code = impl.AddLeaf(l[:3], 11, l[3])
	same(t, "code of peaks by chance", code, impl.OK)
	sameList(t, "peaks by chance", grown, []impl.Key{l[0], node(l[1], node(l[2], l[3]))})
}

func TestPeaksAreRefused(t *testing.T) {
	long := leavesOf(333, impl.MaxLeaves+1)
	isError(t, "too many leaves", impl.ErrLimit)(impl.PeaksOf(long))
	check := func(name string, peaks []impl.Key, n, wantKey, wantGrown int64) {
		t.Helper()
		key, code := impl.KeyOfPeaks(peaks, n)
		same(t, numbered(name+": code of the key", int(n)), code, wantKey)
		if wantKey != impl.OK {
			same(t, name+": key", key, impl.Key{})
		}
		grown, code := impl.AddLeaf(peaks, n, impl.Key{1})
		same(t, numbered(name+": code of AddLeaf", int(n)), code, wantGrown)
		if wantGrown != impl.OK {
			same(t, name+": peaks", len(grown), 0)
		}
	}
	for _, n := range append(farNumbers(), impl.MaxLeaves+1, impl.MaxLeaves+2, 2*impl.MaxLeaves) {
		for count := range 4 {
			check("n that is not there", long[:count], n, impl.ErrRange, impl.ErrRange)
		}
		check("n that is not there, as many peaks as its bits", long[:bits.OnesCount64(uint64(n))], n, impl.ErrRange, impl.ErrRange)
		check("too many peaks for n that is not there", long, n, impl.ErrLimit, impl.ErrLimit)
	}
	for n := range int64(impl.MaxLeaves) {
		has := bits.OnesCount64(uint64(n))
		for count := range 11 {
			if count != has {
				check("other peaks than bits", long[:count], n, impl.ErrState, impl.ErrState)
			}
		}
		check("as many peaks as bits", long[:has], n, impl.OK, impl.OK)
		check("MaxLeaves peaks", long[:impl.MaxLeaves], n, impl.ErrState, impl.ErrState)
		check("too many peaks", long, n, impl.ErrLimit, impl.ErrLimit)
	}
	check("MaxLeaves leaves", long[:1], impl.MaxLeaves, impl.OK, impl.ErrRange)
	check("MaxLeaves leaves, two peaks", long[:2], impl.MaxLeaves, impl.ErrState, impl.ErrRange)
	check("MaxLeaves leaves, no peaks", nil, impl.MaxLeaves, impl.ErrState, impl.ErrRange)
	check("MaxLeaves leaves, too many peaks", long, impl.MaxLeaves, impl.ErrLimit, impl.ErrLimit)
}

// growthProof returns the proof of the first m leaves of a list that has them.
func growthProof(t *testing.T, list []impl.Key, m int) []impl.Key {
	t.Helper()
	proof, code := impl.GrowthProof(list, int64(m))
	same(t, numbered("code of the growth proof", len(list), m), code, impl.OK)
	return proof
}

func TestGrowthIsAccepted(t *testing.T) {
	for _, n := range lengths() {
		list := leavesOf(334, n)
		tree := growTree(list, 0)
		for m := 1; m <= n; m += 1 + n/40 {
			proof := growthProof(t, list, m)
			want := slices.Concat(plainPeaks(list[:m]), keysOf(tree.outside(0, m)))
			sameList(t, numbered("growth proof", n, m), proof, want)
			isTold(t, numbered("accepted", n, m), true)(impl.CheckGrowth(plainListKey(list[:m]), int64(m), tree.key, int64(n), proof))
		}
		sameList(t, numbered("the proof of all leaves", n), growthProof(t, list, n), plainPeaks(list))
		isTold(t, numbered("all leaves", n), true)(impl.CheckGrowth(tree.key, int64(n), tree.key, int64(n), plainPeaks(list)))
		isTold(t, numbered("all leaves, another key", n), false)(impl.CheckGrowth(tree.key, int64(n), flipped(tree.key, n%256), int64(n), plainPeaks(list)))
	}
}

func TestKnownGrowth(t *testing.T) {
	node := impl.NodeKey
	l := leavesOf(335, 7)
	four := node(node(l[0], l[1]), node(l[2], l[3]))
	sameList(t, "1 of 3", growthProof(t, l[:3], 1), []impl.Key{l[0], l[1], l[2]})
	sameList(t, "2 of 3", growthProof(t, l[:3], 2), []impl.Key{node(l[0], l[1]), l[2]})
	sameList(t, "3 of 3", growthProof(t, l[:3], 3), []impl.Key{node(l[0], l[1]), l[2]})
	sameList(t, "3 of 7", growthProof(t, l, 3), []impl.Key{node(l[0], l[1]), l[2], l[3], node(node(l[4], l[5]), l[6])})
	sameList(t, "4 of 7", growthProof(t, l, 4), []impl.Key{four, node(node(l[4], l[5]), l[6])})
	sameList(t, "6 of 7", growthProof(t, l, 6), []impl.Key{four, node(l[4], l[5]), l[6]})
	sameList(t, "1 of 1", growthProof(t, l[:1], 1), l[:1])
}

func TestOtherGrowthIsNotAccepted(t *testing.T) {
	for _, n := range []int{1, 2, 3, 4, 5, 6, 7, 8, 9, 13, 16, 23, 63, 64, 65} {
		list := leavesOf(336, n)
		now := plainListKey(list)
		for m := 1; m <= n; m += 1 + n/20 {
			old, proof := plainListKey(list[:m]), growthProof(t, list, m)
			check := func(name string, old impl.Key, m int, now impl.Key, proof []impl.Key) {
				t.Helper()
				isTold(t, numbered(name, n, m), false)(impl.CheckGrowth(old, int64(m), now, int64(n), proof))
			}
			for b := 0; b < 256; b += 15 {
				check("another key of the beginning", flipped(old, b), m, now, proof)
				check("another key of the whole", old, m, flipped(now, b), proof)
			}
			for _, wrong := range wrongLists(proof) {
				check("another proof", old, m, now, wrong)
			}
			check("no keys", old, m, now, nil)
			for other := 1; other <= n; other++ {
				if other != m {
					check("another beginning", old, other, now, proof)
					if another := growthProof(t, list, other); !slices.Equal(another, proof) { // 2 and 3 of 3 leaves have one proof
						check("the proof of another beginning", old, m, now, another)
					}
					check("the key of another beginning", plainListKey(list[:other]), m, now, proof)
				}
			}
		}
	}
}

func TestListsThatBeginOtherwiseHaveNoProof(t *testing.T) {
	list := leavesOf(337, 11)
	now := plainListKey(list)
	for m := 1; m < 11; m++ {
		old := plainListKey(changed(list[:m], m-1, 9))
		honest := growthProof(t, list, m)
		forged := slices.Concat(plainPeaks(changed(list[:m], m-1, 9)), honest[bits.OnesCount(uint(m)):])
		isTold(t, numbered("the peaks of the list", m), false)(impl.CheckGrowth(old, int64(m), now, 11, honest))
		isTold(t, numbered("the peaks of the other beginning", m), false)(impl.CheckGrowth(old, int64(m), now, 11, forged))
	}
}

// plainCheckGrowth is CheckGrowth as the document tells it, for a proof without errors.
func plainCheckGrowth(old impl.Key, m int, now impl.Key, n int, proof []impl.Key) bool {
	tree := growTree(make([]impl.Key, n), 0) // its shape alone matters
	ends, others := peakEnds(m), tree.outside(0, m)
	if len(proof) != len(ends)+len(others) {
		return false
	}
	told := map[[2]int]impl.Key{}
	begin := 0
	for k, end := range ends {
		told[[2]int{begin, end}] = proof[k]
		begin = end
	}
	for k, part := range others {
		told[[2]int{part.begin, part.end}] = proof[len(ends)+k]
	}
	key := proof[len(ends)-1]
	for _, peak := range slices.Backward(proof[:len(ends)-1]) {
		key = plainNode(peak, key)
	}
	return key == old && tree.keyWith(told) == now
}

func TestGrowthElsewhere(t *testing.T) {
	r := chance(338)
	accepted := 0
	for range 2000 {
		n := 1 + r.IntN(12)
		m := 1 + r.IntN(n)
		list := leavesOf(r.Uint64(), n)
		old, now, proof := plainListKey(list[:m]), plainListKey(list), growthProof(t, list, m)
		other := max(m, n+r.IntN(5)-2) // some proofs are those of trees of several lengths
		want := plainCheckGrowth(old, m, now, other, proof)
		isTold(t, numbered("another length", n, m, other), want)(impl.CheckGrowth(old, int64(m), now, int64(other), proof))
		if want && other != n {
			accepted++
		}
	}
	if accepted == 0 {
		t.Error("no proof is that of trees of several lengths")
	}
}

func TestGrowthIsRefused(t *testing.T) {
	long := leavesOf(339, impl.MaxLeaves+1)
	for _, m := range append(farNumbers(), 0, 6, 7, impl.MaxLeaves+1) {
		isError(t, "m", impl.ErrRange)(impl.GrowthProof(long[:5], m))
		isError(t, "m of no leaves", impl.ErrRange)(impl.GrowthProof(nil, m))
		isError(t, "m of too many leaves", impl.ErrLimit)(impl.GrowthProof(long, m))
	}
	isError(t, "no leaves", impl.ErrRange)(impl.GrowthProof(nil, 1))
	isError(t, "too many leaves", impl.ErrLimit)(impl.GrowthProof(long, 1))
	isError(t, "more than MaxLeaves", impl.ErrRange)(impl.GrowthProof(long[:impl.MaxLeaves], impl.MaxLeaves+1))
	sameList(t, "MaxLeaves of MaxLeaves", growthProof(t, long[:impl.MaxLeaves], impl.MaxLeaves), []impl.Key{plainListKey(long[:impl.MaxLeaves])})
}

func TestChecksOfGrowthAreRefused(t *testing.T) {
	long := leavesOf(340, impl.MaxLeaves+1)
	old, now := plainListKey(long[:3]), plainListKey(long[:5])
	proof := growthProof(t, long[:5], 3)
	for _, n := range append(farNumbers(), 0, impl.MaxLeaves+1, 2*impl.MaxLeaves) {
		for _, m := range append(farNumbers(), 0, 1, 3, n, n-1) {
			isRefused(t, "n", impl.ErrRange)(impl.CheckGrowth(old, m, now, n, proof))
			isRefused(t, "n and a long proof", impl.ErrLimit)(impl.CheckGrowth(old, m, now, n, long))
		}
	}
	for _, m := range append(farNumbers(), 0, 6, 7, impl.MaxLeaves+1) {
		isRefused(t, "m", impl.ErrRange)(impl.CheckGrowth(old, m, now, 5, proof))
		isRefused(t, "m and no proof", impl.ErrRange)(impl.CheckGrowth(old, m, now, 5, nil))
		isRefused(t, "m and a long proof", impl.ErrLimit)(impl.CheckGrowth(old, m, now, 5, long))
	}
	isRefused(t, "a long proof", impl.ErrLimit)(impl.CheckGrowth(old, 3, now, 5, long))
	isTold(t, "a proof of MaxLeaves keys", false)(impl.CheckGrowth(old, 3, now, 5, long[:impl.MaxLeaves]))
	isTold(t, "fewer keys than peaks", false)(impl.CheckGrowth(old, 3, now, 5, proof[:1]))
	isTold(t, "the peaks alone", false)(impl.CheckGrowth(old, 3, now, 5, proof[:2]))
	isTold(t, "one of one", true)(impl.CheckGrowth(long[0], 1, long[0], 1, long[:1]))
	isTold(t, "one of one, another one", false)(impl.CheckGrowth(long[0], 1, long[1], 1, long[:1]))
}
