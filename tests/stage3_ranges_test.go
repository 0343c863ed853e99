package tests

import (
	"slices"
	"testing"

	"loop.example/g01174/impl"
)

// rangeProof returns the proof of a range that a list has.
func rangeProof(t *testing.T, list []impl.Key, i, j int) []impl.Key {
	t.Helper()
	proof, code := impl.RangeProof(list, int64(i), int64(j))
	same(t, numbered("code of the range proof", len(list), i, j), code, impl.OK)
	return proof
}

// rangesOf returns ranges of n leaves: all of them if they are few, and those at some places otherwise.
func rangesOf(n int) [][2]int {
	places := []int{0, 1, 2, 31, 32, 33, 63, 64, 65, 100, 127, 128, 129, 192, n - 2, n - 1, n}
	if n <= 20 {
		places = nil
		for i := range n + 1 {
			places = append(places, i)
		}
	}
	var ranges [][2]int
	for _, i := range places {
		for _, j := range places {
			if 0 <= i && i < j && j <= n {
				ranges = append(ranges, [2]int{i, j})
			}
		}
	}
	return ranges
}

func TestRangesAreAccepted(t *testing.T) {
	for _, n := range lengths() {
		list := leavesOf(321, n)
		tree := growTree(list, 0)
		for _, r := range rangesOf(n) {
			i, j := r[0], r[1]
			proof := rangeProof(t, list, i, j)
			sameList(t, numbered("range proof", n, i, j), proof, keysOf(tree.outside(i, j)))
			isTold(t, numbered("accepted", n, i, j), true)(impl.CheckRange(tree.key, int64(n), int64(i), list[i:j], proof))
		}
		same(t, numbered("keys of the proof of all leaves", n), len(rangeProof(t, list, 0, n)), 0)
	}
}

func TestKnownRanges(t *testing.T) {
	node := impl.NodeKey
	l := leavesOf(322, 7)
	known := []struct {
		n, i, j int
		proof   []impl.Key
	}{
		{1, 0, 1, nil},
		{2, 0, 1, []impl.Key{l[1]}},
		{2, 1, 2, []impl.Key{l[0]}},
		{3, 1, 3, []impl.Key{l[0]}},
		{3, 2, 3, []impl.Key{node(l[0], l[1])}},
		{4, 1, 3, []impl.Key{l[0], l[3]}},
		{5, 4, 5, []impl.Key{node(node(l[0], l[1]), node(l[2], l[3]))}},
		{6, 3, 4, []impl.Key{node(l[0], l[1]), l[2], node(l[4], l[5])}},
		{7, 3, 5, []impl.Key{node(l[0], l[1]), l[2], l[5], l[6]}},
		{7, 2, 4, []impl.Key{node(l[0], l[1]), node(node(l[4], l[5]), l[6])}},
		{7, 0, 7, nil},
	}
	for _, k := range known {
		sameList(t, numbered("range proof", k.n, k.i, k.j), rangeProof(t, l[:k.n], k.i, k.j), k.proof)
	}
}

// checkOtherRanges checks that nothing is accepted that is nearly the proof of a range.
func checkOtherRanges(t *testing.T, list []impl.Key, i, j int) {
	t.Helper()
	n := len(list)
	root := plainListKey(list)
	leaves, proof := list[i:j], rangeProof(t, list, i, j)
	check := func(name string, root impl.Key, i int, leaves, proof []impl.Key) {
		t.Helper()
		got, code := impl.CheckRange(root, int64(n), int64(i), leaves, proof)
		wantCode := int64(impl.OK)
		if len(leaves) == 0 || len(leaves) > n-i {
			wantCode = impl.ErrRange
		}
		same(t, numbered(name+": code", n, i, j), code, wantCode)
		same(t, numbered(name, n, i, j), got, false)
	}
	check("another root", flipped(root, i+j), i, leaves, proof)
	for _, wrong := range wrongLists(proof) {
		check("another proof", root, i, leaves, wrong)
	}
	for _, wrong := range wrongLists(leaves) {
		if len(wrong) <= impl.MaxLeaves {
			check("other leaves", root, i, wrong, proof)
		}
	}
	for other := range n {
		if other != i {
			check("another place", root, other, leaves, proof)
		}
	}
	if len(proof) > 1 {
		turned := slices.Clone(proof)
		slices.Reverse(turned)
		check("the proof turned round", root, i, leaves, turned)
	}
}

func TestOtherRangesAreNotAccepted(t *testing.T) {
	for n := 1; n <= 13; n++ {
		list := leavesOf(323, n)
		for _, r := range rangesOf(n) {
			checkOtherRanges(t, list, r[0], r[1])
		}
	}
	for _, r := range [][2]int{{0, 1}, {31, 33}, {60, 64}, {63, 65}, {64, 66}, {65, 66}} {
		checkOtherRanges(t, leavesOf(324, 66), r[0], r[1])
	}
}

func TestKeysOfZerosHaveToBeGiven(t *testing.T) {
	for n := 2; n <= 9; n++ {
		list := make([]impl.Key, n)
		root := plainListKey(list)
		for _, r := range rangesOf(n) {
			proof := rangeProof(t, list, r[0], r[1])
			isTold(t, numbered("range", n, r[0], r[1]), true)(impl.CheckRange(root, int64(n), int64(r[0]), list[r[0]:r[1]], proof))
			for i := range proof {
				isTold(t, numbered("range, a key left out", n, r[0], r[1]), false)(impl.CheckRange(root, int64(n), int64(r[0]), list[r[0]:r[1]], without(proof, i)))
			}
		}
		for m := 1; m <= n; m++ {
			old, proof := plainListKey(list[:m]), growthProof(t, list, m)
			isTold(t, numbered("growth", n, m), true)(impl.CheckGrowth(old, int64(m), root, int64(n), proof))
			for i := range proof {
				isTold(t, numbered("growth, a key left out", n, m), false)(impl.CheckGrowth(old, int64(m), root, int64(n), without(proof, i)))
			}
		}
	}
}

func TestPartsForTheirHalvesAreNotAccepted(t *testing.T) {
	list := leavesOf(325, 8)
	root := plainListKey(list)
	halves := []impl.Key{impl.NodeKey(list[4], list[5]), impl.NodeKey(list[6], list[7])}
	isTold(t, "the greatest part", true)(impl.CheckRange(root, 8, 0, list[:4], []impl.Key{impl.NodeKey(halves[0], halves[1])}))
	isTold(t, "its halves", false)(impl.CheckRange(root, 8, 0, list[:4], halves))
	isTold(t, "its leaves", false)(impl.CheckRange(root, 8, 0, list[:4], list[4:]))
	isTold(t, "all leaves and a key of the whole", false)(impl.CheckRange(root, 8, 0, list, []impl.Key{root}))
}

// plainCheckRange is CheckRange as the document tells it, for leaves and a proof without errors.
func plainCheckRange(root impl.Key, n, i int, leaves, proof []impl.Key) bool {
	told := map[[2]int]impl.Key{}
	for k, leaf := range leaves {
		told[[2]int{i + k, i + k + 1}] = leaf
	}
	tree := growTree(make([]impl.Key, n), 0) // its shape alone matters
	parts := tree.outside(i, i+len(leaves))
	if len(parts) != len(proof) {
		return false
	}
	for k, part := range parts {
		told[[2]int{part.begin, part.end}] = proof[k]
	}
	return tree.keyWith(told) == root
}

func TestRangesElsewhere(t *testing.T) {
	r := chance(326)
	for range 1500 {
		n := 1 + r.IntN(12)
		list := leavesOf(r.Uint64(), n)
		i := r.IntN(n)
		j := i + 1 + r.IntN(n-i)
		proof := rangeProof(t, list, i, j)
		other := max(j, n+r.IntN(5)-2) // some proofs are those of trees of several lengths
		want := plainCheckRange(plainListKey(list), other, i, list[i:j], proof)
		isTold(t, numbered("another length", n, i, j, other), want)(impl.CheckRange(plainListKey(list), int64(other), int64(i), list[i:j], proof))
	}
}

func TestRangesAreRefused(t *testing.T) {
	long := leavesOf(327, impl.MaxLeaves+1)
	refused := [][2]int64{{0, 0}, {3, 3}, {3, 2}, {5, 5}, {4, 6}, {5, 6}, {6, 7}, {0, 6}, {-1, 3}, {-1, 0}, {-3, -1}, {2, -1}, {-1, 6}, {0, impl.MaxLeaves}}
	for _, far := range farNumbers() {
		refused = append(refused, [2]int64{far, 3}, [2]int64{far, far}, [2]int64{far, far + 1})
		if far < 0 || far > 5 {
			refused = append(refused, [2]int64{0, far}, [2]int64{3, far}, [2]int64{-1, far})
		}
	}
	for _, r := range refused {
		isError(t, numbered("five leaves", int(r[0]), int(r[1])), impl.ErrRange)(impl.RangeProof(long[:5], r[0], r[1]))
		isError(t, numbered("no leaves", int(r[0]), int(r[1])), impl.ErrRange)(impl.RangeProof(nil, r[0], r[1]))
		isError(t, numbered("too many leaves", int(r[0]), int(r[1])), impl.ErrLimit)(impl.RangeProof(long, r[0], r[1]))
	}
	isError(t, "no leaves", impl.ErrRange)(impl.RangeProof(nil, 0, 1))
	isError(t, "a leaf behind MaxLeaves", impl.ErrRange)(impl.RangeProof(long[:impl.MaxLeaves], 0, impl.MaxLeaves+1))
	isError(t, "too many leaves", impl.ErrLimit)(impl.RangeProof(long, 0, 1))
}

func TestChecksOfRangesAreRefused(t *testing.T) {
	long := leavesOf(328, impl.MaxLeaves+1)
	root := plainListKey(long[:5])
	proof := rangeProof(t, long[:5], 1, 3)
	check := func(name string, want, n, i int64, leaves, proof []impl.Key) {
		t.Helper()
		isRefused(t, name, want)(impl.CheckRange(root, n, i, leaves, proof))
	}
	for _, n := range append(farNumbers(), 0, impl.MaxLeaves+1) {
		check("n", impl.ErrRange, n, 1, long[1:3], proof)
		check("n and no leaves", impl.ErrRange, n, 1, nil, proof)
		check("n and too many leaves", impl.ErrLimit, n, 1, long, proof)
		check("n and a long proof", impl.ErrLimit, n, 1, long[1:3], long)
	}
	for _, i := range append(farNumbers(), 4, 5, 6) {
		check("i", impl.ErrRange, 5, i, long[1:3], proof)
		check("i and no leaves", impl.ErrRange, 5, i, nil, proof)
		check("i and too many leaves", impl.ErrLimit, 5, i, long, proof)
		check("i and a long proof", impl.ErrLimit, 5, i, long[1:3], long)
	}
	check("no leaves", impl.ErrRange, 5, 1, nil, proof)
	check("no leaves, not nil", impl.ErrRange, 5, 1, []impl.Key{}, nil)
	check("no leaves behind the last one", impl.ErrRange, 5, 5, nil, []impl.Key{root})
	check("more leaves than there are", impl.ErrRange, 5, 0, long[:6], nil)
	check("more leaves than are left", impl.ErrRange, 5, 1, long[:5], nil)
	check("MaxLeaves and one more", impl.ErrLimit, impl.MaxLeaves, 0, long, nil)
	check("a long proof", impl.ErrLimit, 5, 1, long[1:3], long)
	check("a long proof of no leaves", impl.ErrLimit, 5, 1, nil, long)
	isTold(t, "a proof of MaxLeaves keys", false)(impl.CheckRange(root, 5, 1, long[1:3], long[:impl.MaxLeaves]))
	isTold(t, "the last leaf", true)(impl.CheckRange(root, 5, 4, long[4:5], rangeProof(t, long[:5], 4, 5)))
	isTold(t, "one leaf of one", true)(impl.CheckRange(long[0], 1, 0, long[:1], nil))
}
