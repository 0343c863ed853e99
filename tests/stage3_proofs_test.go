package tests

import (
	"slices"
	"testing"

	"loop.example/g01174/impl"
)

// proofOf returns the proof of a leaf that a list has.
func proofOf(t *testing.T, list []impl.Key, i int) []impl.Key {
	t.Helper()
	proof, code := impl.ProofOf(list, int64(i))
	same(t, numbered("code of the proof", len(list), i), code, impl.OK)
	return proof
}

func TestProofsAreAccepted(t *testing.T) {
	for _, n := range lengths() {
		list := leavesOf(311, n)
		tree := growTree(list, 0)
		for i, leaf := range list {
			proof := proofOf(t, list, i)
			sameList(t, numbered("proof", n, i), proof, tree.proof(i))
			depth, _ := impl.TreeDepth(int64(n), int64(i))
			same(t, numbered("length of the proof", n, i), int64(len(proof)), depth)
			isTold(t, numbered("accepted", n, i), true)(impl.CheckProof(tree.key, int64(n), int64(i), leaf, proof))
		}
	}
}

func TestOtherProofsAreNotAccepted(t *testing.T) {
	for _, n := range []int{1, 2, 3, 4, 5, 6, 7, 8, 9, 16, 21, 255, impl.MaxLeaves} {
		list := leavesOf(312, n)
		root := plainListKey(list)
		for i := 0; i < n; i += 1 + n/30 {
			proof := proofOf(t, list, i)
			check := func(name string, root impl.Key, i int, leaf impl.Key, proof []impl.Key) {
				t.Helper()
				isTold(t, numbered(name, n, i), false)(impl.CheckProof(root, int64(n), int64(i), leaf, proof))
			}
			for b := range 256 {
				check("another leaf", root, i, flipped(list[i], b), proof)
				check("another root", flipped(root, b), i, list[i], proof)
			}
			for other := range list {
				if other != i {
					check("the proof at another place", root, other, list[i], proof)
					check("the leaf of another place", root, i, list[other], proof)
				}
			}
			for _, wrong := range wrongLists(proof) {
				check("another proof", root, i, list[i], wrong)
			}
			if turned := slices.Clone(proof); len(proof) > 1 {
				slices.Reverse(turned)
				check("the proof from the top down", root, i, list[i], turned)
			}
			if n > 1 {
				check("no proof", root, i, list[i], nil)
				check("no proof of the root", root, i, root, nil)
			}
		}
	}
}

// plainCheckProof is CheckProof as the document tells it, for a leaf that n leaves have.
func plainCheckProof(root impl.Key, n, i int, leaf impl.Key, proof []impl.Key) bool {
	key, right := plainClimb(n, i, leaf, proof)
	return right && key == root
}

// plainClimb returns the key to which a proof leads, and whether it has as many keys as it should.
func plainClimb(n, i int, leaf impl.Key, proof []impl.Key) (impl.Key, bool) {
	if n == 1 {
		return leaf, len(proof) == 0
	}
	if len(proof) == 0 {
		return impl.Key{}, false
	}
	last := len(proof) - 1
	m := 1
	for 2*m < n {
		m *= 2
	}
	if i < m {
		key, right := plainClimb(m, i, leaf, proof[:last])
		return plainNode(key, proof[last]), right
	}
	key, right := plainClimb(n-m, i-m, leaf, proof[:last])
	return plainNode(proof[last], key), right
}

func TestProofsOfNoList(t *testing.T) {
	r := chance(313)
	for range 3000 {
		n := 1 + r.IntN(40)
		i := r.IntN(n)
		proof := someKeys(r, int(plainDepth(int64(n), int64(i)))+r.IntN(5)/4)
		leaf := someKey(r)
		root, right := plainClimb(n, i, leaf, proof)
		same(t, "plain", plainCheckProof(root, n, i, leaf, proof), right)
		isTold(t, numbered("a proof of keys by chance", n, i), right)(impl.CheckProof(root, int64(n), int64(i), leaf, proof))
		other := 1 + r.IntN(40)
		place := r.IntN(other)
		want := plainCheckProof(root, other, place, leaf, proof)
		isTold(t, numbered("elsewhere", n, i, other, place), want)(impl.CheckProof(root, int64(other), int64(place), leaf, proof))
	}
}

func TestProofsOfEqualLeaves(t *testing.T) {
	list := make([]impl.Key, 7)
	root := plainListKey(list)
	for i := range list {
		isTold(t, "the proof of its place", true)(impl.CheckProof(root, 7, int64(i), impl.Key{}, proofOf(t, list, i)))
	}
	isTold(t, "a place like it", true)(impl.CheckProof(root, 7, 1, impl.Key{}, proofOf(t, list, 0)))
	isTold(t, "a place of another depth", false)(impl.CheckProof(root, 7, 6, impl.Key{}, proofOf(t, list, 0)))
}

func TestProofsAreRefused(t *testing.T) {
	long := leavesOf(314, impl.MaxLeaves+1)
	for _, i := range append(farNumbers(), 0, 1, 5, impl.MaxLeaves, impl.MaxLeaves+1) {
		isError(t, "a list over MaxLeaves", impl.ErrLimit)(impl.ProofOf(long, i))
		isError(t, "no list", impl.ErrRange)(impl.ProofOf(nil, i))
	}
	for _, n := range []int{1, 2, 5, 8, impl.MaxLeaves} {
		for _, i := range append(farNumbers(), int64(n), int64(n)+1, 2*impl.MaxLeaves) {
			isError(t, numbered("no leaf", n, int(i)), impl.ErrRange)(impl.ProofOf(long[:n], i))
		}
	}
	one := proofOf(t, long[:1], 0)
	same(t, "keys of the proof of one leaf", len(one), 0)
	same(t, "keys of the proof of the last of MaxLeaves", len(proofOf(t, long[:impl.MaxLeaves], impl.MaxLeaves-1)), 8)
}

func TestChecksOfProofsAreRefused(t *testing.T) {
	list := leavesOf(315, 5)
	root := plainListKey(list)
	proof := proofOf(t, list, 2)
	for _, n := range append(farNumbers(), 0, impl.MaxLeaves+1, 2*impl.MaxLeaves) {
		for _, i := range append(farNumbers(), 0, 2, n, n-1) {
			isRefused(t, "n", impl.ErrRange)(impl.CheckProof(root, n, i, list[2], proof))
		}
	}
	for _, i := range append(farNumbers(), 5, 6, impl.MaxLeaves) {
		isRefused(t, "i", impl.ErrRange)(impl.CheckProof(root, 5, i, list[2], proof))
		isRefused(t, "i, and no proof", impl.ErrRange)(impl.CheckProof(root, 5, i, list[2], nil))
	}
	isRefused(t, "one leaf, and the place behind it", impl.ErrRange)(impl.CheckProof(list[0], 1, 1, list[0], nil))
	isTold(t, "one leaf", true)(impl.CheckProof(list[0], 1, 0, list[0], nil))
	isTold(t, "one leaf, another root", false)(impl.CheckProof(root, 1, 0, list[0], nil))
	isTold(t, "one leaf, with a key", false)(impl.CheckProof(list[0], 1, 0, list[0], []impl.Key{{}}))
}

func TestLongProofsAreNotAccepted(t *testing.T) {
	list := leavesOf(316, impl.MaxLeaves)
	root := plainListKey(list[:5])
	proof := proofOf(t, list[:5], 2)
	for _, n := range []int{len(proof) + 1, impl.MaxLeaves - 1, impl.MaxLeaves} {
		long := slices.Concat(proof, list)[:n]
		isTold(t, numbered("a proof of many keys", n), false)(impl.CheckProof(root, 5, 2, list[2], long))
		isRefused(t, numbered("a proof of many keys, and no such leaf", n), impl.ErrRange)(impl.CheckProof(root, 5, 5, list[2], long))
		isRefused(t, numbered("a proof of many keys, and too many leaves", n), impl.ErrRange)(impl.CheckProof(root, impl.MaxLeaves+1, 2, list[2], long))
	}
}

func TestProofsOverMaxLeavesAreRefused(t *testing.T) {
	list := leavesOf(317, 2*impl.MaxLeaves)
	proof := proofOf(t, list[:5], 2)
	for _, length := range []int{impl.MaxLeaves + 1, impl.MaxLeaves + 2, 2 * impl.MaxLeaves} {
		long := slices.Concat(proof, list)[:length]
		check := func(name string, root impl.Key, n, i int64) {
			t.Helper()
			isRefused(t, numbered(name, length, int(n), int(i)), impl.ErrLimit)(impl.CheckProof(root, n, i, list[2], long))
		}
		check("a leaf", plainListKey(list[:5]), 5, 2)
		check("one leaf", list[2], 1, 0)
		check("the last of MaxLeaves", plainListKey(list[:impl.MaxLeaves]), impl.MaxLeaves, impl.MaxLeaves-1)
		for _, n := range append(farNumbers(), 0, impl.MaxLeaves+1, int64(length)) {
			check("n", impl.Key{}, n, 0)
			check("n and i", impl.Key{}, n, n)
		}
		for _, i := range append(farNumbers(), 5, 6, impl.MaxLeaves) {
			check("i", impl.Key{}, 5, i)
		}
	}
}
