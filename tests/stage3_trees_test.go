package tests

import (
	"testing"

	"loop.example/g01174/impl"
)

func TestExampleOfChapter3(t *testing.T) {
	a, b, c := impl.Key{1}, impl.Key{2}, impl.Key{3}
	one, code := impl.ListKey([]impl.Key{a})
	same(t, "code of one key", code, impl.OK)
	same(t, "one key", one, a)
	two, code := impl.ListKey([]impl.Key{a, b})
	same(t, "code of two keys", code, impl.OK)
	same(t, "two keys", two, impl.NodeKey(a, b))
	proof, code := impl.ProofOf([]impl.Key{a, b, c}, 0)
	same(t, "code of the proof", code, impl.OK)
	sameList(t, "the proof", proof, []impl.Key{b, c})
	peaks, code := impl.PeaksOf([]impl.Key{a, b, c})
	same(t, "code of the peaks", code, impl.OK)
	sameList(t, "the peaks", peaks, []impl.Key{impl.NodeKey(a, b), c})
	depth, code := impl.TreeDepth(3, 2)
	same(t, "code of the depth", code, impl.OK)
	same(t, "the depth", depth, 1)
}

func TestNodesAreHashedWithTheTag2(t *testing.T) {
	same(t, "MaxLeaves", impl.MaxLeaves, 256)
	r := chance(301)
	for range 50 {
		a, b := someKey(r), someKey(r)
		same(t, "node", impl.NodeKey(a, b), plainNode(a, b))
		same(t, "node of one key twice", impl.NodeKey(a, a), impl.PairKey(2, a, a))
		if impl.NodeKey(a, b) == impl.NodeKey(b, a) {
			t.Error("the order of the parts does not matter")
		}
	}
}

// listKey returns the ListKey of a list that has no error.
func listKey(t *testing.T, list []impl.Key) impl.Key {
	t.Helper()
	key, code := impl.ListKey(list)
	same(t, "code of ListKey", code, impl.OK)
	return key
}

func TestTreesHaveTheirShape(t *testing.T) {
	n := impl.NodeKey
	l := leavesOf(302, 9)
	same(t, "3 leaves", listKey(t, l[:3]), n(n(l[0], l[1]), l[2]))
	four := n(n(l[0], l[1]), n(l[2], l[3]))
	same(t, "4 leaves", listKey(t, l[:4]), four)
	same(t, "5 leaves", listKey(t, l[:5]), n(four, l[4]))
	same(t, "6 leaves", listKey(t, l[:6]), n(four, n(l[4], l[5])))
	same(t, "7 leaves", listKey(t, l[:7]), n(four, n(n(l[4], l[5]), l[6])))
	eight := n(four, n(n(l[4], l[5]), n(l[6], l[7])))
	same(t, "8 leaves", listKey(t, l[:8]), eight)
	same(t, "9 leaves", listKey(t, l), n(eight, l[8]))
}

func TestKnownKeysOfLists(t *testing.T) {
	// Found by another program that follows the document.
	known := []struct {
		n    int
		text string
	}{
		{0, "466dd3306d2281589c0898e94496f7613b6fb41843a3a5a3f89f0b50224f8253"},
		{1, "b5e050a0bbc9526e31ca7029db506561936b0f1e833d62695f33da4db6afe594"},
		{2, "9671069602e16e8b3188bdd0f5bc77119d292b4cc0b58959b1f021aaebb72116"},
		{3, "72a8463a60de50aeef0959035184211ee1e4c08a4f4a779a06f0daf2b3fd4e20"},
		{5, "f4f2a79c2ac0c0b2bae3e974450ba5ff5e0dd414bc749fbc07f5bc04cb7b2e0c"},
		{6, "8876823f46c70f48963a5656cf58c54ebf7669fad0e97c2cee05f0e7d2b645f5"},
		{7, "363a7a4d6a988cf924b01a16ce216339c8d505960f4f531ecfd1e4486759be80"},
		{8, "a8e3c3717409f0d7e01d73856a752cdae496edea39752072105f0fcbdf3a4235"},
		{33, "b0f02b1fff2a9fda5ca80d41274916a61e7752b1400c20ae0c433cbaa2ed3098"},
		{100, "da4dca41cd8db38d779b668efd3027462d0469189935ee19988122975556b477"},
		{127, "e046bf05d3b4e3ad1b287532203b5b640e3db39a40e3179337426f24233b56a0"},
		{128, "1ff4a48a6343d5803fe4f511f25095a2dbb3b1baab570ac7cf79ee069f05a26f"},
		{129, "b44aba99e9f5214706bb6a49a86afdc249816dd56c661a6b115b86e7407fc301"},
		{255, "d50886e9ad34d65804c27876821cc939a9111c74869d9d42203f381ac0554f09"},
		{256, "440d79b0c6f632fab8a9de9ba8e0d3cb91959298e6234ba6455867aea86bd6cc"},
	}
	var list []impl.Key
	for i := range impl.MaxLeaves {
		leaf, _ := impl.HashOf(1, []byte{byte(i)})
		list = append(list, leaf)
	}
	for _, k := range known {
		same(t, numbered("leaves", k.n), impl.KeyText(listKey(t, list[:k.n])), k.text)
	}
}

func TestKeysOfListsOfAllLengths(t *testing.T) {
	for _, n := range lengths() {
		list := leavesOf(303, n)
		same(t, numbered("leaves", n), listKey(t, list), plainListKey(list))
		for _, i := range []int{0, n / 2, n - 1} {
			if listKey(t, changed(list, i, 255)) == listKey(t, list) {
				t.Errorf("the leaf %d of %d does not matter", i, n)
			}
		}
	}
	twice := make([]impl.Key, 21)
	same(t, "one leaf 21 times", listKey(t, twice), plainListKey(twice))
}

func TestListsHaveALimit(t *testing.T) {
	none, _ := impl.HashOf(3, nil)
	same(t, "no leaves", listKey(t, nil), none)
	same(t, "no leaves, not nil", listKey(t, []impl.Key{}), none)
	for _, n := range []int{impl.MaxLeaves + 1, 2 * impl.MaxLeaves} {
		key, code := impl.ListKey(leavesOf(304, n))
		same(t, "code over MaxLeaves", code, impl.ErrLimit)
		same(t, "key over MaxLeaves", key, impl.Key{})
	}
}

// plainDepth is TreeDepth as the document tells it.
func plainDepth(n, i int64) int64 {
	if n == 1 {
		return 0
	}
	m := int64(1)
	for 2*m < n {
		m *= 2
	}
	if i < m {
		return 1 + plainDepth(m, i)
	}
	return 1 + plainDepth(n-m, i-m)
}

func TestDepthsOfAllLeaves(t *testing.T) {
	for n := int64(1); n <= impl.MaxLeaves; n++ {
		for i := range n {
			depth, code := impl.TreeDepth(n, i)
			same(t, "code", code, impl.OK)
			same(t, numbered("depth", int(n), int(i)), depth, plainDepth(n, i))
		}
	}
}

func TestKnownDepths(t *testing.T) {
	known := []struct{ n, i, depth int64 }{
		{1, 0, 0}, {2, 0, 1}, {2, 1, 1}, {3, 0, 2}, {3, 1, 2}, {3, 2, 1}, {4, 0, 2}, {4, 3, 2}, {5, 0, 3}, {5, 3, 3},
		{5, 4, 1}, {6, 3, 3}, {6, 4, 2}, {6, 5, 2}, {7, 4, 3}, {7, 5, 3}, {7, 6, 2}, {8, 7, 3}, {9, 7, 4}, {9, 8, 1},
		{129, 127, 8}, {129, 128, 1}, {255, 0, 8}, {255, 253, 8}, {255, 254, 7}, {256, 0, 8}, {256, 255, 8},
	}
	for _, k := range known {
		depth, _ := impl.TreeDepth(k.n, k.i)
		same(t, numbered("depth", int(k.n), int(k.i)), depth, k.depth)
	}
}

func TestDepthsAreRefused(t *testing.T) {
	refused := [][2]int64{{0, 0}, {0, -1}, {-1, 0}, {-1, -2}, {1, 1}, {1, -1}, {5, 5}, {5, 6}, {5, -1},
		{impl.MaxLeaves, impl.MaxLeaves}, {impl.MaxLeaves, -1}, {impl.MaxLeaves + 1, 0}, {impl.MaxLeaves + 1, impl.MaxLeaves}}
	for _, far := range farNumbers() {
		refused = append(refused, [2]int64{far, 0}, [2]int64{far, far}, [2]int64{3, far}, [2]int64{far, far - 1})
	}
	for _, r := range refused {
		depth, code := impl.TreeDepth(r[0], r[1])
		same(t, numbered("code", int(r[0]), int(r[1])), code, impl.ErrRange)
		same(t, "no depth", depth, 0)
	}
}
