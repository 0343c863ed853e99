package tests

import (
	"slices"
	"strconv"
	"testing"

	"loop.example/g01174/impl"
)

// plainTree is the tree of some leaves as the document tells it: the leaves from begin on, up to the one before end.
type plainTree struct {
	begin, end  int
	key         impl.Key
	left, right *plainTree
}

// plainNode is NodeKey as the document tells it.
func plainNode(a, b impl.Key) impl.Key {
	return plainHash(2, slices.Concat(a[:], b[:]))
}

// growTree returns the tree of a list that is not empty and whose first leaf has the place begin.
func growTree(list []impl.Key, begin int) *plainTree {
	tree := &plainTree{begin: begin, end: begin + len(list), key: list[0]}
	if len(list) > 1 {
		m := 1
		for 2*m < len(list) {
			m *= 2
		}
		tree.left = growTree(list[:m], begin)
		tree.right = growTree(list[m:], begin+m)
		tree.key = plainNode(tree.left.key, tree.right.key)
	}
	return tree
}

// plainListKey is ListKey as the document tells it.
func plainListKey(list []impl.Key) impl.Key {
	if len(list) == 0 {
		return plainHash(3, nil)
	}
	return growTree(list, 0).key
}

// has reports whether the leaf i is one of the tree.
func (tree *plainTree) has(i int) bool {
	return tree.begin <= i && i < tree.end
}

// proof returns the proof of the leaf i, which the tree has.
func (tree *plainTree) proof(i int) []impl.Key {
	switch {
	case tree.left == nil:
		return nil
	case tree.left.has(i):
		return append(tree.left.proof(i), tree.right.key)
	}
	return append(tree.right.proof(i), tree.left.key)
}

// outside returns the greatest parts that have none of the leaves from i on, up to the one before j.
func (tree *plainTree) outside(i, j int) []*plainTree {
	switch {
	case tree.end <= i || tree.begin >= j:
		return []*plainTree{tree}
	case tree.left == nil:
		return nil
	}
	return append(tree.left.outside(i, j), tree.right.outside(i, j)...)
}

// keysOf returns the keys of some trees.
func keysOf(trees []*plainTree) []impl.Key {
	var keys []impl.Key
	for _, tree := range trees {
		keys = append(keys, tree.key)
	}
	return keys
}

// keyWith returns the key of the tree when some of its parts have other keys, which are told by their first leaves and
// the ones behind their last ones; every other leaf has to be told, too.
func (tree *plainTree) keyWith(told map[[2]int]impl.Key) impl.Key {
	if key, found := told[[2]int{tree.begin, tree.end}]; found {
		return key
	}
	return plainNode(tree.left.keyWith(told), tree.right.keyWith(told))
}

// peakEnds returns the ends of the trees whose keys are the peaks of n leaves, in order.
func peakEnds(n int) []int {
	var ends []int
	end := 0
	for size := 1 << 20; size > 0; size /= 2 {
		if n&size != 0 {
			end += size
			ends = append(ends, end)
		}
	}
	return ends
}

// plainPeaks is PeaksOf as the document tells it.
func plainPeaks(list []impl.Key) []impl.Key {
	var peaks []impl.Key
	begin := 0
	for _, end := range peakEnds(len(list)) {
		peaks = append(peaks, plainListKey(list[begin:end]))
		begin = end
	}
	return peaks
}

// leavesOf returns n leaves, no two of which are equal.
func leavesOf(seed uint64, n int) []impl.Key {
	r := chance(seed)
	list := make([]impl.Key, n)
	for i := range list {
		list[i] = someKey(r)
		list[i][0] = byte(i)
	}
	return list
}

// lengths returns how many leaves the lists have that are tried: all numbers up to some dozens, and those at powers of 2.
func lengths() []int {
	var all []int
	for n := 1; n <= 36; n++ {
		all = append(all, n)
	}
	return append(all, 63, 64, 65, 127, 128, 129, 200, impl.MaxLeaves-1, impl.MaxLeaves)
}

// without returns a list without the element i.
func without[T any](list []T, i int) []T {
	return slices.Concat(list[:i], list[i+1:])
}

// with returns a list with an element more, at the place i.
func with[T any](list []T, i int, element T) []T {
	return slices.Concat(list[:i], []T{element}, list[i:])
}

// changed returns a list in which the bit b of the key i is another one.
func changed(list []impl.Key, i, b int) []impl.Key {
	list = slices.Clone(list)
	list[i] = flipped(list[i], b)
	return list
}

// wrongLists returns lists of keys that are nearly list: each key changed or left out, and one more at each place.
func wrongLists(list []impl.Key) [][]impl.Key {
	var wrong [][]impl.Key
	for i := range list {
		wrong = append(wrong, changed(list, i, 37*i%256), without(list, i))
	}
	for i := range len(list) + 1 {
		wrong = append(wrong, with(list, i, impl.Key{77}))
		if i < len(list) {
			wrong = append(wrong, with(list, i, list[i]))
		}
	}
	return append(wrong, slices.Repeat([]impl.Key{{}}, impl.MaxLeaves))
}

// isTold fails the test if a function that reports something with a code does not report want and OK.
func isTold(t *testing.T, name string, want bool) func(bool, int64) {
	return func(got bool, code int64) {
		t.Helper()
		same(t, name+": code", code, impl.OK)
		same(t, name, got, want)
	}
}

// isRefused fails the test if a function that reports something does not return false and an error.
func isRefused(t *testing.T, name string, want int64) func(bool, int64) {
	return func(got bool, code int64) {
		t.Helper()
		same(t, name+": code", code, want)
		same(t, name, got, false)
	}
}

// isError fails the test if a function that returns keys does not return none and an error.
func isError(t *testing.T, name string, want int64) func([]impl.Key, int64) {
	return func(got []impl.Key, code int64) {
		t.Helper()
		same(t, name+": code", code, want)
		same(t, name+": keys", len(got), 0)
	}
}

// numbered returns a name with numbers behind it.
func numbered(name string, numbers ...int) string {
	for _, n := range numbers {
		name += " " + strconv.Itoa(n)
	}
	return name
}

// farNumbers are numbers that no list has as a place or a length.
func farNumbers() []int64 {
	const least, most = -1 << 63, 1<<63 - 1
	return []int64{-1, -2, least, least + 1, most, most - 1, 1 << 32, -1 << 32, 1<<32 + 1}
}
