package tests

import (
	"slices"
	"testing"

	"loop.example/g01174/impl"
)

// Nobody knows two unlike pairs with one NodeKey: those tests that need some are in impl/l03_clash_test.go.

// isNoClash fails the test if a function does not return the clash of nothing and an error.
func isNoClash(t *testing.T, name string, want int64) func(impl.Clash, int64) {
	return func(got impl.Clash, code int64) {
		t.Helper()
		same(t, name+": code", code, want)
		same(t, name, got, impl.Clash{})
	}
}

func TestPairsThatAreNoClash(t *testing.T) {
	same(t, "nothing", impl.ValidClash(impl.Clash{}), false)
	r := chance(341)
	for range 100 {
		a, b, c := someKey(r), someKey(r), closeKey(r)
		near := impl.XorKeys(b, c)
		for name, no := range map[string]impl.Clash{
			"one pair twice":         {FirstLeft: a, FirstRight: b, SecondLeft: a, SecondRight: b},
			"one key four times":     {FirstLeft: a, FirstRight: a, SecondLeft: a, SecondRight: a},
			"a pair turned round":    {FirstLeft: a, FirstRight: b, SecondLeft: b, SecondRight: a},
			"unlike on the right":    {FirstLeft: a, FirstRight: b, SecondLeft: a, SecondRight: near},
			"unlike on the left":     {FirstLeft: b, FirstRight: a, SecondLeft: near, SecondRight: a},
			"unlike on both sides":   {FirstLeft: a, FirstRight: b, SecondLeft: b, SecondRight: near},
			"a pair and its own key": {FirstLeft: a, FirstRight: b, SecondLeft: impl.NodeKey(a, b), SecondRight: impl.NodeKey(a, b)},
		} {
			same(t, name, impl.ValidClash(no), false)
		}
	}
}

func TestEqualListsShowNoClash(t *testing.T) {
	for _, n := range lengths() {
		list := leavesOf(342, n)
		isNoClash(t, "the same list", impl.ErrNotFound)(impl.ClashOf(list, list))
		isNoClash(t, "an equal list", impl.ErrNotFound)(impl.ClashOf(list, slices.Clone(list)))
		for _, i := range []int{0, n / 2, n - 1} {
			isNoClash(t, "a leaf changed", impl.ErrState)(impl.ClashOf(list, changed(list, i, n%256)))
			isNoClash(t, "a leaf changed in the first list", impl.ErrState)(impl.ClashOf(changed(list, i, n%256), list))
		}
		isNoClash(t, "a leaf less", impl.ErrState)(impl.ClashOf(list, list[:n-1]))
		isNoClash(t, "a leaf less in the first list", impl.ErrState)(impl.ClashOf(list[1:], list))
		isNoClash(t, "no leaves", impl.ErrState)(impl.ClashOf(list, nil))
		isNoClash(t, "the key of the list alone", map[bool]int64{true: impl.ErrNotFound, false: impl.ErrState}[n == 1])(impl.ClashOf(list, []impl.Key{plainListKey(list)}))
	}
}

func TestListsAreRefusedForClashes(t *testing.T) {
	long := leavesOf(343, impl.MaxLeaves+1)
	isNoClash(t, "no leaves twice", impl.ErrState)(impl.ClashOf(nil, nil))
	isNoClash(t, "no leaves twice, not nil", impl.ErrState)(impl.ClashOf([]impl.Key{}, nil))
	isNoClash(t, "too many leaves twice", impl.ErrLimit)(impl.ClashOf(long, long))
	isNoClash(t, "too many leaves on the left", impl.ErrLimit)(impl.ClashOf(long, nil))
	isNoClash(t, "too many leaves on the right", impl.ErrLimit)(impl.ClashOf(long[:3], long))
	isNoClash(t, "MaxLeaves leaves", impl.ErrNotFound)(impl.ClashOf(long[:impl.MaxLeaves], long[:impl.MaxLeaves]))
}

func TestProofsOfListsShowNoClash(t *testing.T) {
	for _, n := range []int{1, 2, 3, 5, 8, 13, 65, impl.MaxLeaves} {
		list := leavesOf(344, n)
		for i := 0; i < n; i += 1 + n/13 {
			proof := proofOf(t, list, i)
			check := func(name string, want int64, leaf impl.Key, proof []impl.Key) {
				t.Helper()
				isNoClash(t, numbered(name, n, i), want)(impl.ClashOfProof(list, int64(i), leaf, proof))
			}
			check("its proof", impl.ErrNotFound, list[i], proof)
			check("another leaf", impl.ErrState, flipped(list[i], i), proof)
			for _, wrong := range wrongLists(proof) {
				check("another proof", impl.ErrState, list[i], wrong)
				check("another proof of another leaf", impl.ErrState, flipped(list[i], i), wrong)
			}
			check("a proof of MaxLeaves keys", impl.ErrState, list[i], make([]impl.Key, impl.MaxLeaves))
			check("a longer proof", impl.ErrLimit, list[i], make([]impl.Key, impl.MaxLeaves+1))
			check("a longer proof of another leaf", impl.ErrLimit, flipped(list[i], i), make([]impl.Key, impl.MaxLeaves+1))
		}
	}
}

func TestProofsAreRefusedForClashes(t *testing.T) {
	long := leavesOf(345, impl.MaxLeaves+1)
	proof := proofOf(t, long[:5], 2)
	for _, i := range append(farNumbers(), 5, 6, impl.MaxLeaves) {
		isNoClash(t, "i", impl.ErrRange)(impl.ClashOfProof(long[:5], i, long[2], proof))
		isNoClash(t, "i and no proof", impl.ErrRange)(impl.ClashOfProof(long[:5], i, long[2], nil))
		isNoClash(t, "i and a proof of MaxLeaves keys", impl.ErrRange)(impl.ClashOfProof(long[:5], i, long[2], long[:impl.MaxLeaves]))
		isNoClash(t, "i and a longer proof", impl.ErrLimit)(impl.ClashOfProof(long[:5], i, long[2], long))
		isNoClash(t, "i of too many leaves", impl.ErrLimit)(impl.ClashOfProof(long, i, long[2], proof))
	}
	for _, i := range append(farNumbers(), 0, 1) {
		isNoClash(t, "no leaves", impl.ErrRange)(impl.ClashOfProof(nil, i, impl.Key{}, nil))
		isNoClash(t, "no leaves and a long proof", impl.ErrLimit)(impl.ClashOfProof(nil, i, impl.Key{}, long))
	}
	isNoClash(t, "too many leaves", impl.ErrLimit)(impl.ClashOfProof(long, 2, long[2], proof))
	isNoClash(t, "too many leaves and a long proof", impl.ErrLimit)(impl.ClashOfProof(long, 2, long[2], long))
	isNoClash(t, "one leaf", impl.ErrNotFound)(impl.ClashOfProof(long[:1], 0, long[0], nil))
	isNoClash(t, "one leaf, another one", impl.ErrState)(impl.ClashOfProof(long[:1], 0, long[1], nil))
	isNoClash(t, "one leaf, with a key", impl.ErrState)(impl.ClashOfProof(long[:1], 0, long[0], long[:1]))
}
