package tests

import (
	"maps"
	"slices"
	"testing"

	"loop.example/g01174/impl"
)

// isWay checks what WayTo returns.
func isWay(t *testing.T, name string, b impl.Book, a, k impl.Key, want ...impl.Key) {
	t.Helper()
	if len(want) == 0 {
		isNone[impl.Key](t, name, impl.ErrState)(impl.WayTo(b, a, k))
		return
	}
	isKeys(t, name, want)(impl.WayTo(b, a, k))
}

// checkPair checks what is told of two commits.
func checkPair(t *testing.T, name string, b impl.Book, a, k impl.Key) {
	t.Helper()
	isAncestor := plainAncestors(b, k)[a]
	isTold(t, name+": IsAncestor", isAncestor)(impl.IsAncestor(b, a, k))
	bases := plainBases(b, a, k)
	isKeys(t, name+": BasesOf", bases)(impl.BasesOf(b, a, k))
	isKeys(t, name+": BasesOf both exchanged", bases)(impl.BasesOf(b, k, a))
	if isAncestor {
		isKeys(t, name+": BasesOf an ancestor", []impl.Key{a})(impl.BasesOf(b, a, k))
	}
	isWay(t, name+": WayTo", b, a, k, plainWay(b, a, k)...)
}

func TestAncestorsAreThoseOfTheParents(t *testing.T) {
	for name, b := range booksTried(731) {
		isKeys(t, name+": HeadsOf", plainHeads(b))(impl.HeadsOf(b))
		for _, k := range commitKeys(b) {
			isKeys(t, name+": AncestorsOf", sortedKeys(maps.Keys(plainAncestors(b, k))))(impl.AncestorsOf(b, k))
			for _, a := range commitKeys(b) {
				checkPair(t, name, b, a, k)
			}
		}
	}
}

func TestAncestorsInLargeBooks(t *testing.T) {
	chain, keys := chainOfCommits("chain", impl.MaxCommits)
	isKeys(t, "ancestors of the last one", ascending(keys...))(impl.AncestorsOf(chain, keys[39]))
	isKeys(t, "the head", keys[39:])(impl.HeadsOf(chain))
	isWay(t, "the whole chain", chain, keys[0], keys[39], keys...)
	isWay(t, "a part of the chain", chain, keys[7], keys[30], keys[7:31]...)
	isWay(t, "down the chain", chain, keys[30], keys[7])
	isKeys(t, "bases", keys[7:8])(impl.BasesOf(chain, keys[30], keys[7]))
	full, keys := fullBook()
	isKeys(t, "all are heads", ascending(keys...))(impl.HeadsOf(full))
	isKeys(t, "alone", keys[20:21])(impl.AncestorsOf(full, keys[20]))
	isKeys(t, "nothing in common", nil)(impl.BasesOf(full, keys[20], keys[21]))
	dense := [][]int{nil, {0}, {0, 1}}
	for i := 3; i < impl.MaxCommits; i++ {
		dense = append(dense, []int{i - 3, i - 2, i - 1}) // there are more ways than anybody could count
	}
	b, keys := bookOf("dense", dense...)
	isKeys(t, "all of the dense ones", ascending(keys...))(impl.AncestorsOf(b, keys[39]))
	isWay(t, "the only shortest way", b, keys[0], keys[39], keysAt(keys, []int{0, 3, 6, 9, 12, 15, 18, 21, 24, 27, 30, 33, 36, 39})...)
	isWay(t, "back", b, keys[39], keys[0])
	isWay(t, "many shortest ways", b, keys[25], keys[35], firstOfDense(b, keys, 25, 35)...)
}

// firstOfDense returns the first one of the shortest ways in a book in which the parents of a commit are the three before
// it, the places from and to being far enough from the ends.
func firstOfDense(b impl.Book, keys []impl.Key, from, to int) []impl.Key {
	steps := (to - from + 2) / 3
	if steps == 0 {
		return keys[from : from+1]
	}
	var best []impl.Key
	for next := from + 1; next <= min(from+3, to); next++ {
		if (to-next+2)/3 != steps-1 {
			continue
		}
		way := append([]impl.Key{keys[from]}, firstOfDense(b, keys, next, to)...)
		if best == nil || before(way[1], best[1]) {
			best = way
		}
	}
	return best
}

func TestHeadsAreNoParents(t *testing.T) {
	isKeys(t, "no commits", nil)(impl.HeadsOf(impl.Book{}))
	for _, try := range []struct {
		name  string
		shape [][]int
		heads []int
	}{
		{"a chain", [][]int{nil, {0}, {1}}, []int{2}},
		{"two branches", [][]int{nil, {0}, {0}}, []int{1, 2}},
		{"three parents", [][]int{nil, nil, nil, {0, 1, 2}}, []int{3}},
		{"some parents", [][]int{nil, nil, nil, {0, 2}, {2}}, []int{1, 3, 4}},
		{"a parent that is older", [][]int{nil, {0}, {0, 1}}, []int{2}},
	} {
		b, keys := bookOf(try.name, try.shape...)
		isKeys(t, try.name, ascending(keysAt(keys, try.heads)...))(impl.HeadsOf(b))
	}
}

func TestBasesAreTheLastCommonAncestors(t *testing.T) {
	for _, try := range []struct {
		name  string
		shape [][]int
		a, k  int
		bases []int
	}{
		{"both are one", [][]int{nil, {0}}, 1, 1, []int{1}},
		{"a parent", [][]int{nil, {0}, {1}}, 1, 2, []int{1}},
		{"an ancestor", [][]int{nil, {0}, {1}, {2}}, 0, 3, []int{0}},
		{"two branches", [][]int{nil, {0}, {1}, {1}}, 2, 3, []int{1}},
		{"nothing in common", [][]int{nil, nil, {0}, {1}}, 2, 3, nil},
		{"crossed", [][]int{nil, {0}, {0}, {1, 2}, {1, 2}}, 3, 4, []int{1, 2}},
		{"crossed beginnings", [][]int{nil, nil, {0, 1}, {0, 1}}, 2, 3, []int{0, 1}},
		{"crossed by three", [][]int{nil, nil, nil, {0, 1, 2}, {0, 1, 2}}, 3, 4, []int{0, 1, 2}},
		{"crossed and once more", [][]int{nil, {0}, {0}, {1, 2}, {1, 2}, {3, 4}, {3, 4}}, 5, 6, []int{3, 4}},
		{"a base above another one", [][]int{nil, {0}, {0, 1}, {0, 1}}, 2, 3, []int{1}},
		{"a base far above another one", [][]int{nil, {0}, {1}, {2}, {0, 3}, {0, 3}}, 4, 5, []int{3}},
		{"one base of two heights", [][]int{nil, {0}, nil, {1, 2}, {0, 2}}, 3, 4, []int{0, 2}},
	} {
		for i := range 3 {
			b, keys := bookOf(numbered(try.name, i), try.shape...)
			want := ascending(keysAt(keys, try.bases)...)
			isKeys(t, try.name, want)(impl.BasesOf(b, keys[try.a], keys[try.k]))
			isKeys(t, try.name+" exchanged", want)(impl.BasesOf(b, keys[try.k], keys[try.a]))
		}
	}
}

func TestWaysAreShortest(t *testing.T) {
	for _, try := range []struct {
		name  string
		shape [][]int
		a, k  int
		way   []int
	}{
		{"to itself", [][]int{nil, {0}}, 1, 1, []int{1}},
		{"to itself at the beginning", [][]int{nil, {0}}, 0, 0, []int{0}},
		{"to a child", [][]int{nil, {0}}, 0, 1, []int{0, 1}},
		{"to a parent", [][]int{nil, {0}}, 1, 0, nil},
		{"to another branch", [][]int{nil, {0}, {0}}, 1, 2, nil},
		{"to what has nothing in common", [][]int{nil, nil, {1}}, 0, 2, nil},
		{"by a parent that is older", [][]int{nil, {0}, {1}, {0, 2}}, 0, 3, []int{0, 3}},
		{"by the shorter branch", [][]int{nil, {0}, {1}, {0}, {2, 3}}, 0, 4, []int{0, 3, 4}},
		{"by the shorter branch, which is older", [][]int{nil, {0}, {0}, {2}, {1, 3}}, 0, 4, []int{0, 1, 4}},
		{"by one of two branches", [][]int{nil, {0}, {0}, {1, 2}}, 1, 3, []int{1, 3}},
	} {
		for i := range 6 {
			b, keys := bookOf(numbered(try.name, i), try.shape...)
			isWay(t, try.name, b, keys[try.a], keys[try.k], keysAt(keys, try.way)...)
		}
	}
}

// TestTheFirstWayIsTaken shows that of ways of one length it is the first key at which they differ that decides.
func TestTheFirstWayIsTaken(t *testing.T) {
	crossing := 0
	for i := range 40 {
		word := numbered("first", i)
		b, keys := bookOf(word, nil, []int{0}, []int{0}, []int{1, 2})
		middle := ascending(keys[1:3]...)
		isWay(t, word, b, keys[0], keys[3], keys[0], middle[0], keys[3])
		b, keys = bookOf(word, nil, []int{0}, []int{0}, []int{1}, []int{2}, []int{3, 4})
		low := 1
		if before(keys[2], keys[1]) {
			low = 2
		}
		isWay(t, word, b, keys[0], keys[5], keys[0], keys[low], keys[low+2], keys[5])
		if before(keys[1], keys[2]) != before(keys[3], keys[4]) {
			crossing++
		}
	}
	if crossing < 5 || crossing > 35 {
		t.Errorf("the last keys decide in another way than the first ones in %d of 40 books", crossing)
	}
}

// TestTheShorterWayIsTaken shows that a shorter way is taken, whether its keys are less or greater.
func TestTheShorterWayIsTaken(t *testing.T) {
	less := 0
	for i := range 40 {
		b, keys := bookOf(numbered("shorter", i), nil, []int{0}, []int{1}, []int{0}, []int{2, 3})
		isWay(t, "the shorter one", b, keys[0], keys[4], keys[0], keys[3], keys[4])
		if before(keys[3], keys[1]) {
			less++
		}
	}
	if less < 5 || less > 35 {
		t.Errorf("the shorter way is less in %d of 40 books", less)
	}
}

func TestCommitsThatABookHasNot(t *testing.T) {
	for name, b := range booksTried(732) {
		for _, k := range append(commitKeys(b), impl.Key{2}) {
			for _, other := range []impl.Key{{}, {1}, flipped(k, 0), flipped(k, 255), plainEmpty()} {
				isNone[impl.Key](t, name+": AncestorsOf", impl.ErrNotFound)(impl.AncestorsOf(b, other))
				for _, pair := range [][2]impl.Key{{k, other}, {other, k}, {other, other}} {
					isRefused(t, name+": IsAncestor", impl.ErrNotFound)(impl.IsAncestor(b, pair[0], pair[1]))
					isNone[impl.Key](t, name+": BasesOf", impl.ErrNotFound)(impl.BasesOf(b, pair[0], pair[1]))
					isNone[impl.Key](t, name+": WayTo", impl.ErrNotFound)(impl.WayTo(b, pair[0], pair[1]))
				}
			}
		}
	}
}

// TestBasesAreCommonAncestors is a guarantee of the document.
func TestBasesAreCommonAncestors(t *testing.T) {
	r := chance(733)
	for range 20 {
		b := someBook(r, 12)
		keys := commitKeys(b)
		a, k := keys[r.IntN(12)], keys[r.IntN(12)]
		bases, code := impl.BasesOf(b, a, k)
		same(t, "code", code, impl.OK)
		for _, base := range bases {
			isTold(t, "an ancestor of a", true)(impl.IsAncestor(b, base, a))
			isTold(t, "an ancestor of k", true)(impl.IsAncestor(b, base, k))
			for _, other := range bases {
				isTold(t, "of another base", base == other)(impl.IsAncestor(b, base, other))
			}
		}
		same(t, "in order", slices.IsSortedFunc(bases, func(a, b impl.Key) int { return int(impl.CompareKeys(a, b)) }), true)
	}
}
