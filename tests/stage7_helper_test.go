package tests

import (
	"maps"
	"math/rand/v2"
	"slices"
	"testing"

	"loop.example/g01174/impl"
)

// plainCommit is ValidCommit as the document tells it.
func plainCommit(c impl.Commit) bool {
	for i := range c.Parents {
		if i > 0 && !before(c.Parents[i-1], c.Parents[i]) {
			return false
		}
	}
	return len(c.Parents) <= 3 && c.Number >= 0 && c.Number <= 40 && len(c.Note) <= 64
}

// plainData is CommitData as the document tells it.
func plainData(c impl.Commit) []byte {
	return slices.Concat([]byte{byte(len(c.Parents) + 1)}, c.Root[:], keyBytes(c.Parents...), []byte{byte(c.Number)}, []byte(c.Note))
}

// plainCommitKey is CommitKey as the document tells it.
func plainCommitKey(c impl.Commit) impl.Key {
	return plainHash(7, plainData(c))
}

// plainCommitOf returns the valid commit with some data, and whether there is one.
func plainCommitOf(data []byte) (impl.Commit, bool) {
	if len(data) == 0 || data[0] < 1 || data[0] > 4 || len(data) < 2+32*int(data[0]) {
		return impl.Commit{}, false
	}
	keys := cutKeys(data[1:], int(data[0]))
	rest := data[1+32*len(keys):]
	c := impl.Commit{Root: keys[0], Parents: keys[1:], Number: int64(rest[0]), Note: string(rest[1:])}
	if !plainCommit(c) {
		return impl.Commit{}, false
	}
	return c, true
}

// equalCommits reports whether two commits are equal.
func equalCommits(a, b impl.Commit) bool {
	return a.Root == b.Root && slices.Equal(a.Parents, b.Parents) && a.Number == b.Number && a.Note == b.Note
}

// equalBooks reports whether two books are equal.
func equalBooks(a, b impl.Book) bool {
	return slices.EqualFunc(a.Commits, b.Commits, equalCommits) && slices.EqualFunc(a.Maps, b.Maps, slices.Equal)
}

// ascending returns keys in order, each once.
func ascending(keys ...impl.Key) []impl.Key {
	return slices.Compact(sortedKeys(slices.Values(keys)))
}

// copiedBook returns a book that shares no memory with b.
func copiedBook(b impl.Book) impl.Book {
	var own impl.Book
	for _, c := range b.Commits {
		c.Parents = slices.Clone(c.Parents)
		own.Commits = append(own.Commits, c)
	}
	for _, list := range b.Maps {
		own.Maps = append(own.Maps, slices.Clone(list))
	}
	return own
}

// commitKeys returns the keys of the commits of a book, in their order.
func commitKeys(b impl.Book) []impl.Key {
	var keys []impl.Key
	for _, c := range b.Commits {
		keys = append(keys, plainCommitKey(c))
	}
	return keys
}

// plainAdd returns a book with a further commit, as the document tells it, and its key. All parents are there.
func plainAdd(b impl.Book, parents []impl.Key, list []impl.Entry, note string) (impl.Book, impl.Key) {
	own := copiedBook(b)
	c := impl.Commit{Root: plainMapKey(list), Parents: ascending(parents...), Note: note}
	for i, k := range commitKeys(b) {
		if slices.Contains(parents, k) {
			c.Number = max(c.Number, b.Commits[i].Number+1)
		}
	}
	own.Commits = append(own.Commits, c)
	own.Maps = append(own.Maps, slices.Clone(list))
	return own, plainCommitKey(c)
}

// bookOf returns a book in which the parents of each commit are those at some places, and its keys. The word is in all
// notes, so that the keys of two books with different words have other orders.
func bookOf(word string, parents ...[]int) (impl.Book, []impl.Key) {
	var b impl.Book
	var keys []impl.Key
	for i, places := range parents {
		var k impl.Key
		b, k = plainAdd(b, keysAt(keys, places), entries("n", numbered("v", i)), numbered(word, i))
		keys = append(keys, k)
	}
	return b, keys
}

// keysAt returns the keys at some places.
func keysAt(keys []impl.Key, places []int) []impl.Key {
	var some []impl.Key
	for _, place := range places {
		some = append(some, keys[place])
	}
	return some
}

// chainOfCommits returns a book of n commits, each being the parent of the next one, and its keys.
func chainOfCommits(word string, n int) (impl.Book, []impl.Key) {
	parents := [][]int{nil}
	for i := 1; i < n; i++ {
		parents = append(parents, []int{i - 1})
	}
	return bookOf(word, parents[:n]...)
}

// fullBook returns a book with MaxCommits commits without parents, and its keys.
func fullBook() (impl.Book, []impl.Key) {
	return bookOf("full", make([][]int, impl.MaxCommits)...)
}

// shapes returns books of several shapes, by their names: what the parents of each commit are.
func shapes() map[string][][]int {
	return map[string][][]int{
		"nothing":                   nil,
		"one":                       {nil},
		"a chain":                   {nil, {0}, {1}, {2}, {3}},
		"two branches":              {nil, {0}, {1}, {0}, {3}},
		"a commit with two parents": {nil, {0}, {0}, {1, 2}},
		"three parents":             {nil, {0}, {0}, {0}, {1, 2, 3}, {4}},
		"three beginnings":          {nil, nil, nil, {0, 1, 2}, {0, 1}, {1, 2}},
		"crossed":                   {nil, {0}, {0}, {1, 2}, {1, 2}, {3, 4}},
		"crossed twice":             {nil, {0}, {0}, {1, 2}, {1, 2}, {3, 4}, {3, 4}},
		"crossed by three":          {nil, {0}, {0}, {0}, {1, 2, 3}, {1, 2, 3}},
		"crossed beginnings":        {nil, nil, {0, 1}, {0, 1}},
		"nothing in common":         {nil, {0}, nil, {2}, {1}, {3}},
		"joined later":              {nil, {0}, nil, {2}, {1, 3}, {4}},
		"a parent and its parent":   {nil, {0}, {0, 1}, {0, 1, 2}},
		"a short and a long way":    {nil, {0}, {1}, {0}, {2, 3}, {2, 4}},
		"two equal ways":            {nil, {0}, {0}, {1}, {2}, {3, 4}},
		"many equal ways":           {nil, {0}, {0}, {0}, {1, 2, 3}, {1, 2, 3}, {1, 2, 3}, {4, 5, 6}, {7, 6}},
		"bases at several heights":  {nil, {0}, {1}, {0}, {2, 3}, {2, 3}, {4}, {5}},
		"all alone":                 {nil, nil, nil, nil},
	}
}

// someBook returns a book of n commits that looks random, with maps of few names.
func someBook(r *rand.Rand, n int) impl.Book {
	var b impl.Book
	for i := range n {
		keys := commitKeys(b)
		var parents []impl.Key
		for range min(i, r.IntN(4)) {
			parents = append(parents, keys[max(0, i-1-r.IntN(5))])
		}
		values := map[string]string{}
		for range r.IntN(5) {
			values[string(rune('a'+r.IntN(4)))] = string(fewBytes(r, r.IntN(2)))
		}
		b, _ = plainAdd(b, parents, mapOf(values), numbered("", i))
	}
	return b
}

// booksTried returns books of all shapes with several words, and some that look random.
func booksTried(seed uint64) map[string]impl.Book {
	r := chance(seed)
	books := map[string]impl.Book{}
	for name, shape := range shapes() {
		for i := range 4 {
			books[numbered(name, i)], _ = bookOf(numbered(name, i), shape...)
		}
	}
	for i := range 12 {
		books[numbered("a book that looks random", i)] = someBook(r, 4+i%7)
	}
	return books
}

// parentsIn returns the parents of the commit with a key.
func parentsIn(b impl.Book, k impl.Key) []impl.Key {
	return b.Commits[slices.Index(commitKeys(b), k)].Parents
}

// mapIn returns the map of the commit with a key.
func mapIn(b impl.Book, k impl.Key) []impl.Entry {
	return b.Maps[slices.Index(commitKeys(b), k)]
}

// plainAncestors returns the ancestors of a commit: parents come before their children in a book.
func plainAncestors(b impl.Book, k impl.Key) map[impl.Key]bool {
	up := map[impl.Key]bool{k: true}
	for i, here := range slices.Backward(commitKeys(b)) {
		for _, p := range b.Commits[i].Parents {
			up[p] = up[p] || up[here]
		}
	}
	maps.DeleteFunc(up, func(_ impl.Key, is bool) bool { return !is })
	return up
}

// plainHeads is HeadsOf as the document tells it.
func plainHeads(b impl.Book) []impl.Key {
	var heads []impl.Key
	for _, k := range commitKeys(b) {
		if !slices.ContainsFunc(b.Commits, func(c impl.Commit) bool { return slices.Contains(c.Parents, k) }) {
			heads = append(heads, k)
		}
	}
	return ascending(heads...)
}

// plainBases is BasesOf as the document tells it.
func plainBases(b impl.Book, a, k impl.Key) []impl.Key {
	common := plainAncestors(b, a)
	maps.DeleteFunc(common, func(c impl.Key, _ bool) bool { return !plainAncestors(b, k)[c] })
	var bases []impl.Key
	for base := range common {
		last := true
		for other := range common {
			last = last && (other == base || !plainAncestors(b, other)[base])
		}
		if last {
			bases = append(bases, base)
		}
	}
	return ascending(bases...)
}

// waysIn returns all ways from a commit to another one.
func waysIn(b impl.Book, a, k impl.Key) [][]impl.Key {
	if a == k {
		return [][]impl.Key{{a}}
	}
	var ways [][]impl.Key
	for _, p := range parentsIn(b, k) {
		for _, way := range waysIn(b, a, p) {
			ways = append(ways, append(way, k))
		}
	}
	return ways
}

// plainWay is WayTo as the document tells it; it is nil if there is no way.
func plainWay(b impl.Book, a, k impl.Key) []impl.Key {
	ways := waysIn(b, a, k)
	if len(ways) == 0 {
		return nil
	}
	return slices.MinFunc(ways, func(v, w []impl.Key) int {
		if len(v) != len(w) {
			return len(v) - len(w)
		}
		return slices.Compare(keyBytes(v...), keyBytes(w...))
	})
}

// has returns the change that tells what a map has for a name, HadOld being false.
func has(list []impl.Entry, name string) impl.Change {
	value, found := valuesOf(list)[name]
	return impl.Change{Name: name, HasNew: found, New: value}
}

// plainMerge is MergeMaps as the document tells it, but without a limit.
func plainMerge(base, ours, theirs []impl.Entry) ([]impl.Entry, []impl.Conflict) {
	merged := valuesOf(base)
	var conflicts []impl.Conflict
	for _, e := range mapOf(valuesOf(slices.Concat(base, ours, theirs))) {
		c := impl.Conflict{Name: e.Name, Base: has(base, e.Name), Ours: has(ours, e.Name), Theirs: has(theirs, e.Name)}
		chosen := c.Base
		switch {
		case c.Ours != c.Base && c.Theirs != c.Base && c.Ours != c.Theirs:
			conflicts = append(conflicts, c)
		case c.Ours != c.Base:
			chosen = c.Ours
		case c.Theirs != c.Base:
			chosen = c.Theirs
		}
		merged[e.Name] = chosen.New
		if !chosen.HasNew {
			delete(merged, e.Name)
		}
	}
	return mapOf(merged), conflicts
}

// sidesExchanged returns conflicts in which ours is theirs.
func sidesExchanged(conflicts []impl.Conflict) []impl.Conflict {
	var list []impl.Conflict
	for _, c := range conflicts {
		c.Ours, c.Theirs = c.Theirs, c.Ours
		list = append(list, c)
	}
	return list
}

// isMerged fails the test if a function that merges maps does not return a map, conflicts and OK.
func isMerged(t *testing.T, name string, want []impl.Entry, conflicts ...impl.Conflict) func([]impl.Entry, []impl.Conflict, int64) {
	return func(list []impl.Entry, got []impl.Conflict, code int64) {
		t.Helper()
		isMap(t, name, want)(list, code)
		sameList(t, name+": conflicts", got, conflicts)
	}
}

// isNotMerged fails the test if a function that merges maps does not return an error and nothing else.
func isNotMerged(t *testing.T, name string, want int64) func([]impl.Entry, []impl.Conflict, int64) {
	return func(list []impl.Entry, conflicts []impl.Conflict, code int64) {
		t.Helper()
		isNone[impl.Entry](t, name, want)(list, code)
		same(t, name+": conflicts", len(conflicts), 0)
	}
}

// sameBook fails the test if got is not want.
func sameBook(t *testing.T, name string, got, want impl.Book) {
	t.Helper()
	if !equalBooks(got, want) {
		t.Errorf("%s: got a book of %d commits, want one of %d: got %v, want %v", name, len(got.Commits), len(want.Commits), got, want)
	}
}

// isCommitted fails the test if a function that commits does not return a book, a key and OK.
func isCommitted(t *testing.T, name string, want impl.Book, key impl.Key) func(impl.Book, impl.Key, int64) {
	return func(got impl.Book, k impl.Key, code int64) {
		t.Helper()
		same(t, name+": code", code, impl.OK)
		same(t, name+": key", k, key)
		sameBook(t, name, got, want)
	}
}

// isNotCommitted fails the test if a function that commits does not return an error and nothing else.
func isNotCommitted(t *testing.T, name string, want int64) func(impl.Book, impl.Key, int64) {
	return func(got impl.Book, k impl.Key, code int64) {
		t.Helper()
		same(t, name+": code", code, want)
		same(t, name+": key", k, impl.Key{})
		sameBook(t, name, got, impl.Book{})
	}
}

// areMerged fails the test if a function that merges commits does not return a book, a key, conflicts and OK.
func areMerged(t *testing.T, name string, want impl.Book, key impl.Key, conflicts ...impl.Conflict) func(impl.Book, impl.Key, []impl.Conflict, int64) {
	return func(got impl.Book, k impl.Key, told []impl.Conflict, code int64) {
		t.Helper()
		isCommitted(t, name, want, key)(got, k, code)
		sameList(t, name+": conflicts", told, conflicts)
	}
}

// areNotMerged fails the test if a function that merges commits does not return an error and nothing else.
func areNotMerged(t *testing.T, name string, want int64) func(impl.Book, impl.Key, []impl.Conflict, int64) {
	return func(got impl.Book, k impl.Key, told []impl.Conflict, code int64) {
		t.Helper()
		isNotCommitted(t, name, want)(got, k, code)
		same(t, name+": conflicts", len(told), 0)
	}
}

// isCommit fails the test if a function that returns a commit does not return want and OK.
func isCommit(t *testing.T, name string, want impl.Commit) func(impl.Commit, int64) {
	return func(got impl.Commit, code int64) {
		t.Helper()
		same(t, name+": code", code, impl.OK)
		if !equalCommits(got, want) {
			t.Errorf("%s: got %v, want %v", name, got, want)
		}
	}
}

// isNoCommit fails the test if a function that returns a commit does not return an error and nothing else.
func isNoCommit(t *testing.T, name string, want int64) func(impl.Commit, int64) {
	return func(got impl.Commit, code int64) {
		t.Helper()
		same(t, name+": code", code, want)
		if !equalCommits(got, impl.Commit{}) {
			t.Errorf("%s: got %v, want nothing", name, got)
		}
	}
}
