package tests

import (
	"slices"
	"strings"
	"testing"

	"loop.example/g01174/impl"
)

// areChanges fails the test if a function that returns changes does not return want and OK.
func areChanges(t *testing.T, name string, want ...impl.Change) func([]impl.Change, int64) {
	return func(got []impl.Change, code int64) {
		t.Helper()
		same(t, name+": code", code, impl.OK)
		sameList(t, name, got, want)
	}
}

// mapBefore returns the map of the first parent of a commit, which is the empty one if it has none.
func mapBefore(b impl.Book, k impl.Key) []impl.Entry {
	if parents := parentsIn(b, k); len(parents) > 0 {
		return mapIn(b, parents[0])
	}
	return nil
}

// plainUndo is UndoCommit as the document tells it.
func plainUndo(b impl.Book, head, k impl.Key, note string) (impl.Book, impl.Key, int64) {
	keys := commitKeys(b)
	switch {
	case !plainBook(b):
		return impl.Book{}, impl.Key{}, impl.ErrInvalid
	case !slices.Contains(keys, head) || !slices.Contains(keys, k):
		return impl.Book{}, impl.Key{}, impl.ErrNotFound
	case !plainAncestors(b, head)[k]:
		return impl.Book{}, impl.Key{}, impl.ErrState
	}
	undone := valuesOf(mapIn(b, head))
	for _, c := range plainChanges(mapBefore(b, k), mapIn(b, k)) {
		if has(mapIn(b, head), c.Name) != has(mapIn(b, k), c.Name) {
			return impl.Book{}, impl.Key{}, impl.ErrState
		}
		undone[c.Name] = c.Old
		if !c.HadOld {
			delete(undone, c.Name)
		}
	}
	if len(undone) > impl.MaxEntries {
		return impl.Book{}, impl.Key{}, impl.ErrLimit
	}
	return plainCommitMap(b, []impl.Key{head}, mapOf(undone), note)
}

// checkUndo checks what UndoCommit returns, and returns its error.
func checkUndo(t *testing.T, name string, b impl.Book, head, k impl.Key, note string) int64 {
	t.Helper()
	want, key, code := plainUndo(b, head, k, note)
	if code != impl.OK {
		isNotCommitted(t, name, code)(impl.UndoCommit(b, head, k, note))
		return code
	}
	isCommitted(t, name, want, key)(impl.UndoCommit(b, head, k, note))
	return code
}

// line returns a book of commits with some maps, each being the parent of the next one, and its keys.
func line(maps ...[]impl.Entry) (impl.Book, []impl.Key) {
	var b impl.Book
	var keys []impl.Key
	for i, list := range maps {
		var k impl.Key
		b, k = plainAdd(b, keys[max(0, i-1):], list, numbered("line", i))
		keys = append(keys, k)
	}
	return b, keys
}

// isUndone fails the test if what is undone does not give the head some map.
func isUndone(t *testing.T, name string, b impl.Book, head, k impl.Key, want []impl.Entry) {
	t.Helper()
	more, key := plainAdd(b, []impl.Key{head}, want, "undo")
	isCommitted(t, name, more, key)(impl.UndoCommit(b, head, k, "undo"))
	same(t, name+": plain", checkUndo(t, name, b, head, k, "undo"), impl.OK)
}

func TestWhatACommitHasChanged(t *testing.T) {
	b, keys := line(entries("a", "1", "b", "2"), entries("a", "1", "b", "3", "c", ""), entries("a", "1", "c", ""), entries("a", "1", "c", ""), nil)
	areChanges(t, "without parents", added("a", "1"), added("b", "2"))(impl.ChangesAt(b, keys[0]))
	areChanges(t, "a value and a name", given("b", "2", "3"), added("c", ""))(impl.ChangesAt(b, keys[1]))
	areChanges(t, "deleted", dropped("b", "3"))(impl.ChangesAt(b, keys[2]))
	areChanges(t, "nothing")(impl.ChangesAt(b, keys[3]))
	areChanges(t, "all deleted", dropped("a", "1"), dropped("c", ""))(impl.ChangesAt(b, keys[4]))
	for _, k := range []impl.Key{{}, flipped(keys[1], 255), b.Commits[1].Root} {
		isNone[impl.Change](t, "no commit", impl.ErrNotFound)(impl.ChangesAt(b, k))
	}
	isNone[impl.Change](t, "no book", impl.ErrNotFound)(impl.ChangesAt(impl.Book{}, impl.Key{}))
}

func TestChangesAreThoseOfTheFirstParent(t *testing.T) {
	firsts := map[int]int{}
	for i := range 30 {
		word := numbered("parents", i)
		b, keys := bookOf(word, nil, nil, nil)
		b, two := plainAdd(b, keys[:2], entries("n", "two"), word)
		b, three := plainAdd(b, keys, entries("n", "three"), word)
		first := 0
		if before(keys[1], keys[0]) {
			first = 1
		}
		areChanges(t, "two parents", given("n", numbered("v", first), "two"))(impl.ChangesAt(b, two))
		if before(keys[2], keys[first]) {
			first = 2
		}
		areChanges(t, "three parents", given("n", numbered("v", first), "three"))(impl.ChangesAt(b, three))
		firsts[first]++
	}
	if len(firsts) != 3 {
		t.Errorf("the first parents are %v", firsts)
	}
}

func TestChangesOfAnyCommit(t *testing.T) {
	for name, b := range booksTried(751) {
		for _, k := range commitKeys(b) {
			areChanges(t, name, plainChanges(mapBefore(b, k), mapIn(b, k))...)(impl.ChangesAt(b, k))
		}
	}
	tried := mapsTried(752)
	for i := 0; i+5 < len(tried); i += 5 {
		b, keys := line(tried[i : i+5]...)
		for n, k := range keys {
			areChanges(t, numbered("maps", i, n), plainChanges(mapBefore(b, k), mapIn(b, k))...)(impl.ChangesAt(b, k))
		}
	}
}

func TestTheHeadIsUndone(t *testing.T) {
	b, keys := line(entries("a", "1", "b", "2"), entries("a", "2", "c", "3"), entries("a", "2", "c", "3"))
	isUndone(t, "what has been changed, deleted and added", b, keys[1], keys[1], entries("a", "1", "b", "2"))
	isUndone(t, "nothing", b, keys[2], keys[2], entries("a", "2", "c", "3"))
	isUndone(t, "the beginning", b, keys[0], keys[0], nil)
	again, k := plainAdd(b, keys[1:2], entries("a", "1", "b", "2"), "undo")
	isUndone(t, "what has undone it", again, k, k, entries("a", "2", "c", "3"))
}

func TestEarlierCommitsAreUndone(t *testing.T) {
	b, keys := line(entries("a", "1", "b", "2"), entries("a", "2", "c", "3"), entries("a", "2", "c", "3", "d", "4"), entries("a", "2", "c", "3", "e", "5"))
	for i, want := range [][]impl.Entry{entries("a", "1", "b", "2"), entries("a", "1", "b", "2", "d", "4"), entries("a", "1", "b", "2", "e", "5")} {
		isUndone(t, numbered("the second one", i), b, keys[i+1], keys[1], want)
	}
	isUndone(t, "the third one at itself", b, keys[2], keys[2], entries("a", "2", "c", "3"))
	isUndone(t, "the last one", b, keys[3], keys[3], entries("a", "2", "c", "3", "d", "4"))
	b, keys = line(entries("a", "1"), entries("a", "1", "b", "1"), entries("a", "1", "b", "2"))
	isUndone(t, "the beginning, of which nothing has been changed since", b, keys[2], keys[0], entries("b", "2"))
	b, keys = line(entries("a", "1"), entries("a", "2"), entries("a", "3"), entries("a", "2", "b", ""))
	isUndone(t, "what has come back", b, keys[3], keys[1], entries("a", "1", "b", ""))
	b, keys = line(entries("a", "1", "b", "1"), entries("b", "1"), entries("a", "3", "b", "1"), entries("b", "2"))
	isUndone(t, "what has been deleted again", b, keys[3], keys[1], entries("a", "1", "b", "2"))
	b, keys = line(entries("a", "1"), entries("a", ""), entries("a", "", "b", "1"))
	isUndone(t, "a value without bytes", b, keys[2], keys[1], entries("a", "1", "b", "1"))
}

func TestWhatHasBeenChangedSinceIsNotUndone(t *testing.T) {
	long := strings.Repeat("n", impl.MaxNote+1)
	for i, try := range []struct {
		maps [][]impl.Entry
		k    int
	}{
		{[][]impl.Entry{entries("a", "1"), entries("a", "2"), entries("a", "3")}, 1},
		{[][]impl.Entry{entries("a", "1"), entries("a", "2"), entries("a", "1")}, 1}, // what it had before is there already
		{[][]impl.Entry{entries("a", "1"), entries("a", "2"), nil}, 1},
		{[][]impl.Entry{entries("a", "1"), entries("a", "2"), nil}, 0},
		{[][]impl.Entry{entries("a", "1"), nil}, 0},
		{[][]impl.Entry{entries("a", "1"), nil, entries("a", "1")}, 1},
		{[][]impl.Entry{entries("a", "1"), nil, entries("a", "")}, 1},
		{[][]impl.Entry{entries("a", "1", "b", "1"), entries("a", "2", "b", "2"), entries("a", "2", "b", "3")}, 1},
		{[][]impl.Entry{entries("a", "1", "b", "1"), entries("a", "2", "b", "2"), entries("a", "1", "b", "2")}, 1},
		{[][]impl.Entry{entries("a", "1"), entries("a", "1", "b", ""), entries("a", "1")}, 1},
		{[][]impl.Entry{entries("a", "1"), entries("a", "1", "b", ""), entries("a", "1", "b", "x")}, 1},
	} {
		b, keys := line(try.maps...)
		head := keys[len(keys)-1]
		isNotCommitted(t, numbered("changed since", i), impl.ErrState)(impl.UndoCommit(b, head, keys[try.k], ""))
		isNotCommitted(t, numbered("changed since, and a long note", i), impl.ErrState)(impl.UndoCommit(b, head, keys[try.k], long))
		isNotCommitted(t, numbered("changed since, and a full book", i), impl.ErrState)(impl.UndoCommit(filled(b, impl.MaxCommits), head, keys[try.k], ""))
		same(t, numbered("plain", i), checkUndo(t, numbered("changed since", i), b, head, keys[try.k], ""), impl.ErrState)
	}
}

func TestOnlyAncestorsAreUndone(t *testing.T) {
	long := strings.Repeat("n", impl.MaxNote+1)
	b, keys := bookOf("undo", nil, []int{0}, []int{0}, []int{1}, nil)
	for _, pair := range [][2]int{{0, 1}, {1, 2}, {2, 1}, {1, 3}, {3, 2}, {2, 3}, {4, 0}, {0, 4}, {3, 4}} {
		name := numbered("no ancestor", pair[0], pair[1])
		isNotCommitted(t, name, impl.ErrState)(impl.UndoCommit(b, keys[pair[0]], keys[pair[1]], ""))
		isNotCommitted(t, name+", and a long note", impl.ErrState)(impl.UndoCommit(b, keys[pair[0]], keys[pair[1]], long))
	}
	b, keys = line(entries("a", "1"), entries("a", "1"), entries("a", "1"))
	isNotCommitted(t, "a child that changes nothing", impl.ErrState)(impl.UndoCommit(b, keys[0], keys[1], ""))
	for _, other := range []impl.Key{{}, flipped(keys[1], 255), b.Commits[1].Root} {
		isNotCommitted(t, "no head", impl.ErrNotFound)(impl.UndoCommit(b, other, keys[1], ""))
		isNotCommitted(t, "no commit", impl.ErrNotFound)(impl.UndoCommit(b, keys[1], other, long))
		isNotCommitted(t, "none of both", impl.ErrNotFound)(impl.UndoCommit(b, other, other, ""))
	}
}

// TestMergesAreUndone shows that it is the first parent to whose map a merge is undone.
func TestMergesAreUndone(t *testing.T) {
	for i := range 12 {
		b, a, k := branches(entries("x", "1"), entries("x", "2"), entries("x", "1", "y", numbered("", i)))
		b, merged := plainAdd(b, []impl.Key{a, k}, entries("x", "2", "y", numbered("", i)), "merged")
		want := mapIn(b, ascending(a, k)[0])
		isUndone(t, "a merge", b, merged, merged, want)
		isUndone(t, "one side behind a merge", b, merged, a, entries("x", "1", "y", numbered("", i)))
		isUndone(t, "the other side behind a merge", b, merged, k, entries("x", "2"))
	}
}

func TestUndoneMapsHaveALimit(t *testing.T) {
	full := countedMap(impl.MaxEntries)
	z := entries("z", "1")
	long := strings.Repeat("n", impl.MaxNote+1)
	b, keys := line(full, full[1:], slices.Concat(full[1:], z))
	for n, book := range []impl.Book{b, filled(b, impl.MaxCommits)} {
		isNotCommitted(t, numbered("one too many", n), impl.ErrLimit)(impl.UndoCommit(book, keys[2], keys[1], ""))
		isNotCommitted(t, numbered("one too many, and a long note", n), impl.ErrLimit)(impl.UndoCommit(book, keys[2], keys[1], long))
	}
	isUndone(t, "as many as there may be", b, keys[1], keys[1], full)
	isUndone(t, "what has been added", b, keys[2], keys[2], full[1:])
	b, keys = line(full, slices.Concat(full[1:], z), slices.Concat(full[1:63], entries("n63", "other"), z))
	isUndone(t, "a name that is put before one is deleted", b, keys[1], keys[1], full)
	isUndone(t, "the same later", b, keys[2], keys[1], slices.Concat(full[:63], entries("n63", "other")))
	b, keys = line(full, slices.Concat(entries("a", "1"), full[:63]))
	isUndone(t, "a name that is deleted before one is put", b, keys[1], keys[1], full)
	b, keys = line(full, full[32:], slices.Concat(full[32:], otherCountedMap("y", 32)))
	isUndone(t, "many back", b, keys[1], keys[1], full)
	isNotCommitted(t, "many too many", impl.ErrLimit)(impl.UndoCommit(b, keys[2], keys[1], ""))
	b, keys = line(full, full[32:], slices.Concat(full[32:63], entries("n63", "x"), otherCountedMap("y", 32)), slices.Concat(entries("n00", "x"), full[32:], otherCountedMap("y", 31)))
	isNotCommitted(t, "too many, but not changed since", impl.ErrLimit)(impl.UndoCommit(b, keys[2], keys[1], ""))
	isNotCommitted(t, "too many, and changed since", impl.ErrState)(impl.UndoCommit(b, keys[3], keys[1], ""))
}

func TestErrorsOfUndoCommit(t *testing.T) {
	long := strings.Repeat("n", impl.MaxNote+1)
	b, keys := line(entries("a", "1"), entries("a", "2"), entries("a", "2", "b", "1"))
	for _, n := range []int{0, impl.MaxNote} {
		same(t, numbered("note", n), checkUndo(t, numbered("note", n), b, keys[2], keys[1], long[:n]), impl.OK)
	}
	same(t, "a long note", checkUndo(t, "a long note", b, keys[2], keys[1], long), impl.ErrRange)
	nearly, full := filled(b, impl.MaxCommits-1), filled(b, impl.MaxCommits)
	same(t, "nearly full", checkUndo(t, "nearly full", nearly, keys[2], keys[1], ""), impl.OK)
	same(t, "full", checkUndo(t, "full", full, keys[2], keys[1], ""), impl.ErrLimit)
	same(t, "full, and a long note", checkUndo(t, "full, and a long note", full, keys[2], keys[1], long), impl.ErrRange)
	again, _ := plainAdd(b, keys[2:], entries("a", "1", "b", "1"), "undo")
	same(t, "undone again", checkUndo(t, "undone again", again, keys[2], keys[1], "undo"), impl.ErrState)
	same(t, "undone again with another note", checkUndo(t, "undone again with another note", again, keys[2], keys[1], "again"), impl.OK)
	same(t, "undone again in a full book", checkUndo(t, "undone again in a full book", filled(again, impl.MaxCommits), keys[2], keys[1], "undo"), impl.ErrLimit)
	wrong := copiedBook(b)
	wrong.Maps[0] = nil
	same(t, "a wrong book", checkUndo(t, "a wrong book", wrong, keys[2], keys[1], long), impl.ErrInvalid)
}

func TestAnyCommitsAreUndone(t *testing.T) {
	r := chance(753)
	told := map[int64]int{}
	for range 60 {
		b := someBook(r, 3+r.IntN(6))
		for _, head := range commitKeys(b) {
			for _, k := range commitKeys(b) {
				told[checkUndo(t, "any two", b, head, k, "undo")]++
			}
		}
	}
	if told[impl.OK] < 100 || told[impl.ErrState] < 100 {
		t.Errorf("too few of all: %v", told)
	}
}

// TestWhatIsUndoneIsAsBefore is a guarantee of the document.
func TestWhatIsUndoneIsAsBefore(t *testing.T) {
	r := chance(754)
	for range 60 {
		b := someBook(r, 6)
		k := commitKeys(b)[r.IntN(6)]
		undone, key, code := impl.UndoCommit(b, k, k, "undo")
		same(t, "code", code, impl.OK)
		sameList(t, "as before", mapIn(undone, key), mapBefore(b, k))
		back, again, code := impl.UndoCommit(undone, key, key, "undo")
		same(t, "code of undoing this", code, impl.OK)
		sameList(t, "as behind it", mapIn(back, again), mapIn(b, k))
		same(t, "valid", impl.ValidBook(back), true)
	}
}
