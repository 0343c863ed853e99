package tests

import (
	"math/rand/v2"
	"slices"
	"strings"
	"testing"

	"loop.example/g01174/impl"
)

// held returns the change of a conflict that tells of a name that a map has a value for it.
func held(name, value string) impl.Change {
	return impl.Change{Name: name, HasNew: true, New: value}
}

// heldNot returns the change of a conflict that tells of a name that a map has no value for it.
func heldNot(name string) impl.Change {
	return impl.Change{Name: name}
}

// checkMerged checks what MergeMaps returns, and returns its error.
func checkMerged(t *testing.T, name string, base, ours, theirs []impl.Entry) int64 {
	t.Helper()
	list, conflicts := plainMerge(base, ours, theirs)
	if len(list) > impl.MaxEntries {
		isNotMerged(t, name, impl.ErrLimit)(impl.MergeMaps(base, ours, theirs))
		isNotMerged(t, name+" exchanged", impl.ErrLimit)(impl.MergeMaps(base, theirs, ours))
		return impl.ErrLimit
	}
	isMerged(t, name, list, conflicts...)(impl.MergeMaps(base, ours, theirs))
	isMerged(t, name+" exchanged", list, sidesExchanged(conflicts)...)(impl.MergeMaps(base, theirs, ours))
	return impl.OK
}

// waysToHold returns what a map may have for the name "k".
func waysToHold() [][]impl.Entry {
	return [][]impl.Entry{nil, entries("k", ""), entries("k", "1"), entries("k", "2"), entries("k", "22")}
}

func TestEachWayToHoldANameIsMerged(t *testing.T) {
	for i, base := range waysToHold() {
		for k, ours := range waysToHold() {
			for m, theirs := range waysToHold() {
				name := numbered("held", i, k, m)
				want, conflicts := base, []impl.Conflict{{Name: "k", Base: has(base, "k"), Ours: has(ours, "k"), Theirs: has(theirs, "k")}}
				switch {
				case k == m, m == i:
					want, conflicts = ours, nil
				case k == i:
					want, conflicts = theirs, nil
				}
				isMerged(t, name, want, conflicts...)(impl.MergeMaps(base, ours, theirs))
				checkMerged(t, name, base, ours, theirs)
				around := func(list []impl.Entry) []impl.Entry {
					return slices.Concat(entries("a", "1", "j\xff", ""), list, entries("k\x00", "k", "z", "2"))
				}
				isMerged(t, name+" among others", around(want), conflicts...)(impl.MergeMaps(around(base), around(ours), around(theirs)))
			}
		}
	}
}

func TestWhatOneSideAloneHasChanged(t *testing.T) {
	base := entries("a", "1", "b", "1", "c", "1", "d", "1")
	for _, try := range []struct {
		name         string
		ours, theirs []impl.Entry
		want         []impl.Entry
	}{
		{"nothing", base, base, base},
		{"ours has changed a value", entries("a", "2", "b", "1", "c", "1", "d", "1"), base, entries("a", "2", "b", "1", "c", "1", "d", "1")},
		{"ours has deleted", base[1:], base, base[1:]},
		{"ours has deleted all", nil, base, nil},
		{"ours has added", slices.Concat(base, entries("e", "")), base, slices.Concat(base, entries("e", ""))},
		{"both have changed other names", slices.Concat(entries("a", "2"), base[1:]), slices.Concat(base[:3], entries("d", "3")), entries("a", "2", "b", "1", "c", "1", "d", "3")},
		{"both have deleted other names", base[1:], base[:2], base[1:2]},
		{"both have added other names", slices.Concat(base, entries("x", "1")), slices.Concat(entries("0", "2"), base), slices.Concat(entries("0", "2"), base, entries("x", "1"))},
		{"both have changed alike", slices.Concat(entries("a", "2"), base[2:], entries("e", "5")), slices.Concat(entries("a", "2"), base[2:], entries("e", "5")), entries("a", "2", "c", "1", "d", "1", "e", "5")},
		{"one has deleted, the other one changed another name", base[2:], slices.Concat(base[:3], entries("d", "")), entries("c", "1", "d", "")},
	} {
		isMerged(t, try.name, try.want)(impl.MergeMaps(base, try.ours, try.theirs))
		isMerged(t, try.name+" exchanged", try.want)(impl.MergeMaps(base, try.theirs, try.ours))
	}
}

func TestConflictsTellWhatTheThreeHave(t *testing.T) {
	isMerged(t, "the example", entries("x", "1"), impl.Conflict{Name: "x", Base: held("x", "1"), Ours: held("x", "2"), Theirs: held("x", "3")})(
		impl.MergeMaps(entries("x", "1"), entries("x", "2"), entries("x", "3")))
	isMerged(t, "deleted and changed", entries("x", "1"), impl.Conflict{Name: "x", Base: held("x", "1"), Ours: heldNot("x"), Theirs: held("x", "3")})(
		impl.MergeMaps(entries("x", "1"), nil, entries("x", "3")))
	isMerged(t, "changed and deleted", entries("x", "1"), impl.Conflict{Name: "x", Base: held("x", "1"), Ours: held("x", ""), Theirs: heldNot("x")})(
		impl.MergeMaps(entries("x", "1"), entries("x", ""), nil))
	isMerged(t, "added", nil, impl.Conflict{Name: "x", Base: heldNot("x"), Ours: held("x", "2"), Theirs: held("x", "")})(
		impl.MergeMaps(nil, entries("x", "2"), entries("x", "")))
	isMerged(t, "several, in order", entries("b", "1", "c", "1", "d", "9"),
		impl.Conflict{Name: "a", Base: heldNot("a"), Ours: held("a", "1"), Theirs: held("a", "2")},
		impl.Conflict{Name: "b", Base: held("b", "1"), Ours: held("b", "2"), Theirs: heldNot("b")},
		impl.Conflict{Name: "c", Base: held("c", "1"), Ours: heldNot("c"), Theirs: held("c", "2")},
		impl.Conflict{Name: "z", Base: heldNot("z"), Ours: held("z", "7"), Theirs: held("z", "8")},
	)(impl.MergeMaps(entries("b", "1", "c", "1", "d", "1", "e", "1"), entries("a", "1", "b", "2", "d", "9", "e", "1", "z", "7"), entries("a", "2", "c", "2", "d", "1", "z", "8")))
}

func TestAnyMapsAreMerged(t *testing.T) {
	r := chance(741)
	some := func() []impl.Entry {
		values := map[string]string{}
		for range r.IntN(8) {
			values[string(rune('a'+r.IntN(6)))] = string(fewBytes(r, r.IntN(2)))
		}
		return mapOf(values)
	}
	for range 400 {
		checkMerged(t, "few names", some(), some(), some())
	}
	tried := mapsTried(742)
	for i := range tried {
		for range 6 {
			checkMerged(t, numbered("maps", i), tried[i], tried[r.IntN(len(tried))], tried[r.IntN(len(tried))])
		}
		checkMerged(t, numbered("the same as base", i), tried[i], tried[i], tried[r.IntN(len(tried))])
		checkMerged(t, numbered("both alike", i), tried[r.IntN(len(tried))], tried[i], tried[i])
	}
}

// TestSidesOfOtherNames is a guarantee of the document: there is no conflict if both have changed different names.
func TestSidesOfOtherNames(t *testing.T) {
	r := chance(743)
	for range 200 {
		base := someMap(r, r.IntN(20))
		ours, theirs, both := valuesOf(base), valuesOf(base), valuesOf(base)
		edit := func(side map[string]string, name, value string) {
			side[name], both[name] = value, value
			if r.IntN(3) == 0 {
				delete(side, name)
				delete(both, name)
			}
		}
		for _, e := range base {
			switch r.IntN(3) {
			case 0:
				edit(ours, e.Name, "ours")
			case 1:
				edit(theirs, e.Name, "theirs")
			}
		}
		edit(ours, "a name of ours", "")
		edit(theirs, "a name of theirs", "")
		isMerged(t, "different names", mapOf(both))(impl.MergeMaps(base, mapOf(ours), mapOf(theirs)))
	}
}

func TestMergedMapsHaveALimit(t *testing.T) {
	full := countedMap(impl.MaxEntries)
	z, y := entries("z", "1"), entries("y", "1")
	for i, try := range []struct {
		base, ours, theirs []impl.Entry
		want               int64
	}{
		{full, full, full, impl.OK},
		{nil, full[:40], full[40:], impl.OK},
		{nil, full, full, impl.OK},
		{nil, full, z, impl.ErrLimit},
		{nil, full[1:], z, impl.OK},
		{z, full, z, impl.OK},
		{full, slices.Concat(full[1:], z), slices.Concat(full[1:], y), impl.ErrLimit},
		{full, slices.Concat(full[1:], z), slices.Concat(full[:63], y), impl.OK},
		{full, slices.Concat(full[1:], z), slices.Concat(full[1:], z), impl.OK},
		{full, slices.Concat(full[1:], z), slices.Concat(full[2:], y), impl.OK},
		{full[:63], slices.Concat(full[:63], z), slices.Concat(full[:63], y), impl.ErrLimit},
		{full[:63], slices.Concat(full[:63], z), slices.Concat(full[:63], entries("z", "2")), impl.OK},
		{full[:63], full, slices.Concat(full[:62], entries("n62", "other"), z), impl.ErrLimit},
		{full, slices.Concat(entries("n00", "1"), full[1:]), slices.Concat(full[1:], z), impl.ErrLimit},
		{full, slices.Concat(entries("n00", "1"), full[1:]), slices.Concat(full[2:], z), impl.OK},
		{nil, slices.Concat(full[:63], z), slices.Concat(y, entries("z", "2")), impl.OK},
		{nil, slices.Concat(full[:63], z), slices.Concat(entries("x", ""), y, entries("z", "2")), impl.ErrLimit},
		{nil, full, otherCountedMap("m", impl.MaxEntries), impl.ErrLimit},
	} {
		same(t, numbered("try", i), checkMerged(t, numbered("limit", i), try.base, try.ours, try.theirs), try.want)
	}
}

// otherCountedMap returns a map of n entries, the names of which begin with a word.
func otherCountedMap(word string, n int) []impl.Entry {
	values := map[string]string{}
	for i := range n {
		values[numbered(word, i)] = "v"
	}
	return mapOf(values)
}

func TestMapsThatAreNotMerged(t *testing.T) {
	full, other := countedMap(impl.MaxEntries), otherCountedMap("m", impl.MaxEntries)
	for i, wrong := range wrongMaps() {
		name := numbered("wrong map", i)
		for _, right := range [][]impl.Entry{nil, full} {
			isNotMerged(t, name+" as base", impl.ErrInvalid)(impl.MergeMaps(wrong, right, other))
			isNotMerged(t, name+" as ours", impl.ErrInvalid)(impl.MergeMaps(nil, wrong, right))
			isNotMerged(t, name+" as theirs", impl.ErrInvalid)(impl.MergeMaps(nil, right, wrong))
			isNotMerged(t, name+" as ours and theirs", impl.ErrInvalid)(impl.MergeMaps(right, wrong, wrong))
		}
	}
}

// plainMergeHeads is MergeHeads as the document tells it.
func plainMergeHeads(b impl.Book, a, k impl.Key, note string) (impl.Book, impl.Key, []impl.Conflict, int64) {
	keys := commitKeys(b)
	switch {
	case !plainBook(b):
		return impl.Book{}, impl.Key{}, nil, impl.ErrInvalid
	case !slices.Contains(keys, a) || !slices.Contains(keys, k):
		return impl.Book{}, impl.Key{}, nil, impl.ErrNotFound
	case plainAncestors(b, a)[k] || plainAncestors(b, k)[a]:
		return impl.Book{}, impl.Key{}, nil, impl.ErrState
	}
	var base []impl.Entry
	if bases := plainBases(b, a, k); len(bases) > 0 {
		base = mapIn(b, bases[0])
	}
	list, conflicts := plainMerge(base, mapIn(b, a), mapIn(b, k))
	switch {
	case len(list) > impl.MaxEntries:
		return impl.Book{}, impl.Key{}, nil, impl.ErrLimit
	case len(conflicts) > 0:
		return b, impl.Key{}, conflicts, impl.OK
	}
	more, key, code := plainCommitMap(b, []impl.Key{a, k}, list, note)
	return more, key, nil, code
}

// checkMergeHeads checks what MergeHeads returns, and returns whether there are conflicts, and its error.
func checkMergeHeads(t *testing.T, name string, b impl.Book, a, k impl.Key, note string) (bool, int64) {
	t.Helper()
	want, key, conflicts, code := plainMergeHeads(b, a, k, note)
	if code != impl.OK {
		areNotMerged(t, name, code)(impl.MergeHeads(b, a, k, note))
		areNotMerged(t, name+" exchanged", code)(impl.MergeHeads(b, k, a, note))
		return false, code
	}
	areMerged(t, name, want, key, conflicts...)(impl.MergeHeads(b, a, k, note))
	areMerged(t, name+" exchanged", want, key, sidesExchanged(conflicts)...)(impl.MergeHeads(b, k, a, note))
	return len(conflicts) > 0, code
}

// branches returns a book with a beginning with one map and two commits behind it with others, and the keys of both.
func branches(base, ours, theirs []impl.Entry) (impl.Book, impl.Key, impl.Key) {
	b, top := plainAdd(impl.Book{}, nil, base, "base")
	b, a := plainAdd(b, []impl.Key{top}, ours, "ours")
	b, k := plainAdd(b, []impl.Key{top}, theirs, "theirs")
	return b, a, k
}

func TestTheExampleOfHistory(t *testing.T) {
	b, a, k := branches(entries("x", "1"), entries("x", "2"), entries("x", "1", "y", "3"))
	isKeys(t, "BasesOf", commitKeys(b)[:1])(impl.BasesOf(b, a, k))
	want, key := plainAdd(b, []impl.Key{a, k}, entries("x", "2", "y", "3"), "merged")
	areMerged(t, "MergeHeads", want, key)(impl.MergeHeads(b, a, k, "merged"))
	same(t, "Number", want.Commits[3].Number, 2)
	isMerged(t, "MergeMaps", entries("x", "1"), impl.Conflict{Name: "x", Base: held("x", "1"), Ours: held("x", "2"), Theirs: held("x", "3")})(
		impl.MergeMaps(entries("x", "1"), entries("x", "2"), entries("x", "3")))
}

func TestHeadsAreMerged(t *testing.T) {
	r := chance(744)
	told := map[int64]int{}
	conflicting := 0
	for range 40 {
		b := someBook(r, 4+r.IntN(6))
		for _, a := range commitKeys(b) {
			for _, k := range commitKeys(b) {
				conflicts, code := checkMergeHeads(t, "any two", b, a, k, "merged")
				told[code]++
				if conflicts {
					conflicting++
				}
			}
		}
	}
	if told[impl.OK] < conflicting+100 || conflicting < 100 || told[impl.ErrState] < 100 {
		t.Errorf("too few of all: %v, and %d with conflicts", told, conflicting)
	}
	for name, b := range booksTried(745) {
		for _, a := range commitKeys(b) {
			for _, k := range commitKeys(b) {
				checkMergeHeads(t, name, b, a, k, "merged")
			}
		}
	}
}

func TestHeadsWithNothingInCommon(t *testing.T) {
	b, a := plainAdd(impl.Book{}, nil, entries("x", "1", "y", "2"), "one")
	b, k := plainAdd(b, nil, entries("x", "1", "z", "3"), "other")
	want, key := plainAdd(b, []impl.Key{a, k}, entries("x", "1", "y", "2", "z", "3"), "")
	areMerged(t, "no base", want, key)(impl.MergeHeads(b, a, k, ""))
	same(t, "Number", want.Commits[2].Number, 1)
	b, k = plainAdd(b, nil, entries("x", "", "z", "3"), "with a conflict")
	areMerged(t, "a conflict without base", b, impl.Key{}, impl.Conflict{Name: "x", Base: heldNot("x"), Ours: held("x", "1"), Theirs: held("x", "")})(impl.MergeHeads(b, a, k, ""))
	areMerged(t, "exchanged", b, impl.Key{}, impl.Conflict{Name: "x", Base: heldNot("x"), Ours: held("x", ""), Theirs: held("x", "1")})(impl.MergeHeads(b, k, a, ""))
}

// crossedBook returns a book of crossed merges, the two bases of which lead to other results, and the keys of its heads.
func crossedBook(word string) (impl.Book, impl.Key, impl.Key) {
	b, top := plainAdd(impl.Book{}, nil, entries("x", "0"), word)
	b, one := plainAdd(b, []impl.Key{top}, entries("x", "1"), word+" one")
	b, two := plainAdd(b, []impl.Key{top}, entries("x", "2"), word+" two")
	b, a := plainAdd(b, []impl.Key{one, two}, entries("x", "1"), word+" ours")
	b, k := plainAdd(b, []impl.Key{one, two}, entries("x", "2"), word+" theirs")
	return b, a, k
}

func TestTheFirstBaseCounts(t *testing.T) {
	one := 0
	for i := range 30 {
		b, a, k := crossedBook(numbered("crossed", i))
		keys := commitKeys(b)
		isKeys(t, "two bases", ascending(keys[1], keys[2]))(impl.BasesOf(b, a, k))
		x := "1" // since the base with x = 2, ours alone has changed it, and since the other one theirs alone
		if before(keys[1], keys[2]) {
			one++
			x = "2"
		}
		want, key := plainAdd(b, []impl.Key{a, k}, entries("x", x), "")
		areMerged(t, "crossed", want, key)(impl.MergeHeads(b, a, k, ""))
		areMerged(t, "crossed and exchanged", want, key)(impl.MergeHeads(b, k, a, ""))
	}
	if one < 5 || one > 25 {
		t.Errorf("the first base is the same one in %d of 30 books", one)
	}
}

func TestAncestorsAreNotMerged(t *testing.T) {
	b, keys := bookOf("ancestors", nil, []int{0}, []int{1}, []int{0}, []int{2, 3})
	for _, pair := range [][2]int{{0, 0}, {0, 1}, {1, 0}, {0, 2}, {2, 0}, {4, 0}, {4, 1}, {4, 2}, {4, 3}, {3, 4}, {0, 4}, {4, 4}} {
		areNotMerged(t, numbered("ancestor", pair[0], pair[1]), impl.ErrState)(impl.MergeHeads(b, keys[pair[0]], keys[pair[1]], ""))
		areNotMerged(t, numbered("ancestor and a long note", pair[0], pair[1]), impl.ErrState)(impl.MergeHeads(b, keys[pair[0]], keys[pair[1]], strings.Repeat("n", 65)))
	}
	for i, k := range keys {
		for _, other := range []impl.Key{{}, flipped(k, 255), b.Commits[i].Root} {
			areNotMerged(t, numbered("no commit", i), impl.ErrNotFound)(impl.MergeHeads(b, k, other, ""))
			areNotMerged(t, numbered("no commit first", i), impl.ErrNotFound)(impl.MergeHeads(b, other, k, strings.Repeat("n", 65)))
			areNotMerged(t, numbered("no commits", i), impl.ErrNotFound)(impl.MergeHeads(b, other, other, ""))
		}
	}
}

// filled returns a book with further commits without parents, up to n.
func filled(b impl.Book, n int) impl.Book {
	for len(b.Commits) < n {
		b, _ = plainAdd(b, nil, nil, numbered("filled", len(b.Commits)))
	}
	return b
}

func TestConflictsLeaveTheBook(t *testing.T) {
	b, a, k := branches(entries("x", "1", "y", "1"), entries("x", "2", "y", "2"), entries("x", "3", "y", "1", "z", "1"))
	conflict := impl.Conflict{Name: "x", Base: held("x", "1"), Ours: held("x", "2"), Theirs: held("x", "3")}
	turned := sidesExchanged([]impl.Conflict{conflict})[0]
	full := filled(b, impl.MaxCommits)
	for i, book := range []impl.Book{b, full} {
		for n, note := range []string{"", "merged", strings.Repeat("n", impl.MaxNote), strings.Repeat("n", impl.MaxNote+1)} {
			areMerged(t, numbered("a conflict", i, n), book, impl.Key{}, conflict)(impl.MergeHeads(book, a, k, note))
			areMerged(t, numbered("a conflict exchanged", i, n), book, impl.Key{}, turned)(impl.MergeHeads(book, k, a, note))
		}
	}
}

func TestErrorsOfMergeHeads(t *testing.T) {
	long := strings.Repeat("n", impl.MaxNote+1)
	b, a, k := branches(entries("x", "1"), entries("x", "2"), entries("x", "1", "y", "3"))
	_, code := checkMergeHeads(t, "the longest note", b, a, k, long[1:])
	same(t, "the longest note", code, impl.OK)
	_, code = checkMergeHeads(t, "a note that is too long", b, a, k, long)
	same(t, "a note that is too long", code, impl.ErrRange)
	_, code = checkMergeHeads(t, "nearly full", filled(b, impl.MaxCommits-1), a, k, "")
	same(t, "nearly full", code, impl.OK)
	_, code = checkMergeHeads(t, "full", filled(b, impl.MaxCommits), a, k, "")
	same(t, "full", code, impl.ErrLimit)
	_, code = checkMergeHeads(t, "full, and a note that is too long", filled(b, impl.MaxCommits), a, k, long)
	same(t, "full, and a note that is too long", code, impl.ErrRange)
	again, _ := plainAdd(b, []impl.Key{a, k}, entries("x", "2", "y", "3"), "merged")
	_, code = checkMergeHeads(t, "merged again", again, a, k, "merged")
	same(t, "merged again", code, impl.ErrState)
	_, code = checkMergeHeads(t, "merged again with another note", again, a, k, "merged again")
	same(t, "merged again with another note", code, impl.OK)
	_, code = checkMergeHeads(t, "merged again in a full book", filled(again, impl.MaxCommits), a, k, "merged")
	same(t, "merged again in a full book", code, impl.ErrLimit)
	wrong := copiedBook(b)
	wrong.Maps[2] = nil
	_, code = checkMergeHeads(t, "a wrong book", wrong, a, k, long)
	same(t, "a wrong book", code, impl.ErrInvalid)
}

func TestMergedHeadsHaveALimit(t *testing.T) {
	all := countedMap(impl.MaxEntries)
	long := strings.Repeat("n", impl.MaxNote+1)
	for i, try := range []struct {
		base, ours, theirs []impl.Entry
		conflict           bool
		want               int64
	}{
		{all[:40], all[:52], slices.Concat(all[:40], all[52:]), false, impl.OK},
		{all[:40], slices.Concat(all[:52], entries("z", "")), slices.Concat(all[:40], all[52:]), false, impl.ErrLimit},
		{all[1:], slices.Concat(entries("n00", "1"), all[1:]), slices.Concat(entries("n00", "2"), all[1:]), true, impl.OK},
		{all, slices.Concat(entries("n00", "1"), all[1:]), slices.Concat(all[1:], entries("z", "")), true, impl.ErrLimit},
	} {
		b, a, k := branches(try.base, try.ours, try.theirs)
		conflict, code := checkMergeHeads(t, numbered("limit", i), b, a, k, "")
		same(t, numbered("code", i), code, try.want)
		same(t, numbered("conflict", i), conflict, try.conflict && code == impl.OK)
		_, code = checkMergeHeads(t, numbered("limit in a full book", i), filled(b, impl.MaxCommits), a, k, long)
		if try.want == impl.ErrLimit { // ahead of that of the note
			same(t, numbered("code in a full book", i), code, impl.ErrLimit)
		}
	}
}

// TestMergesOfAnyHistory merges the heads of a book until there is one, or conflicts: the book stays valid.
func TestMergesOfAnyHistory(t *testing.T) {
	r := chance(746)
	for range 15 {
		b := someBook(r, 8)
		mergeAll(t, r, b)
	}
}

// mergeAll merges heads of a book, as long as there are two without conflicts.
func mergeAll(t *testing.T, r *rand.Rand, b impl.Book) {
	t.Helper()
	for heads := plainHeads(b); len(heads) > 1; heads = plainHeads(b) {
		i := 1 + r.IntN(len(heads)-1)
		conflicts, code := checkMergeHeads(t, "two heads", b, heads[0], heads[i], "merged")
		same(t, "code", code, impl.OK)
		if conflicts || code != impl.OK {
			return
		}
		b, _, _, _ = impl.MergeHeads(b, heads[0], heads[i], "merged")
		same(t, "valid", impl.ValidBook(b), true)
		isKeys(t, "heads", plainHeads(b))(impl.HeadsOf(b))
	}
}
