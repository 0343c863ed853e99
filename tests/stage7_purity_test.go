package tests

import (
	"slices"
	"strings"
	"testing"

	"loop.example/g01174/impl"
)

func TestCommitsAreApart(t *testing.T) {
	all := append(rightCommits(), wrongCommits()...)
	for i, c := range all {
		name := numbered(" of the commit", i)
		checkPure(t, "ValidCommit"+name, impl.ValidCommit, c)
		checkPure(t, "SameCommit"+name, impl.SameCommit, c, c)
		checkPure(t, "SameCommit with another one"+name, impl.SameCommit, c, all[len(all)-1-i])
		checkPure(t, "CommitData"+name, impl.CommitData, c)
		checkPure(t, "CommitKey"+name, impl.CommitKey, c)
		data := plainData(c)
		checkPure(t, "ReadCommit"+name, impl.ReadCommit, data)
		checkPure(t, "ReadCommit of less"+name, impl.ReadCommit, data[:len(data)-1])
		checkPure(t, "ReadCommit of another one"+name, impl.ReadCommit, changedAt(data, 0))
	}
	checkPure(t, "ReadCommit of nothing", impl.ReadCommit, nil)
}

// pureBooks returns books that are tried as arguments, some of them not valid.
func pureBooks() []impl.Book {
	forked, _ := fork("pure")
	crossed, _, _ := crossedBook("pure")
	conflicting, _, _ := branches(entries("x", "1", "y", "1"), entries("x", "2", "y", "2"), entries("x", "3", "z", "1"))
	undoing, _ := line(entries("a", "1"), entries("a", "2"), entries("a", "2", "b", "1"))
	large, _, _ := branches(countedMap(40), countedMap(52), slices.Concat(countedMap(40), otherCountedMap("z", 12)))
	return []impl.Book{{}, forked, crossed, conflicting, undoing, large, someBook(chance(761), 6), wrongBooks()[3].book, wrongBooks()[9].book}
}

func TestBooksAreApart(t *testing.T) {
	for i, b := range pureBooks() {
		name := numbered(" of the book", i)
		checkPure(t, "ValidBook"+name, impl.ValidBook, b)
		checkPure(t, "SameBook"+name, impl.SameBook, b, b)
		checkPure(t, "HeadsOf"+name, impl.HeadsOf, b)
		checkPure(t, "CommitMap without parents"+name, impl.CommitMap, b, nil, nil, "further")
		for _, k := range append(commitKeys(b), impl.Key{}) {
			checkPure(t, "FindCommit"+name, impl.FindCommit, b, k)
			checkPure(t, "AncestorsOf"+name, impl.AncestorsOf, b, k)
			checkPure(t, "ChangesAt"+name, impl.ChangesAt, b, k)
			for _, other := range append(commitKeys(b), impl.Key{}) {
				checkPure(t, "IsAncestor"+name, impl.IsAncestor, b, k, other)
				checkPure(t, "BasesOf"+name, impl.BasesOf, b, k, other)
				checkPure(t, "WayTo"+name, impl.WayTo, b, k, other)
				checkPure(t, "MergeHeads"+name, impl.MergeHeads, b, k, other, "merged")
				checkPure(t, "UndoCommit"+name, impl.UndoCommit, b, k, other, "undo")
				checkPure(t, "CommitMap"+name, impl.CommitMap, b, []impl.Key{other, k, other}, countedMap(5), "further")
			}
		}
	}
}

func TestFullBooksAreApart(t *testing.T) {
	full, keys := fullBook()
	nearly := impl.Book{Commits: full.Commits[:39], Maps: full.Maps[:39]}
	for i, b := range []impl.Book{full, nearly} {
		name := numbered(" of the book", i)
		checkPure(t, "ValidBook"+name, impl.ValidBook, b)
		checkPure(t, "HeadsOf"+name, impl.HeadsOf, b)
		checkPure(t, "CommitMap"+name, impl.CommitMap, b, keys[:3], countedMap(impl.MaxEntries), "")
		checkPure(t, "CommitMap of too many parents"+name, impl.CommitMap, b, keys[:4], nil, "")
		checkPure(t, "CommitMap of a long note"+name, impl.CommitMap, b, keys[:3], nil, strings.Repeat("n", 65))
		checkPure(t, "CommitMap of a wrong map"+name, impl.CommitMap, b, keys[:3], wrongMaps()[0], "")
		checkPure(t, "MergeHeads"+name, impl.MergeHeads, b, keys[0], keys[1], "")
		checkPure(t, "UndoCommit"+name, impl.UndoCommit, b, keys[0], keys[0], "")
	}
}

func TestMergedMapsAreApart(t *testing.T) {
	maps := append(waysToHold(), countedMap(5), countedMap(impl.MaxEntries), otherCountedMap("m", 30), slices.Concat(entries("n00", "x"), countedMap(3)[1:]), wrongMaps()[0])
	for i, base := range maps {
		for k, ours := range maps {
			for n, theirs := range maps {
				checkPure(t, numbered("MergeMaps", i, k, n), impl.MergeMaps, base, ours, theirs)
			}
		}
	}
}

// TestOneMapInSeveralPlaces shows that the same memory may be in several places of arguments.
func TestOneMapInSeveralPlaces(t *testing.T) {
	list := countedMap(3)
	isMerged(t, "three times one map", list)(impl.MergeMaps(list, list, list))
	b, keys := line(list, list, list)
	parents := keys[:1]
	for i := range b.Maps {
		b.Maps[i] = list
	}
	b.Commits[1].Parents = parents
	same(t, "one map three times", impl.ValidBook(b), true)
	want, k := plainAdd(b, parents, list, "further")
	got, key, code := impl.CommitMap(b, parents, list, "further")
	isCommitted(t, "one map four times", want, k)(got, key, code)
	overwrite(list, impl.Entry{})
	overwrite(parents, impl.Key{})
	sameBook(t, "behind another argument", got, want)
	for i := range got.Maps {
		overwrite(got.Maps[i], impl.Entry{Name: numbered("", i)})
	}
	for i := range got.Maps {
		same(t, "a map of its own", got.Maps[i][0].Name, numbered("", i))
	}
}

func TestLargeArgumentsOfHistoryReturn(t *testing.T) {
	many := make([]impl.Key, 30000)
	for i := range many {
		many[i] = impl.Key{byte(i), byte(i >> 8)}
	}
	long := strings.Repeat("n", 900000)
	b, keys := fork("large")
	isWrongBook(t, "many commits", impl.Book{Commits: make([]impl.Commit, 100000), Maps: make([][]impl.Entry, 100000)})
	isWrongBook(t, "many maps", impl.Book{Maps: make([][]impl.Entry, 900000)})
	isWrongBook(t, "a commit with many parents", impl.Book{Commits: []impl.Commit{{Parents: many}}, Maps: make([][]impl.Entry, 1)})
	isWrongBook(t, "a large map", impl.Book{Commits: make([]impl.Commit, 1), Maps: [][]impl.Entry{make([]impl.Entry, 300000)}})
	same(t, "a long note", impl.ValidCommit(impl.Commit{Note: long}), false)
	isNoCommit(t, "much data", impl.ErrSyntax)(impl.ReadCommit([]byte(long)))
	isNoCommit(t, "much data of a commit", impl.ErrSyntax)(impl.ReadCommit(append([]byte{1}, make([]byte, 900000)...)))
	isNotCommitted(t, "many parents", impl.ErrRange)(impl.CommitMap(b, many, nil, ""))
	isNotCommitted(t, "a long note and a large map", impl.ErrInvalid)(impl.CommitMap(b, nil, make([]impl.Entry, 10000), long))
	isNotCommitted(t, "a long note", impl.ErrRange)(impl.CommitMap(b, nil, nil, long))
	want, k := plainAdd(b, keys[:1], nil, "")
	isCommitted(t, "one parent many times", want, k)(impl.CommitMap(b, slices.Repeat(keys[:1], 30000), nil, ""))
	isNotMerged(t, "large maps", impl.ErrInvalid)(impl.MergeMaps(make([]impl.Entry, 300000), nil, nil))
	areNotMerged(t, "a long note of a merge", impl.ErrState)(impl.MergeHeads(b, keys[0], keys[0], long))
}

// TestBooksOfLargeMapsAreRead shows that the largest book there may be is no trouble.
func TestBooksOfLargeMapsAreRead(t *testing.T) {
	r := chance(762)
	var b impl.Book
	var k impl.Key
	for i := range impl.MaxCommits {
		list := someMap(r, impl.MaxEntries)
		b, k = plainAdd(b, commitKeys(b)[max(0, i-3):], list, strings.Repeat("n", impl.MaxNote))
	}
	same(t, "ValidBook", impl.ValidBook(b), true)
	isKeys(t, "HeadsOf", []impl.Key{k})(impl.HeadsOf(b))
	isKeys(t, "AncestorsOf", ascending(commitKeys(b)...))(impl.AncestorsOf(b, k))
	areChanges(t, "ChangesAt", plainChanges(mapBefore(b, k), mapIn(b, k))...)(impl.ChangesAt(b, k))
	less := impl.Book{Commits: b.Commits[:39], Maps: b.Maps[:39]}
	same(t, "CommitMap", checkCommitMap(t, "CommitMap", less, commitKeys(b)[36:39], b.Maps[39], ""), impl.OK)
	head := commitKeys(b)[38]
	same(t, "UndoCommit", checkUndo(t, "UndoCommit", less, head, head, ""), impl.OK)
}
