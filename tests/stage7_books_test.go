package tests

import (
	"math"
	"math/rand/v2"
	"slices"
	"strings"
	"testing"

	"loop.example/g01174/impl"
)

// plainEntries is ValidEntries as the document tells it.
func plainEntries(list []impl.Entry) bool {
	for i, e := range list {
		if !plainEntry(e) || i > 0 && list[i-1].Name >= e.Name {
			return false
		}
	}
	return len(list) <= 64
}

// plainBook is ValidBook as the document tells it.
func plainBook(b impl.Book) bool {
	keys := commitKeys(b)
	if len(keys) > 40 || len(b.Maps) != len(keys) || len(ascending(keys...)) != len(keys) {
		return false
	}
	for i, c := range b.Commits {
		number := int64(0)
		for _, p := range c.Parents {
			place := slices.Index(keys[:i], p)
			if place < 0 {
				return false
			}
			number = max(number, b.Commits[place].Number+1)
		}
		if !plainCommit(c) || !plainEntries(b.Maps[i]) || plainMapKey(b.Maps[i]) != c.Root || c.Number != number {
			return false
		}
	}
	return true
}

// plainCommitMap is CommitMap as the document tells it.
func plainCommitMap(b impl.Book, parents []impl.Key, list []impl.Entry, note string) (impl.Book, impl.Key, int64) {
	keys := commitKeys(b)
	unknown := func(k impl.Key) bool { return !slices.Contains(keys, k) }
	switch {
	case !plainBook(b) || !plainEntries(list):
		return impl.Book{}, impl.Key{}, impl.ErrInvalid
	case len(ascending(parents...)) > 3 || len(note) > 64:
		return impl.Book{}, impl.Key{}, impl.ErrRange
	case slices.ContainsFunc(parents, unknown):
		return impl.Book{}, impl.Key{}, impl.ErrNotFound
	case len(keys) == 40:
		return impl.Book{}, impl.Key{}, impl.ErrLimit
	}
	more, k := plainAdd(b, parents, list, note)
	if !unknown(k) {
		return impl.Book{}, impl.Key{}, impl.ErrState
	}
	return more, k, impl.OK
}

// checkCommitMap checks what CommitMap returns, and returns its error.
func checkCommitMap(t *testing.T, name string, b impl.Book, parents []impl.Key, list []impl.Entry, note string) int64 {
	t.Helper()
	want, k, code := plainCommitMap(b, parents, list, note)
	if code != impl.OK {
		isNotCommitted(t, name, code)(impl.CommitMap(b, parents, list, note))
		return code
	}
	isCommitted(t, name, want, k)(impl.CommitMap(b, parents, list, note))
	same(t, name+": valid", impl.ValidBook(want), true)
	isNumber(t, name+": place", int64(len(b.Commits)))(impl.FindCommit(want, k))
	return code
}

// fork returns a book of six commits, two of which are heads, one with two parents and Number 3; and its keys.
func fork(word string) (impl.Book, []impl.Key) {
	return bookOf(word, nil, []int{0}, []int{0}, []int{2}, []int{1}, []int{1, 3})
}

// wrongBook is a book that is not valid.
type wrongBook struct {
	name string
	book impl.Book
}

// wrongBooks returns books that are not valid, each for one reason, by this reason.
func wrongBooks() []wrongBook {
	books := []wrongBook{{"too many commits", manyCommits(impl.MaxCommits + 1)}, {"far too many commits", manyCommits(300)}}
	add := func(name string, edit func(b *impl.Book)) {
		b, _ := fork(name)
		edit(&b)
		books = append(books, wrongBook{name, b})
	}
	addWrongPages(add)
	addWrongParents(add)
	addWrongNumbers(add)
	for i, list := range wrongMaps() {
		name := numbered("a map that is not valid", i)
		b, keys := fork(name)
		b, _ = plainAdd(b, keys[5:], list, "last")
		books = append(books, wrongBook{name, b})
		alone, _ := plainAdd(impl.Book{}, nil, list, "alone")
		books = append(books, wrongBook{name + " alone", alone})
	}
	return books
}

// manyCommits returns a book of n commits without parents.
func manyCommits(n int) impl.Book {
	b, _ := bookOf("many", make([][]int, n)...)
	return b
}

// addWrongPages adds books in which a commit and its map do not go together, or are not valid, or come twice.
func addWrongPages(add func(string, func(*impl.Book))) {
	const last = 5
	add("a note that is too long", func(b *impl.Book) { b.Commits[last].Note = strings.Repeat("n", impl.MaxNote+1) })
	add("no maps", func(b *impl.Book) { b.Maps = nil })
	add("fewer maps", func(b *impl.Book) { b.Maps = b.Maps[:last] })
	add("fewer commits", func(b *impl.Book) { b.Commits = b.Commits[:last] })
	add("no commits", func(b *impl.Book) { b.Commits = nil })
	add("an empty map alone", func(b *impl.Book) { *b = impl.Book{Maps: [][]impl.Entry{nil}} })
	add("more maps", func(b *impl.Book) { b.Maps = append(b.Maps, b.Maps[last]) })
	add("an empty map more", func(b *impl.Book) { b.Maps = append(b.Maps, nil) })
	add("a commit without map", func(b *impl.Book) { b.Maps = without(b.Maps, 2) })
	add("a Root that is not the key", func(b *impl.Book) { b.Commits[last].Root = flipped(b.Commits[last].Root, 255) })
	add("a Root of another map", func(b *impl.Book) { b.Commits[last].Root = b.Commits[0].Root })
	add("a Root of no map", func(b *impl.Book) { b.Commits[last].Root = plainEmpty() })
	add("an empty map with another Root", func(b *impl.Book) { b.Maps[last] = nil })
	add("another value", func(b *impl.Book) { b.Maps[last] = entries("n", "w") })
	add("another name", func(b *impl.Book) { b.Maps[last] = entries("m", numbered("v", last)) })
	add("another value at the beginning", func(b *impl.Book) { b.Maps[0] = entries("n", "w") })
	add("a further entry", func(b *impl.Book) { b.Maps[last] = append(b.Maps[last], entries("o", "")...) })
	add("maps exchanged", func(b *impl.Book) { b.Maps[1], b.Maps[2] = b.Maps[2], b.Maps[1] })
	for i := range last + 1 {
		add(numbered("a commit twice at the end", i), func(b *impl.Book) {
			b.Commits, b.Maps = append(b.Commits, b.Commits[i]), append(b.Maps, b.Maps[i])
		})
		add(numbered("a commit twice", i), func(b *impl.Book) {
			b.Commits, b.Maps = with(b.Commits, i, b.Commits[i]), with(b.Maps, i, b.Maps[i])
		})
	}
}

// addWrongParents adds books in which parents are not valid, or do not come before their commit.
func addWrongParents(add func(string, func(*impl.Book))) {
	const last = 5
	turn := func(keys []impl.Key) []impl.Key { return []impl.Key{keys[1], keys[0]} }
	add("parents out of order", func(b *impl.Book) { b.Commits[last].Parents = turn(b.Commits[last].Parents) })
	add("a parent twice", func(b *impl.Book) {
		p := b.Commits[last].Parents
		place := slices.Index(p, commitKeys(*b)[3]) // the one that decides the Number
		b.Commits[last].Parents = with(p, place, p[place])
	})
	add("four parents", func(b *impl.Book) { b.Commits[last].Parents = ascending(commitKeys(*b)[:4]...) })
	add("a parent that is later", func(b *impl.Book) {
		b.Commits[4], b.Commits[3] = b.Commits[3], b.Commits[4]
		b.Maps[4], b.Maps[3] = b.Maps[3], b.Maps[4]
		b.Commits[2], b.Commits[4] = b.Commits[4], b.Commits[2]
		b.Maps[2], b.Maps[4] = b.Maps[4], b.Maps[2]
	})
	add("all commits from the last one to the first one", func(b *impl.Book) {
		slices.Reverse(b.Commits)
		slices.Reverse(b.Maps)
	})
	add("a parent behind the first commit", func(b *impl.Book) {
		other, k := plainAdd(impl.Book{}, nil, nil, "later")
		child := impl.Commit{Root: plainEmpty(), Parents: []impl.Key{k}, Number: 1}
		*b = impl.Book{Commits: []impl.Commit{child, other.Commits[0]}, Maps: [][]impl.Entry{nil, nil}}
	})
	add("a parent that would be the commit itself", func(b *impl.Book) {
		b.Commits[last].Parents = []impl.Key{plainCommitKey(b.Commits[last])}
		b.Commits[last].Number = 4
	})
	nobody := func(name string, k func(b impl.Book) impl.Key) {
		add("nobody as a parent: "+name, func(b *impl.Book) { b.Commits[last].Parents = ascending(append(b.Commits[last].Parents, k(*b))...) })
		add("nobody as the only parent: "+name, func(b *impl.Book) { b.Commits[last].Parents = []impl.Key{k(*b)} })
		add("nobody at the beginning: "+name, func(b *impl.Book) {
			c := b.Commits[0]
			c.Parents = []impl.Key{k(*b)}
			*b = impl.Book{Commits: []impl.Commit{c}, Maps: b.Maps[:1]}
		})
	}
	nobody("0", func(impl.Book) impl.Key { return impl.Key{} })
	nobody("the greatest key", func(impl.Book) impl.Key { return impl.Key(slices.Repeat([]byte{255}, 32)) })
	nobody("nearly a key", func(b impl.Book) impl.Key { return flipped(commitKeys(b)[3], 255) })
	nobody("a Root", func(b impl.Book) impl.Key { return b.Commits[3].Root })
}

// addWrongNumbers adds books in which a Number is too small or too great.
func addWrongNumbers(add func(string, func(*impl.Book))) {
	for _, n := range []int64{-1, 0, 1, 2, 4, 5, impl.MaxCommits, impl.MaxCommits + 1, 256 + 3, math.MinInt64, math.MaxInt64} {
		add(numbered("not 3, but", int(n)), func(b *impl.Book) { b.Commits[5].Number = n })
	}
	for _, n := range []int64{-1, 1, 2, impl.MaxCommits, 256} {
		add(numbered("not 0, but", int(n)), func(b *impl.Book) {
			b.Commits, b.Maps = b.Commits[:1], b.Maps[:1]
			b.Commits[0].Number = n
		})
	}
	for _, n := range []int64{0, 1, 3} {
		add(numbered("not 2, but", int(n)), func(b *impl.Book) {
			b.Commits, b.Maps = b.Commits[:5], b.Maps[:5]
			b.Commits[4].Number = n
		})
	}
}

// isWrongBook checks what all functions tell of a book that is not valid, whatever else is wrong.
func isWrongBook(t *testing.T, name string, b impl.Book) {
	t.Helper()
	same(t, name+": ValidBook", impl.ValidBook(b), false)
	keys := append([]impl.Key{{}, {1}}, commitKeys(b)[:min(1, len(b.Commits))]...)
	note := strings.Repeat("n", impl.MaxNote+1)
	isNone[impl.Key](t, name+": HeadsOf", impl.ErrInvalid)(impl.HeadsOf(b))
	isNotCommitted(t, name+": CommitMap", impl.ErrInvalid)(impl.CommitMap(b, nil, nil, ""))
	isNotCommitted(t, name+": CommitMap of what is wrong", impl.ErrInvalid)(impl.CommitMap(b, keys, wrongMaps()[0], note))
	for _, k := range keys {
		isCode[int64](t, name+": FindCommit", impl.ErrInvalid)(impl.FindCommit(b, k))
		isNone[impl.Key](t, name+": AncestorsOf", impl.ErrInvalid)(impl.AncestorsOf(b, k))
		isRefused(t, name+": IsAncestor", impl.ErrInvalid)(impl.IsAncestor(b, k, k))
		isNone[impl.Key](t, name+": BasesOf", impl.ErrInvalid)(impl.BasesOf(b, k, k))
		isNone[impl.Key](t, name+": WayTo", impl.ErrInvalid)(impl.WayTo(b, k, k))
		isNone[impl.Change](t, name+": ChangesAt", impl.ErrInvalid)(impl.ChangesAt(b, k))
		areNotMerged(t, name+": MergeHeads", impl.ErrInvalid)(impl.MergeHeads(b, k, k, note))
		isNotCommitted(t, name+": UndoCommit", impl.ErrInvalid)(impl.UndoCommit(b, k, k, note))
	}
}

func TestBooksThatAreNotValid(t *testing.T) {
	for _, wrong := range wrongBooks() {
		same(t, wrong.name+": should not be valid", plainBook(wrong.book), false)
		isWrongBook(t, wrong.name, wrong.book)
	}
}

func TestBooksThatAreValid(t *testing.T) {
	for name, b := range booksTried(721) {
		same(t, name, impl.ValidBook(b), true)
	}
	full, _ := fullBook()
	chain, _ := chainOfCommits("chain", impl.MaxCommits)
	alone := func(list []impl.Entry) impl.Book { return first(plainAdd(impl.Book{}, nil, list, "")) }
	for i, b := range []impl.Book{{}, {Commits: []impl.Commit{}, Maps: [][]impl.Entry{}}, full, chain, alone(nil), alone(countedMap(impl.MaxEntries))} {
		same(t, numbered("book", i), impl.ValidBook(b), true)
	}
	for i, list := range mapsTried(722) {
		same(t, numbered("a map", i), impl.ValidBook(alone(list)), true)
	}
	for _, word := range []string{"a", "b", "c"} {
		b, _ := fork(word)
		same(t, "a fork", impl.ValidBook(b), true)
		same(t, "Number", b.Commits[5].Number, 3)
	}
}

// editedBook returns a book in which something has been changed, left out, added or exchanged.
func editedBook(r *rand.Rand, b impl.Book) impl.Book {
	b = copiedBook(b)
	if len(b.Commits) == 0 {
		return b
	}
	i, k := r.IntN(len(b.Commits)), r.IntN(len(b.Commits))
	switch r.IntN(9) {
	case 0:
		b.Commits[i], b.Commits[k] = b.Commits[k], b.Commits[i]
		b.Maps[i], b.Maps[k] = b.Maps[k], b.Maps[i]
	case 1:
		b.Commits, b.Maps = without(b.Commits, i), without(b.Maps, i)
	case 2:
		b.Commits[i].Number += int64(r.IntN(3) - 1)
	case 3:
		b.Commits[i].Note += "x"
	case 4:
		b.Maps[i] = b.Maps[k]
	case 5:
		b.Commits[i].Root = b.Commits[k].Root
	case 6:
		b.Commits[i].Parents = append(b.Commits[i].Parents, commitKeys(b)[k])
	case 7:
		b.Commits[i].Parents = b.Commits[k].Parents
	case 8:
		b.Commits[i], b.Maps[i] = b.Commits[k], b.Maps[k]
	}
	return b
}

func TestBooksThatAreEdited(t *testing.T) {
	r := chance(723)
	valid := 0
	for range 400 {
		b := editedBook(r, someBook(r, 1+r.IntN(6)))
		same(t, "an edited book", impl.ValidBook(b), plainBook(b))
		if plainBook(b) {
			valid++
		}
	}
	if valid < 40 || valid > 360 {
		t.Errorf("%d of 400 edited books are valid", valid)
	}
}

func TestWhichBooksAreTheSame(t *testing.T) {
	r := chance(724)
	for range 60 {
		b := someBook(r, r.IntN(6))
		edited := editedBook(r, b)
		same(t, "a copy", impl.SameBook(b, copiedBook(b)), true)
		same(t, "an edited book", impl.SameBook(b, edited), equalBooks(b, edited))
		same(t, "an edited book first", impl.SameBook(edited, b), equalBooks(b, edited))
	}
	same(t, "nil and nothing", impl.SameBook(impl.Book{}, impl.Book{Commits: []impl.Commit{}, Maps: [][]impl.Entry{}}), true)
	same(t, "a map and none", impl.SameBook(impl.Book{}, impl.Book{Maps: [][]impl.Entry{nil}}), false)
	same(t, "a commit and none", impl.SameBook(impl.Book{}, impl.Book{Commits: []impl.Commit{{}}}), false)
	same(t, "nil and an empty map", impl.SameBook(impl.Book{Maps: [][]impl.Entry{nil}}, impl.Book{Maps: [][]impl.Entry{{}}}), true)
	same(t, "other values", impl.SameBook(impl.Book{Maps: [][]impl.Entry{entries("a", "1")}}, impl.Book{Maps: [][]impl.Entry{entries("a", "2")}}), false)
	for _, wrong := range wrongBooks() {
		b, _ := fork(wrong.name)
		same(t, wrong.name+": a copy", impl.SameBook(wrong.book, copiedBook(wrong.book)), true)
		same(t, wrong.name+": before it was wrong", impl.SameBook(wrong.book, b), false)
	}
}

func TestMapsAreCommitted(t *testing.T) {
	for name, b := range booksTried(725) {
		for _, k := range commitKeys(b) {
			same(t, name, checkCommitMap(t, name, b, []impl.Key{k}, entries("x", "1"), "a further one"), impl.OK)
		}
		same(t, name, checkCommitMap(t, name, b, nil, nil, "a beginning"), impl.OK)
	}
	b, keys := fork("maps")
	for i, list := range mapsTried(726) {
		same(t, numbered("a map", i), checkCommitMap(t, numbered("a map", i), b, keys[5:], list, ""), impl.OK)
	}
	for i, list := range wrongMaps() {
		same(t, numbered("a wrong map", i), checkCommitMap(t, numbered("a wrong map", i), b, keys[5:], list, ""), impl.ErrInvalid)
	}
}

func TestParentsMayComeInAnyOrder(t *testing.T) {
	b, keys := bookOf("parents", nil, nil, []int{0}, []int{2}, []int{1}, []int{3})
	r := chance(727)
	for range 150 {
		var parents []impl.Key
		for range r.IntN(7) {
			parents = append(parents, keys[r.IntN(len(keys))])
		}
		checkCommitMap(t, "any parents", b, parents, nil, "any")
	}
	three := keys[2:5]
	want, k := plainAdd(b, three, nil, "three")
	for _, parents := range [][]impl.Key{
		three, {three[2], three[1], three[0]}, {three[1], three[0], three[2]},
		slices.Concat(three, three), slices.Repeat([]impl.Key{three[2], three[0], three[1]}, 5000),
	} {
		isCommitted(t, "three parents", want, k)(impl.CommitMap(b, parents, nil, "three"))
	}
	one, k := plainAdd(b, keys[:1], nil, "one")
	isCommitted(t, "one parent many times", one, k)(impl.CommitMap(b, slices.Repeat(keys[:1], 100), nil, "one"))
	same(t, "Number of one", one.Commits[6].Number, 1)
	same(t, "Number of three", want.Commits[6].Number, 3)
	same(t, "one too many", checkCommitMap(t, "one too many", b, keys[1:5], nil, "four"), impl.ErrRange)
	same(t, "all", checkCommitMap(t, "all", b, keys, nil, "all"), impl.ErrRange)
}

func TestNotesHaveALimit(t *testing.T) {
	b, keys := fork("notes")
	for _, n := range []int{0, 1, impl.MaxNote - 1, impl.MaxNote} {
		same(t, numbered("note", n), checkCommitMap(t, numbered("note", n), b, keys[5:], nil, strings.Repeat("\xff", n)), impl.OK)
	}
	for _, n := range []int{impl.MaxNote + 1, 256, 1000, 4096, 500000} {
		same(t, numbered("note", n), checkCommitMap(t, numbered("note", n), b, keys[5:], nil, strings.Repeat("n", n)), impl.ErrRange)
	}
}

func TestBooksHaveALimit(t *testing.T) {
	full, keys := fullBook()
	nearly := impl.Book{Commits: full.Commits[:impl.MaxCommits-1], Maps: full.Maps[:impl.MaxCommits-1]}
	same(t, "nearly full", checkCommitMap(t, "nearly full", nearly, keys[:3], nil, "last"), impl.OK)
	same(t, "full", checkCommitMap(t, "full", full, keys[:3], nil, "last"), impl.ErrLimit)
	same(t, "full, without parents", checkCommitMap(t, "full, without parents", full, nil, nil, "last"), impl.ErrLimit)
	chain, keys := chainOfCommits("chain", impl.MaxCommits)
	nearly = impl.Book{Commits: chain.Commits[:impl.MaxCommits-1], Maps: chain.Maps[:impl.MaxCommits-1]}
	same(t, "nearly full chain", checkCommitMap(t, "nearly full chain", nearly, keys[38:39], nil, "last"), impl.OK)
	same(t, "full chain", checkCommitMap(t, "full chain", chain, keys[39:], nil, "last"), impl.ErrLimit)
}

func TestWhatABookHasIsNotCommittedAgain(t *testing.T) {
	b, keys := fork("again")
	for i, c := range b.Commits {
		same(t, numbered("again", i), checkCommitMap(t, numbered("again", i), b, c.Parents, b.Maps[i], c.Note), impl.ErrState)
		same(t, numbered("with another note", i), checkCommitMap(t, numbered("with another note", i), b, c.Parents, b.Maps[i], c.Note+"x"), impl.OK)
		same(t, numbered("with another map", i), checkCommitMap(t, numbered("with another map", i), b, c.Parents, nil, c.Note), impl.OK)
		same(t, numbered("with other parents", i), checkCommitMap(t, numbered("with other parents", i), b, keys[4:5], b.Maps[i], c.Note) == impl.ErrState, slices.Equal(c.Parents, keys[4:5]))
	}
}

// TestErrorsOfCommitMap tries all that may be wrong together: the error that the document lists first is told.
func TestErrorsOfCommitMap(t *testing.T) {
	b, keys := fork("errors")
	full, fullKeys := fullBook()
	wrong := wrongBooks()[5].book
	long := strings.Repeat("n", impl.MaxNote+1)
	told := map[int64]int{}
	for i, try := range []struct {
		book impl.Book
		keys []impl.Key
	}{{b, keys}, {full, fullKeys}, {wrong, keys}, {impl.Book{}, keys}} {
		for k, parents := range [][]impl.Key{nil, try.keys[:1], try.keys[:4], {try.keys[0], {9}}, {try.keys[0], try.keys[1], try.keys[2], {9}}, {{9}, {8}, {7}, {6}}} {
			for _, note := range []string{numbered("errors", 0), numbered("full", 0), "other", long} {
				for _, list := range [][]impl.Entry{entries("n", "v 0"), nil, wrongMaps()[1]} {
					told[checkCommitMap(t, numbered("try", i, k), try.book, parents, list, note)]++
				}
			}
		}
	}
	for _, code := range []int64{impl.OK, impl.ErrInvalid, impl.ErrRange, impl.ErrNotFound, impl.ErrLimit, impl.ErrState} {
		if told[code] == 0 {
			t.Errorf("the error %d is not tried", code)
		}
	}
}

func TestCommitsAreFound(t *testing.T) {
	for name, b := range booksTried(728) {
		keys := commitKeys(b)
		for i, k := range keys {
			isNumber(t, name, int64(i))(impl.FindCommit(b, k))
			isCode[int64](t, name+": nearly a key", impl.ErrNotFound)(impl.FindCommit(b, flipped(k, 255)))
			isCode[int64](t, name+": a Root", impl.ErrNotFound)(impl.FindCommit(b, b.Commits[i].Root))
		}
		isCode[int64](t, name+": no key", impl.ErrNotFound)(impl.FindCommit(b, impl.Key{}))
	}
	full, keys := fullBook()
	for i, k := range keys {
		isNumber(t, "a full book", int64(i))(impl.FindCommit(full, k))
	}
}
