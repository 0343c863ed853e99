package tests

import (
	"slices"
	"testing"

	"loop.example/g01174/impl"
)

// isHead fails the test if the head of a replica is not the commit with an index, or its book has not so many commits.
func isHead(t *testing.T, name string, at impl.Replica, place, commits int) {
	t.Helper()
	same(t, name+": head", at.Head, commitKeys(at.Book)[place])
	same(t, name+": commits", len(at.Book.Commits), commits)
}

func TestHeadsAreTaken(t *testing.T) {
	v := setup(2, put(0, "x", "1"), put(0, "y", "1"), put(0, "z", "1"), put(1, "a", "1"))
	all := "write 0, write 1, write 2, " + carried("0", "1", 0, 1, 2)
	for place := range 3 {
		deed := numbered("merge 1", place)
		isHead(t, "no head, "+deed, does(t, v, all, deed).Replicas[1], place, 3)
	}
	isHead(t, "from the first one to the next one", does(t, v, all+", merge 1 0", "merge 1 1").Replicas[1], 1, 3)
	isHead(t, "from the first one to the last one", does(t, v, all+", merge 1 0", "merge 1 2").Replicas[1], 2, 3)
	isHead(t, "from the second one to the last one", does(t, v, all+", merge 1 0, merge 1 1", "merge 1 2").Replicas[1], 2, 3)
	isMap(t, "the map of the head", entries("x", "1", "y", "1", "z", "1"))(impl.MapAt(v, deedsIn(all+", merge 1 2"), 1))
	isMap(t, "the map of an earlier one", entries("x", "1", "y", "1"))(impl.MapAt(v, deedsIn(all+", merge 1 1"), 1))
	isMap(t, "no head, though there are commits", nil)(impl.MapAt(v, deedsIn(all), 1))
	own := "write 0, send 0 1 0, deliver 0, merge 1 0, write 3, send 1 0 1, deliver 0"
	isHead(t, "what another one has made of it", does(t, v, own, "merge 0 1").Replicas[0], 1, 2)
}

func TestMergesThatAreLeftOut(t *testing.T) {
	v := setup(2, put(0, "x", "1"), put(0, "y", "1"), put(0, "z", "1"), put(1, "a", "1"))
	all := "write 0, write 1, write 2, " + carried("0", "1", 0, 1, 2)
	for _, deed := range []string{"merge 2 0", "merge 999 0", "merge 2 999", "merge 0 3", "merge 1 3", "merge 1 999", "merge 0 40"} {
		leavesOut(t, v, all, deed, impl.ErrRange)
	}
	leavesOut(t, v, "", "merge 0 0", impl.ErrRange)
	leavesOut(t, v, "write 0", "merge 1 0", impl.ErrRange)
	leavesOut(t, setup(3), "", "merge 3 0", impl.ErrRange)
	for place := range 3 {
		leavesOut(t, v, all, numbered("merge 0", place), impl.ErrState)
		leavesOut(t, v, all+", merge 1 2", numbered("merge 1", place), impl.ErrState)
		leavesOut(t, v, all+numbered(", merge 1", place), numbered("merge 1", place), impl.ErrState)
	}
	leavesOut(t, v, all+", merge 1 1", "merge 1 0", impl.ErrState)
	merged := all + ", write 3, merge 1 2"
	for place := range 5 {
		leavesOut(t, v, merged, numbered("merge 1", place), impl.ErrState)
	}
}

func TestHeadsAreJoined(t *testing.T) {
	v := setup(2, put(0, "x", "1"), put(0, "y", "1"), put(1, "z", "2"), put(1, "y", "0"), put(1, "y", "2"), gone(1, "x"), gone(0, "x"), put(0, "x", "7"), put(0, "x", "9"))
	v.Edits = v.Edits[:8]
	base := "write 0, send 0 1 0, deliver 0, merge 1 0"
	for _, try := range []struct {
		name         string
		before       string
		ours, theirs string
		want         []impl.Entry
	}{
		{"other names, no base", "", "write 0", "write 2", entries("x", "1", "z", "2")},
		{"one name with a greater value at the other one, no base", "", "write 1", "write 4", entries("y", "2")},
		{"one name with a lesser value at the other one, no base", "", "write 1", "write 3", entries("y", "1")},
		{"other names behind a base", base, "write 1", "write 2", entries("x", "1", "y", "1", "z", "2")},
		{"one name behind a base", base, "write 1", "write 4", entries("x", "1", "y", "2")},
		{"deleted by one", base, "write 1", "write 5", entries("y", "1")},
		{"deleted by both", base, "write 6", "write 5", nil},
		{"deleted by one, and changed", base, "write 7", "write 5", entries("x", "7")},
		{"changed and back", base, "write 7, write 0", "write 5", nil},
		{"several of each", base, "write 1, write 7", "write 3, write 5, write 2", entries("x", "7", "y", "1", "z", "2")},
	} {
		both := try.ours + ", " + try.theirs
		if try.before != "" {
			both = try.before + ", " + both
		}
		was := behind(t, v, both)
		ours, theirs := was.Replicas[0], was.Replicas[1]
		exchanged := both + ", " + carried("0", "1", upTo(len(ours.Book.Commits))...) + ", " + carried("1", "0", upTo(len(theirs.Book.Commits))...)
		sent := behind(t, v, exchanged)
		number := max(lastOf(ours.Book).Number, lastOf(theirs.Book).Number) + 1
		first := does(t, v, exchanged, numbered("merge 0", slices.Index(commitKeys(sent.Replicas[0].Book), theirs.Head))).Replicas[0]
		isWritten(t, try.name, first, try.want, number, "merge", ours.Head, theirs.Head)
		last := does(t, v, exchanged, numbered("merge 1", slices.Index(commitKeys(sent.Replicas[1].Book), ours.Head))).Replicas[1]
		isWritten(t, try.name+", at the other side", last, try.want, number, "merge", ours.Head, theirs.Head)
		same(t, try.name+": one head", first.Head, last.Head)
	}
}

// twoBases returns a setup and the story behind which "merge 0 6" joins two commits with two bases: in one of these the
// name has the value 1, in the other one 2, and what becomes of it depends on which of them comes first.
func twoBases(name string) (impl.Setup, string) {
	v := setup(3, put(0, name, "1"), put(1, name, "2"), put(2, "y", "1"), put(2, name, "1"))
	text := "write 0, write 1, write 2, " + carried("0", "2", 0) + ", merge 2 1, " + carried("1", "2", 0) + ", merge 2 3, write 3, " +
		carried("1", "0", 0) + ", merge 0 1, " + carried("2", "0", 0, 2, 4, 5)
	return v, text
}

func TestTheFirstOfTwoBasesIsTaken(t *testing.T) {
	values := map[string]bool{}
	for i := range 12 {
		name := numbered("name", i)
		v, text := twoBases(name)
		was := behind(t, v, text).Replicas[0]
		keys := commitKeys(was.Book)
		same(t, name+": commits", len(keys), 7)
		bases := plainBases(was.Book, was.Head, keys[6])
		sameList(t, name+": bases", bases, ascending(keys[0], keys[1]))
		value := "2" // one side has 2, as its base if this is the one with 2, and the other one 1
		if bases[0] == keys[1] {
			value = "1"
		}
		values[value] = true
		g := does(t, v, text, "merge 0 6")
		isWritten(t, name, g.Replicas[0], mapOf(map[string]string{name: value, "y": "1"}), 4, "merge", was.Head, keys[6])
	}
	same(t, "both orders are tried", len(values), 2)
}

// TestMergesThatAreThere: both sides make one commit, so that one of them may have got it from the other one.
func TestMergesThatAreThere(t *testing.T) {
	v := setup(3, put(0, "x", "1"), put(1, "y", "1"), put(2, "z", "1"))
	both := "write 0, write 1, " + carried("1", "0", 0) + ", merge 0 1, " + carried("0", "1", 0, 2)
	was := behind(t, v, both)
	g := does(t, v, both, "merge 1 1")
	same(t, "one head", g.Replicas[1].Head, was.Replicas[0].Head)
	isHead(t, "the commit that is there", g.Replicas[1], 2, 3)
	g = does(t, v, both, "merge 1 2")
	isHead(t, "the commit itself", g.Replicas[1], 2, 3)
	leavesOut(t, v, both+", merge 1 1", "merge 1 1", impl.ErrState)
	leavesOut(t, v, both+", merge 1 1", "merge 1 2", impl.ErrState)
	// the commit that is there may not be the last one
	more := both + ", write 2, " + carried("2", "0", 0) + ", merge 0 3, " + carried("0", "1", 3, 4)
	g = does(t, v, more, "merge 1 1")
	isHead(t, "a commit among others", g.Replicas[1], 2, 5)
	isHead(t, "the others behind it", does(t, v, more+", merge 1 1", "merge 1 4").Replicas[1], 4, 5)
}

func TestMergesInFullBooks(t *testing.T) {
	v := setup(2, put(0, "x", "1"), put(0, "x", "2"), put(1, "y", "1"), put(1, "y", "2"))
	full := "write 2, " + carried("1", "0", 0) + ", " + times(19, "write 0, write 1") + ", write 0"
	same(t, "commits", len(behind(t, v, full).Replicas[0].Book.Commits), impl.MaxCommits)
	leavesOut(t, v, full, "merge 0 0", impl.ErrLimit)
	leavesOut(t, v, full, "merge 0 39", impl.ErrState)
	leavesOut(t, v, full, "merge 0 1", impl.ErrState)
	leavesOut(t, v, full, "merge 0 40", impl.ErrRange)
	nearly := "write 2, " + carried("1", "0", 0) + ", " + times(19, "write 0, write 1")
	g := does(t, v, nearly, "merge 0 0")
	same(t, "just enough room", len(g.Replicas[0].Book.Commits), impl.MaxCommits)
	leavesOut(t, v, nearly+", merge 0 0", "merge 0 0", impl.ErrState)
	taken := times(20, "write 0, write 1") + ", " + carried("0", "1", upTo(40)...)
	isHead(t, "a commit of a full book", does(t, v, taken, "merge 1 39").Replicas[1], 39, 40)
	isHead(t, "a later commit of a full book", does(t, v, taken+", merge 1 0", "merge 1 39").Replicas[1], 39, 40)
}

// TestMergesThatAreThereInFullBooks: nothing is committed, so that there need not be room.
func TestMergesThatAreThereInFullBooks(t *testing.T) {
	v := setup(2, put(0, "x", "1"), put(1, "y", "1"), put(0, "x", "2"), put(0, "x", "3"))
	both := "write 0, write 1, " + carried("1", "0", 0) + ", merge 0 1, " + times(18, "write 2, write 3") + ", write 2, " + carried("0", "1", append([]int{0}, from(2, 40)...)...)
	was := behind(t, v, both).Replicas[1]
	same(t, "commits", len(was.Book.Commits), impl.MaxCommits)
	isHead(t, "before", was, 0, 40)
	isHead(t, "the commit that is there", does(t, v, both, "merge 1 1").Replicas[1], 2, 40)
	isHead(t, "the last one", does(t, v, both, "merge 1 39").Replicas[1], 39, 40)
}
