package tests

import (
	"slices"
	"strings"
	"testing"

	"loop.example/g01174/impl"
)

// leavesOut fails the test if a deed behind a story, all of whose deeds are done, is not left out with an error.
func leavesOut(t *testing.T, v impl.Setup, before, deed string, want int64) {
	t.Helper()
	name := deed + " behind " + before[max(0, len(before)-60):]
	deeds := deedsIn(before)
	was := groupAfter(t, name+": before", v, deeds, len(deeds))
	all := append(deeds, deedsIn(deed)...)
	isRefusedDeed(t, name, len(deeds), want)(impl.RefusedDeed(v, all))
	sameGroup(t, name, groupAfter(t, name, v, all, len(deeds)), was)
	checkDeeds(t, name, v, all)
}

// does returns the group after a deed behind a story, all of which are done, and checks that the replicas, what is saved
// and the wire are as the document tells it.
func does(t *testing.T, v impl.Setup, before, deed string) impl.Group {
	t.Helper()
	text := before + ", " + deed
	checkDeeds(t, deed, v, deedsIn(text))
	return behind(t, v, text)
}

// lastOf returns the last commit of a book.
func lastOf(b impl.Book) impl.Commit {
	return b.Commits[len(b.Commits)-1]
}

// isWritten fails the test if the last commit of a replica is not its head, or not that of a map with some parents.
func isWritten(t *testing.T, name string, at impl.Replica, list []impl.Entry, number int64, note string, parents ...impl.Key) {
	t.Helper()
	c := lastOf(at.Book)
	same(t, name+": head", at.Head, plainCommitKey(c))
	same(t, name+": Root", c.Root, plainMapKey(list))
	sameList(t, name+": map", at.Book.Maps[len(at.Book.Maps)-1], list)
	sameList(t, name+": Parents", c.Parents, ascending(parents...))
	same(t, name+": Number", c.Number, number)
	same(t, name+": Note", c.Note, note)
}

// eightEdits returns a setup with as many edits as may be, two replicas, and deleting edits.
func eightEdits() impl.Setup {
	return setup(2, put(0, "x", "1"), put(1, "y", "2"), put(0, "y", ""), gone(0, "x"), put(1, "x", "3"), gone(1, "y"), put(0, "x", "1"), put(0, "x", "2"))
}

func TestBeginning(t *testing.T) {
	for n := range int64(3) {
		g := checkDeeds(t, "no deeds", setup(n+1, put(0, "x", "1")), nil).group()
		same(t, "replicas", len(g.Replicas), int(n)+1)
		same(t, "saved", len(g.Saved), int(n)+1)
		for _, at := range slices.Concat(g.Replicas, g.Saved) {
			same(t, "head", at.Head, impl.Key{})
			same(t, "commits", len(at.Book.Commits), 0)
		}
	}
}

func TestWrites(t *testing.T) {
	v := eightEdits()
	one := behind(t, v, "write 0")
	isWritten(t, "the first one", one.Replicas[0], entries("x", "1"), 0, "write 0")
	sameBook(t, "the other replica", one.Replicas[1].Book, impl.Book{})
	same(t, "the other head", one.Replicas[1].Head, impl.Key{})
	sameBook(t, "what is saved", one.Saved[0].Book, impl.Book{})
	two := does(t, v, "write 0", "write 2")
	isWritten(t, "another name without a value", two.Replicas[0], entries("x", "1", "y", ""), 1, "write 2", one.Replicas[0].Head)
	three := does(t, v, "write 0, write 2", "write 3")
	isWritten(t, "a name less", three.Replicas[0], entries("y", ""), 2, "write 3", two.Replicas[0].Head)
	four := does(t, v, "write 0, write 2, write 3", "write 0")
	isWritten(t, "the first one again", four.Replicas[0], entries("x", "1", "y", ""), 3, "write 0", three.Replicas[0].Head)
	five := does(t, v, "write 0", "write 7")
	isWritten(t, "another value", five.Replicas[0], entries("x", "2"), 1, "write 7", one.Replicas[0].Head)
	six := does(t, v, "write 0, write 1", "write 4")
	isWritten(t, "at the other replica", six.Replicas[1], entries("x", "3", "y", "2"), 1, "write 4", does(t, v, "write 0", "write 1").Replicas[1].Head)
	isWritten(t, "at the replica 0", six.Replicas[0], entries("x", "1"), 0, "write 0")
	seven := does(t, v, "write 1", "write 5")
	isWritten(t, "nothing is left", seven.Replicas[1], nil, 1, "write 5", does(t, v, "write 0", "write 1").Replicas[1].Head)
	isWritten(t, "the same with another number", behind(t, v, "write 6").Replicas[0], entries("x", "1"), 0, "write 6")
}

func TestWritesBehindHeadsThatWereTaken(t *testing.T) {
	v := eightEdits()
	g := does(t, v, "write 0, send 0 1 0, deliver 0, merge 1 0", "write 1")
	isWritten(t, "behind the head of another one", g.Replicas[1], entries("x", "1", "y", "2"), 1, "write 1", g.Replicas[0].Head)
	g = does(t, v, "write 0, write 1, send 0 1 0, deliver 0", "write 4")
	isWritten(t, "a commit that is no head is no parent", g.Replicas[1], entries("x", "3", "y", "2"), 1, "write 4", plainCommitKey(g.Replicas[1].Book.Commits[0]))
	g = does(t, v, "write 0, send 0 1 0, deliver 0", "write 1")
	isWritten(t, "a commit that came in is no head", g.Replicas[1], entries("y", "2"), 0, "write 1")
}

func TestWritesThatAreLeftOut(t *testing.T) {
	v := eightEdits()
	leavesOut(t, v, "", "write 8", impl.ErrRange)
	leavesOut(t, v, "", "write 999", impl.ErrRange)
	leavesOut(t, setup(1), "", "write 0", impl.ErrRange)
	leavesOut(t, setup(3, put(2, "x", "1")), "write 0", "write 1", impl.ErrRange)
	leavesOut(t, v, "write 0", "write 0", impl.ErrState)
	leavesOut(t, v, "write 0", "write 6", impl.ErrState)
	leavesOut(t, v, "", "write 3", impl.ErrState)
	leavesOut(t, v, "write 2", "write 3", impl.ErrState)
	leavesOut(t, v, "write 2", "write 2", impl.ErrState)
	leavesOut(t, v, "write 0, write 3", "write 3", impl.ErrState)
	leavesOut(t, v, "", "write 5", impl.ErrState)
	leavesOut(t, v, "write 0, send 0 1 0, deliver 0", "write 5", impl.ErrState)
	leavesOut(t, v, "write 1, send 1 0 0, deliver 0, merge 0 0, write 2, send 0 1 1, deliver 0, merge 1 1, write 5", "write 5", impl.ErrState)
}

// TestNamesWithoutAValueAreThere: an entry may have no bytes as value, which is not the same as not to be there.
func TestNamesWithoutAValueAreThere(t *testing.T) {
	v := setup(1, put(0, "x", ""), gone(0, "x"))
	isWritten(t, "no bytes", behind(t, v, "write 0").Replicas[0], entries("x", ""), 0, "write 0")
	leavesOut(t, v, "", "write 1", impl.ErrState)
	leavesOut(t, v, "write 0", "write 0", impl.ErrState)
	g := does(t, v, "write 0", "write 1")
	isWritten(t, "deleted", g.Replicas[0], nil, 1, "write 1", plainCommitKey(g.Replicas[0].Book.Commits[0]))
	leavesOut(t, v, "write 0, write 1", "write 1", impl.ErrState)
	does(t, v, "write 0, write 1", "write 0")
}

// times returns a story n times over.
func times(n int, text string) string {
	return strings.Join(slices.Repeat([]string{text}, n), ", ")
}

func TestWritesIntoFullBooks(t *testing.T) {
	v := setup(2, put(0, "x", "1"), put(0, "x", "2"), gone(0, "y"), put(1, "y", "1"))
	full := times(20, "write 0, write 1")
	g := behind(t, v, full)
	same(t, "commits", len(g.Replicas[0].Book.Commits), impl.MaxCommits)
	same(t, "Number of the last one", lastOf(g.Replicas[0].Book).Number, impl.MaxCommits-1)
	leavesOut(t, v, full, "write 0", impl.ErrLimit)
	leavesOut(t, v, full, "write 1", impl.ErrState)
	leavesOut(t, v, full, "write 2", impl.ErrState)
	leavesOut(t, v, full, "write 4", impl.ErrRange)
	does(t, v, full, "write 3")
	does(t, v, times(19, "write 0, write 1")+", write 0", "write 1")
}

// carried returns the story in which commits of a replica come to another one, one by one.
func carried(from, to string, places ...int) string {
	var texts []string
	for _, i := range places {
		texts = append(texts, "send "+from+" "+to+numbered("", i)+", deliver 0")
	}
	return strings.Join(texts, ", ")
}

// upTo returns the numbers from 0 to n - 1.
func upTo(n int) []int {
	return from(0, n)
}

// from returns the numbers from a to n - 1.
func from(a, n int) []int {
	var list []int
	for i := a; i < n; i++ {
		list = append(list, i)
	}
	return list
}

// TestWritesOfWhatIsThere: behind a crash, a replica may get back what it has written, and then write the same again.
func TestWritesOfWhatIsThere(t *testing.T) {
	v := setup(2, put(0, "x", "1"), put(0, "x", "2"), put(1, "x", "3"), put(1, "x", "4"))
	back := "write 0, send 0 1 0, deliver 0, crash 0, send 1 0 0, deliver 0"
	leavesOut(t, v, back, "write 0", impl.ErrState)
	does(t, v, back, "merge 0 0")
	does(t, v, back, "write 1")
	more := "save 0, write 0, write 1, send 0 1 0, send 0 1 1, crash 0, write 0, deliver 0, deliver 0, send 1 0 1, deliver 0"
	leavesOut(t, v, more, "write 1", impl.ErrState)
	does(t, v, more, "merge 0 1")
	// of a book that is full, and a commit that is there already, the document tells the limit first
	full := "write 0, send 0 1 0, deliver 0, merge 1 0, " + times(19, "write 2, write 3") + ", write 2, crash 0"
	leavesOut(t, v, full+", "+carried("1", "0", upTo(40)...), "write 0", impl.ErrLimit)
	leavesOut(t, v, full+", "+carried("1", "0", upTo(39)...), "write 0", impl.ErrState)
	does(t, v, full+", "+carried("1", "0", upTo(39)...), "write 1")
}

func TestSends(t *testing.T) {
	v := setup(3, put(0, "x", "1"), put(1, "y", "2"), put(0, "z", "3"))
	g := does(t, v, "write 0, write 2, write 1, send 0 2 1, send 1 0 0", "send 0 1 0")
	parcels := []impl.Parcel{
		{To: 2, Commit: g.Replicas[0].Book.Commits[1], Map: entries("x", "1", "z", "3")},
		{To: 0, Commit: g.Replicas[1].Book.Commits[0], Map: entries("y", "2")},
		{To: 1, Commit: g.Replicas[0].Book.Commits[0], Map: entries("x", "1")},
	}
	if !slices.EqualFunc(g.Wire, parcels, equalParcels) {
		t.Errorf("the wire: got %v, want %v", g.Wire, parcels)
	}
	was := behind(t, v, "write 0, write 2, write 1")
	sameGroup(t, "all else", impl.Group{Replicas: g.Replicas, Saved: g.Saved}, impl.Group{Replicas: was.Replicas, Saved: was.Saved})
}

func TestEachCommitIsSent(t *testing.T) {
	v := setup(2, put(0, "x", "1"), put(0, "x", "2"), gone(0, "x"))
	before := times(6, "write 0, write 1") + ", write 2"
	book := behind(t, v, before).Replicas[0].Book
	for i := range book.Commits {
		g := does(t, v, before, numbered("send 0 1", i))
		want := []impl.Parcel{{To: 1, Commit: book.Commits[i], Map: book.Maps[i]}}
		if !slices.EqualFunc(g.Wire, want, equalParcels) {
			t.Errorf("the wire: got %v, want %v", g.Wire, want)
		}
	}
	leavesOut(t, v, before, "send 0 1 13", impl.ErrRange)
}

func TestSendsThatAreLeftOut(t *testing.T) {
	v := setup(2, put(0, "x", "1"), put(1, "x", "2"))
	both := "write 0, write 1"
	full := both + ", " + times(6, "send 0 1 0, send 1 0 0")
	same(t, "a full wire", len(behind(t, v, full).Wire), impl.MaxWire)
	for _, before := range []string{both, full} {
		for _, deed := range []string{"send 2 1 0", "send 999 1 0", "send 0 2 0", "send 0 999 0", "send 2 2 0", "send 3 4 5", "send 0 0 0", "send 1 1 0", "send 0 1 1", "send 1 0 1", "send 0 1 999"} {
			leavesOut(t, v, before, deed, impl.ErrRange)
		}
	}
	leavesOut(t, v, full, "send 0 1 0", impl.ErrLimit)
	leavesOut(t, v, full, "send 1 0 0", impl.ErrLimit)
	does(t, v, full+", drop 5", "send 0 1 0")
	does(t, v, full+", deliver 11", "send 0 1 0")
	leavesOut(t, v, full+", copy 11", "send 0 1 0", impl.ErrLimit)
	leavesOut(t, v, "", "send 0 1 0", impl.ErrRange)
	leavesOut(t, v, "write 0", "send 1 0 0", impl.ErrRange)
	leavesOut(t, setup(1, put(0, "x", "1")), "write 0", "send 0 0 0", impl.ErrRange)
	leavesOut(t, setup(1, put(0, "x", "1")), "write 0", "send 0 1 0", impl.ErrRange)
	three := setup(3, put(0, "x", "1"))
	leavesOut(t, three, "write 0", "send 0 3 0", impl.ErrRange)
	leavesOut(t, three, "write 0", "send 3 0 0", impl.ErrRange)
	does(t, three, "write 0", "send 0 2 0")
}

func TestParcelsAreTaken(t *testing.T) {
	v := setup(2, put(0, "x", "1"), put(0, "y", "1"), put(0, "z", "1"), gone(0, "x"))
	before := "write 0, write 1, write 2, write 3, crash 0, write 0, write 1, write 2, write 3, send 0 1 0, send 0 1 1, send 0 1 2"
	was := behind(t, v, before)
	for i := range 3 {
		rest := without(was.Wire, i)
		for _, word := range []string{"deliver", "copy", "drop"} {
			g := does(t, v, before, numbered(word, i))
			wire, commits := rest, 0
			if word == "copy" {
				wire = was.Wire
			}
			if word != "drop" && i == 0 {
				commits = 1
			}
			name := numbered(word, i)
			same(t, name+": commits", len(g.Replicas[1].Book.Commits), commits)
			same(t, name+": head", g.Replicas[1].Head, impl.Key{})
			if !slices.EqualFunc(g.Wire, wire, equalParcels) {
				t.Errorf("%s: the wire: got %v, want %v", name, g.Wire, wire)
			}
			if !equalReplicas(g.Replicas[0], was.Replicas[0]) {
				t.Errorf("%s: the sender changes", name)
			}
		}
	}
	for _, word := range []string{"deliver", "copy", "drop"} {
		leavesOut(t, v, before, word+" 3", impl.ErrRange)
		leavesOut(t, v, before, word+" 999", impl.ErrRange)
		leavesOut(t, v, "", word+" 0", impl.ErrRange)
		leavesOut(t, v, "write 0, send 0 1 0, deliver 0", word+" 0", impl.ErrRange)
		leavesOut(t, v, "write 0, send 0 1 0, drop 0", word+" 0", impl.ErrRange)
	}
}

// TestParcelsThatCameIn checks which commits a replica has behind some parcels. All are sent by a replica with three
// commits, each of which is the parent of the next one.
func TestParcelsThatCameIn(t *testing.T) {
	v := setup(3, put(0, "x", "1"), put(0, "y", "1"), put(0, "z", "1"))
	sent := "write 0, write 1, write 2, send 0 1 0, send 0 1 1, send 0 1 2"
	for _, try := range []struct {
		text    string
		commits int
		wire    int
	}{
		{"deliver 0, deliver 0, deliver 0", 3, 0},
		{"deliver 0, deliver 1, deliver 0", 2, 0},
		{"deliver 1, deliver 0, deliver 0", 1, 0},
		{"deliver 2, deliver 1, deliver 0", 1, 0},
		{"deliver 1, deliver 1, deliver 0", 1, 0},
		{"copy 2, copy 1, copy 0", 1, 3},
		{"copy 2, copy 1, copy 0, copy 2, copy 1, copy 0", 2, 3},
		{"copy 2, copy 1, copy 0, copy 2, copy 1, copy 0, copy 2", 3, 3},
		{"copy 0, copy 0, copy 0, copy 0", 1, 3},
		{"copy 0, deliver 0, copy 0, deliver 0, copy 0, deliver 0", 3, 0},
		{"drop 0, deliver 0, deliver 0", 0, 0},
		{"deliver 0, drop 0, deliver 0", 1, 0},
		{"copy 1, drop 1, copy 0, copy 1", 1, 2},
	} {
		deeds := deedsIn(sent + ", " + try.text)
		checkDeeds(t, try.text, v, deeds)
		g := groupAfter(t, try.text, v, deeds, len(deeds))
		same(t, try.text+": commits", len(g.Replicas[1].Book.Commits), try.commits)
		same(t, try.text+": parcels", len(g.Wire), try.wire)
		same(t, try.text+": head", g.Replicas[1].Head, impl.Key{})
		same(t, try.text+": a replica to which nothing is sent", len(g.Replicas[2].Book.Commits), 0)
		whole := g.Replicas[0].Book
		sameBook(t, try.text, g.Replicas[1].Book, impl.Book{Commits: whole.Commits[:try.commits], Maps: whole.Maps[:try.commits]})
	}
}

func TestParcelsOfCommitsWithTwoParents(t *testing.T) {
	v := setup(3, put(0, "x", "1"), put(1, "y", "1"))
	merged := "write 0, write 1, send 1 0 0, deliver 0, merge 0 1"
	for _, try := range []struct {
		places  []int
		commits int
	}{{[]int{0, 1, 2}, 3}, {[]int{1, 0, 2}, 3}, {[]int{0, 2, 1}, 2}, {[]int{1, 2, 0}, 2}, {[]int{2, 0, 1}, 2}, {[]int{2}, 0}, {[]int{0, 2}, 1}, {[]int{1, 2}, 1}, {[]int{0, 2, 1, 2}, 3}} {
		text := merged + ", " + carried("0", "2", try.places...)
		checkDeeds(t, text, v, deedsIn(text))
		same(t, text+": commits", len(behind(t, v, text).Replicas[2].Book.Commits), try.commits)
	}
}

func TestParcelsToFullBooks(t *testing.T) {
	v := setup(2, put(0, "x", "1"), put(0, "x", "2"), put(1, "y", "1"))
	full := times(20, "write 0, write 1") + ", write 2, send 1 0 0, send 1 0 0"
	was := behind(t, v, full)
	for deed, parcels := range map[string]int{"deliver 0": 1, "deliver 1": 1, "copy 0": 2, "copy 1": 2, "drop 0": 1} {
		g := does(t, v, full, deed)
		sameBook(t, deed, g.Replicas[0].Book, was.Replicas[0].Book)
		same(t, deed+": parcels", len(g.Wire), parcels)
	}
	nearly := times(19, "write 0, write 1") + ", write 0, write 2, send 1 0 0, send 1 0 0"
	g := does(t, v, nearly, "deliver 0")
	same(t, "just enough room", len(g.Replicas[0].Book.Commits), impl.MaxCommits)
	does(t, v, nearly+", deliver 0", "deliver 0")
}
