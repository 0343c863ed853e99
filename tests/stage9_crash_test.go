package tests

import (
	"testing"

	"loop.example/g01174/impl"
)

// sameReplica fails the test if got is not want.
func sameReplica(t *testing.T, name string, got, want impl.Replica) {
	t.Helper()
	if !equalReplicas(got, want) {
		t.Errorf("%s: got the replica %v, want %v", name, got, want)
	}
}

func TestSavesAndCrashes(t *testing.T) {
	v := setup(2, put(0, "x", "1"), put(0, "x", "2"), put(1, "y", "1"), put(0, "z", "1"))
	written := "write 0, write 2"
	was := behind(t, v, written)
	saved := does(t, v, written, "save 0")
	sameReplica(t, "what is saved", saved.Saved[0], was.Replicas[0])
	sameReplica(t, "the replica itself", saved.Replicas[0], was.Replicas[0])
	sameReplica(t, "what the other one has saved", saved.Saved[1], impl.Replica{})
	crashed := does(t, v, written, "crash 0")
	sameReplica(t, "a crash before anything is saved", crashed.Replicas[0], impl.Replica{})
	sameReplica(t, "the other one", crashed.Replicas[1], was.Replicas[1])
	for _, text := range []string{
		written + ", save 0, crash 0",
		written + ", save 0, crash 0, crash 0",
		written + ", save 0, write 1, crash 0",
		written + ", save 0, write 1, write 3, crash 0, crash 0",
		written + ", save 0, write 1, crash 0, write 3, crash 0",
		written + ", save 0, crash 0, write 1, crash 0",
		written + ", crash 0, write 0, save 0, write 1, crash 0",
		"write 0, write 1, save 0, crash 0, write 2, crash 0, write 3, write 0, crash 1, write 2, crash 0, save 1, crash 0, crash 1, crash 0, crash 0, save 1",
	} {
		checkDeeds(t, text, v, deedsIn(text))
	}
	for _, text := range []string{written + ", save 0, write 1, write 3, crash 0, crash 0", written + ", save 0, crash 0, write 1, crash 0", written + ", save 0, save 0, write 1, crash 0"} {
		g := behind(t, v, text)
		sameReplica(t, text, g.Replicas[0], was.Replicas[0])
		sameReplica(t, text+": what is saved", g.Saved[0], was.Replicas[0])
	}
	again := behind(t, v, written+", save 0, write 1, save 0, write 3, crash 0")
	sameReplica(t, "what has been saved last", again.Replicas[0], behind(t, v, written+", write 1").Replicas[0])
	none := behind(t, v, written+", save 0, write 1, save 0, write 3, crash 1, crash 0, save 1")
	sameReplica(t, "the one that has saved nothing", none.Replicas[1], impl.Replica{})
}

func TestSavesAndCrashesThatAreLeftOut(t *testing.T) {
	for n := range int64(3) {
		v := setup(n+1, put(0, "x", "1"))
		for _, word := range []string{"save", "crash"} {
			for r := range 3 {
				if r <= int(n) {
					does(t, v, "write 0", numbered(word, r))
				} else {
					leavesOut(t, v, "write 0", numbered(word, r), impl.ErrRange)
				}
			}
			leavesOut(t, v, "write 0", word+" 3", impl.ErrRange)
			leavesOut(t, v, "", word+" 999", impl.ErrRange)
		}
	}
}

// TestParcelsOutliveCrashes: a crash takes from a replica what it has, but not what is on the wire, from it or to it.
func TestParcelsOutliveCrashes(t *testing.T) {
	v := setup(2, put(0, "x", "1"), put(0, "x", "2"), put(1, "y", "1"))
	sent := "write 0, write 1, write 2, send 0 1 0, send 0 1 1, send 1 0 0"
	was := behind(t, v, sent)
	for _, deed := range []string{"crash 0", "crash 1", "save 0", "save 1"} {
		g := does(t, v, sent, deed)
		sameGroup(t, deed, impl.Group{Wire: g.Wire}, impl.Group{Wire: was.Wire})
	}
	got := behind(t, v, sent+", crash 0, deliver 0, deliver 0, merge 1 2")
	isMap(t, "what a crash has taken from the sender", entries("x", "2", "y", "1"))(impl.MapAt(v, deedsIn(sent+", crash 0, deliver 0, deliver 0, merge 1 2"), 1))
	same(t, "the parcel to the one that crashed", len(got.Wire), 1)
	back := sent + ", crash 0, deliver 0, deliver 0, drop 0, " + carried("1", "0", 1, 2) + ", merge 0 1"
	g := behind(t, v, back)
	isHead(t, "what comes back", g.Replicas[0], 1, 2)
	isMap(t, "what comes back", entries("x", "2"))(impl.MapAt(v, deedsIn(back), 0))
}

// TestParcelsBehindCrashes: a parcel that has come in before a crash comes in again, and one whose parents the crash has
// taken does not.
func TestParcelsBehindCrashes(t *testing.T) {
	v := setup(2, put(0, "x", "1"), put(0, "x", "2"), put(1, "y", "1"))
	sent := "write 0, write 1, send 0 1 0, send 0 1 1"
	for text, commits := range map[string]int{
		sent + ", copy 0, copy 1, crash 1":                                              0,
		sent + ", copy 0, copy 1, crash 1, copy 1":                                      0,
		sent + ", copy 0, copy 1, crash 1, copy 0":                                      1,
		sent + ", copy 0, copy 1, crash 1, copy 1, copy 0, copy 1":                      2,
		sent + ", copy 0, save 1, copy 1, crash 1":                                      1,
		sent + ", copy 0, save 1, copy 1, crash 1, copy 0":                              1,
		sent + ", copy 0, save 1, copy 1, crash 1, copy 1":                              2,
		sent + ", copy 0, save 1, deliver 1, crash 1, deliver 0":                        1,
		sent + ", copy 0, copy 1, save 1, crash 1, deliver 1, deliver 0":                2,
		sent + ", copy 0, merge 1 0, save 1, write 2, copy 1, crash 1":                  1,
		sent + ", copy 0, merge 1 0, save 1, write 2, copy 1, crash 1, write 2, copy 1": 3,
	} {
		deeds := deedsIn(text)
		checkDeeds(t, text, v, deeds)
		same(t, text+": commits", len(groupAfter(t, text, v, deeds, len(deeds)).Replicas[1].Book.Commits), commits)
	}
}

// TestHeadsGoBackWithBooks: what has been saved is the book and the head of one moment.
func TestHeadsGoBackWithBooks(t *testing.T) {
	v := setup(2, put(0, "x", "1"), put(1, "y", "1"), put(1, "y", "2"))
	base := "write 0, write 1, save 1, " + carried("0", "1", 0) + ", merge 1 1"
	isHead(t, "before the crash", behind(t, v, base).Replicas[1], 2, 3)
	isHead(t, "behind the crash", behind(t, v, base+", crash 1").Replicas[1], 0, 1)
	isHead(t, "written behind it", behind(t, v, base+", crash 1, write 2").Replicas[1], 1, 2)
	isHead(t, "a book without the merge", behind(t, v, base+", crash 1, write 2, crash 1").Replicas[1], 0, 1)
	onlyBook := "write 0, " + carried("0", "1", 0) + ", save 1, merge 1 0, crash 1"
	g := behind(t, v, onlyBook)
	same(t, "no head was saved", g.Replicas[1].Head, impl.Key{})
	same(t, "but a commit", len(g.Replicas[1].Book.Commits), 1)
	checkDeeds(t, onlyBook, v, deedsIn(onlyBook))
}
