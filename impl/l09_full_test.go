package impl

import (
	"slices"
	"strconv"
	"testing"
)

// The edits of a setup are too few for a full map. So replicas have a map here that nobody has written.

// manyEntries returns a map of n entries whose names begin with a word.
func manyEntries(word string, n int) []Entry {
	var list []Entry
	for i := range n {
		list = append(list, Entry{Name: word + strconv.Itoa(100+i), Value: "v"})
	}
	return list
}

// sceneWith returns a scene of one replica, whose book has a commit of each of some maps. The first one is the head.
func sceneWith(t *testing.T, edits []Edit, maps ...[]Entry) *scene {
	t.Helper()
	s := sceneOf(Setup{Replicas: 1, Edits: edits})
	for i, list := range maps {
		k, code := s.sites[0].commit(nil, list, "given "+strconv.Itoa(i))
		isErrorOf(t, "commit", code, OK)
		if i == 0 {
			s.sites[0].head = k
		}
	}
	return s
}

// isLeftOut fails the test if a deed is not left out with an error, or changes anything.
func isLeftOut(t *testing.T, name string, s *scene, d Deed, want int64) {
	t.Helper()
	was, head := s.sites[0].book(), s.sites[0].head
	isErrorOf(t, name, s.do(d), want)
	if s.sites[0].head != head || !SameBook(s.sites[0].book(), was) {
		t.Errorf("%s: a deed that is left out changes the replica", name)
	}
}

func TestEditsOfFullMaps(t *testing.T) {
	full := manyEntries("n", MaxEntries)
	tries := []struct {
		edit Edit
		want int64
	}{
		{Edit{Entry: Entry{Name: "further"}}, ErrLimit},
		{Edit{Entry: Entry{Name: "n100", Value: "w"}}, OK},
		{Edit{Entry: Entry{Name: "n100", Value: "v"}}, ErrState},
		{Edit{Entry: Entry{Name: "n163"}, Gone: true}, OK},
		{Edit{Entry: Entry{Name: "further"}, Gone: true}, ErrState},
	}
	for _, try := range tries {
		s := sceneWith(t, []Edit{try.edit}, full)
		d := Deed{Kind: DdWrite}
		if try.want != OK {
			isLeftOut(t, "edit of "+try.edit.Entry.Name, s, d, try.want)
			continue
		}
		isErrorOf(t, "edit of "+try.edit.Entry.Name, s.do(d), OK)
		if list, isHead := s.group().after(0); !isHead || !ValidEntries(list) || SameEntries(list, full) {
			t.Errorf("edit of %s: got the map %v", try.edit.Entry.Name, list)
		}
	}
	s := sceneWith(t, []Edit{tries[0].edit, {Entry: Entry{Name: "one more"}}}, full[1:])
	isErrorOf(t, "just enough room", s.do(Deed{Kind: DdWrite}), OK)
	isLeftOut(t, "no more room", s, Deed{Kind: DdWrite, A: 1}, ErrLimit)
}

// after returns the map of the last commit of a replica, and whether this is its head.
func (g Group) after(r int) ([]Entry, bool) {
	b := g.Replicas[r].Book
	last := len(b.Commits) - 1
	return b.Maps[last], b.Commits[last].key() == g.Replicas[r].Head
}

func TestMergesOfFullMaps(t *testing.T) {
	full, other := manyEntries("n", MaxEntries), manyEntries("o", MaxEntries)
	changed := slices.Clone(full)
	for i := range changed {
		changed[i].Value = "w"
	}
	for i, try := range []struct {
		ours, theirs []Entry
		want         int64
	}{
		{full, other, ErrLimit},
		{full, other[:1], ErrLimit},
		{full[1:], other[:1], OK},
		{full[:40], other[:24], OK},
		{full[:40], other[:25], ErrLimit},
		{full, changed, OK},
		{full, nil, OK},
		{full, append(slices.Clone(changed[1:]), other[0]), ErrLimit},
	} {
		for _, maps := range [][][]Entry{{try.ours, try.theirs}, {try.theirs, try.ours}} {
			s := sceneWith(t, nil, maps...)
			d := Deed{Kind: DdMerge, B: 1}
			name := "merge of full maps " + strconv.Itoa(i)
			if try.want != OK {
				isLeftOut(t, name, s, d, try.want)
				continue
			}
			isErrorOf(t, name, s.do(d), OK)
			want, _ := JoinMaps(nil, try.ours, try.theirs)
			list, isHead := s.group().after(0)
			if !isHead || !SameEntries(list, want) || !ValidBook(s.group().Replicas[0].Book) {
				t.Errorf("%s: got the map %v, want %v", name, list, want)
			}
		}
	}
}

// TestPlansOfFullMaps: a merge that is left out leaves no plan.
func TestPlansOfFullMaps(t *testing.T) {
	for n, want := range map[int]bool{1: true, 24: true, 25: false, 64: false} {
		s := sceneOf(Setup{Replicas: 2})
		for r, list := range [][]Entry{manyEntries("n", 40), manyEntries("o", n)} {
			s.sites[r].head, _ = s.sites[r].commit(nil, list, "given")
		}
		finished := true
		for d := range s.finish {
			if s.do(d) != OK {
				finished = false
				break
			}
		}
		if finished != want || s.areJoined() != want {
			t.Errorf("maps of 40 and %d entries: finished %v, joined %v", n, finished, s.areJoined())
		}
	}
}
