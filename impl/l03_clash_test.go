package impl

import (
	"slices"
	"strconv"
	"testing"
)

// Nobody knows two unlike pairs with one NodeKey. So these tests join keys in weaker ways, of which clashes are known,
// and take functions that are given the way of joining; the functions of the document do nothing but give them NodeKey.

// byteKey returns the key whose first byte is b, all others being 0.
func byteKey(b byte) Key {
	return Key{b}
}

// byteKeys returns the keys whose first bytes are those of a text.
func byteKeys(text string) []Key {
	var list []Key
	for i := range len(text) {
		list = append(list, byteKey(text[i]))
	}
	return list
}

// weakJoiners returns ways of joining keys that have many clashes.
func weakJoiners() map[string]joiner {
	return map[string]joiner{
		"sum":        func(a, b Key) Key { return byteKey(a[0] + b[0]) },
		"sum of 3":   func(a, b Key) Key { return byteKey((a[0] + b[0]) % 3) },
		"mixed":      func(a, b Key) Key { return byteKey((3*a[0] + 5*b[0] + a[0]*b[0]) % 4) },
		"left only":  func(a, b Key) Key { return byteKey(a[0] + 1) },
		"right only": func(a, b Key) Key { return byteKey(b[0] + 1) },
		"greater":    func(a, b Key) Key { return byteKey(max(a[0], b[0])) },
		"nothing":    func(a, b Key) Key { return byteKey(7) },
		"low bits":   func(a, b Key) Key { return byteKey(NodeKey(a, b)[0] % 4) },
	}
}

// allLists returns all lists of n keys whose first bytes are less than most.
func allLists(n int, most byte) [][]Key {
	if n == 0 {
		return [][]Key{nil}
	}
	var lists [][]Key
	for _, list := range allLists(n-1, most) {
		for b := range most {
			lists = append(lists, append(slices.Clone(list), byteKey(b)))
		}
	}
	return lists
}

// cutOf returns how many leaves the left part of a tree of n leaves has, n being 2 or more.
func cutOf(n int) int {
	m := 1
	for 2*m < n {
		m *= 2
	}
	return m
}

// plainJoined returns the key of the tree of a list that is not empty.
func plainJoined(list []Key, join joiner) Key {
	if len(list) == 1 {
		return list[0]
	}
	m := cutOf(len(list))
	return join(plainJoined(list[:m], join), plainJoined(list[m:], join))
}

// plainClash returns the clash of two unlike lists whose trees have one key, as the document tells it.
func plainClash(a, b []Key, join joiner) Clash {
	m := cutOf(len(a))
	la, ra := plainJoined(a[:m], join), plainJoined(a[m:], join)
	lb, rb := plainJoined(b[:m], join), plainJoined(b[m:], join)
	switch {
	case la != lb || ra != rb:
		return Clash{FirstLeft: la, FirstRight: ra, SecondLeft: lb, SecondRight: rb}
	case !slices.Equal(a[:m], b[:m]):
		return plainClash(a[:m], b[:m], join)
	}
	return plainClash(a[m:], b[m:], join)
}

// checkClash fails the test if a clash, with a code, is not the one that is wanted.
func checkClash(t *testing.T, name string, got Clash, code int64, want Clash, wantCode int64) {
	t.Helper()
	if code != wantCode || got != want {
		t.Errorf("%s: got %v and %d, want %v and %d", name, got, code, want, wantCode)
	}
}

func TestClashesOfAllShortLists(t *testing.T) {
	for name, join := range weakJoiners() {
		found := 0
		for _, size := range []struct {
			n    int
			most byte
		}{{1, 4}, {2, 4}, {3, 4}, {4, 3}, {5, 2}, {6, 2}, {7, 2}} {
			lists := allLists(size.n, size.most)
			for _, a := range lists {
				for _, b := range lists {
					got, code := clashOfLists(a, b, join)
					want, wantCode := Clash{}, int64(ErrState)
					if plainJoined(a, join) == plainJoined(b, join) {
						wantCode = ErrNotFound
						if !slices.Equal(a, b) {
							want, wantCode = plainClash(a, b, join), OK
							found++
						}
					}
					checkClash(t, name, got, code, want, wantCode)
					if isClash(got, join) != (code == OK) {
						t.Errorf("%s: %v is taken for a clash, or not, with the code %d", name, got, code)
					}
				}
			}
		}
		if found < 100 {
			t.Errorf("%s: %d clashes", name, found)
		}
	}
}

func TestKnownClashesOfLists(t *testing.T) {
	sum := weakJoiners()["sum"]
	k := byteKey
	for _, known := range []struct {
		a, b string
		want Clash
	}{
		{"\x01\x02", "\x02\x01", Clash{k(1), k(2), k(2), k(1)}},
		{"\x01\x02", "\x00\x03", Clash{k(1), k(2), k(0), k(3)}},
		{"\x01\x02\x03", "\x02\x02\x02", Clash{k(3), k(3), k(4), k(2)}},
		{"\x01\x02\x03", "\x02\x01\x03", Clash{k(1), k(2), k(2), k(1)}},
		{"\x01\x02\x05\x05", "\x05\x05\x01\x02", Clash{k(3), k(10), k(10), k(3)}},
		{"\x01\x02\x05\x05", "\x02\x01\x04\x06", Clash{k(1), k(2), k(2), k(1)}}, // both parts differ below: the left one first
		{"\x01\x02\x05\x05", "\x01\x02\x04\x06", Clash{k(5), k(5), k(4), k(6)}},
		{"\x01\x02\x05\x05\x09", "\x01\x02\x04\x06\x09", Clash{k(5), k(5), k(4), k(6)}},
		{"\x00\x00\x00\x00\x01\x02", "\x00\x00\x00\x00\x02\x01", Clash{k(1), k(2), k(2), k(1)}},
		{"\x00\x00\x00\x00\x01\x02", "\x00\x00\x00\x01\x01\x01", Clash{k(0), k(3), k(1), k(2)}},
	} {
		got, code := clashOfLists(byteKeys(known.a), byteKeys(known.b), sum)
		checkClash(t, "clash", got, code, known.want, OK)
		got, code = clashOfLists(byteKeys(known.b), byteKeys(known.a), sum)
		checkClash(t, "turned round", got, code, known.want.turned(), OK)
	}
}

func TestClashesOfLongLists(t *testing.T) {
	sum := weakJoiners()["sum"]
	for _, n := range []int{255, MaxLeaves} {
		for i := range n - 1 {
			a := make([]Key, n)
			b := slices.Clone(a)
			b[i], b[i+1] = byteKey(1), byteKey(255) // together as nothing
			got, code := clashOfLists(a, b, sum)
			checkClash(t, strconv.Itoa(i), got, code, plainClash(a, b, sum), OK)
			if !isClash(got, sum) {
				t.Errorf("%v is no clash", got)
			}
		}
	}
	long := make([]Key, MaxLeaves+1)
	got, code := clashOfLists(long, long, sum)
	checkClash(t, "too many leaves", got, code, Clash{}, ErrLimit)
}

// plainClashOfLeaf returns the clash that a proof of the leaf i shows, whether there is one, and the key to which the
// proof leads, which has to have as many keys as it should.
func plainClashOfLeaf(list []Key, i int, leaf Key, proof []Key, join joiner) (Clash, bool, Key) {
	if len(list) == 1 {
		return Clash{}, false, leaf
	}
	m, last := cutOf(len(list)), len(proof)-1
	c := Clash{FirstLeft: plainJoined(list[:m], join), FirstRight: plainJoined(list[m:], join)}
	var below Clash
	var found bool
	if i < m {
		c.SecondRight = proof[last]
		below, found, c.SecondLeft = plainClashOfLeaf(list[:m], i, leaf, proof[:last], join)
	} else {
		c.SecondLeft = proof[last]
		below, found, c.SecondRight = plainClashOfLeaf(list[m:], i-m, leaf, proof[:last], join)
	}
	key := join(c.SecondLeft, c.SecondRight)
	switch {
	case found:
		return below, true, key
	case key == plainJoined(list, join) && (c.FirstLeft != c.SecondLeft || c.FirstRight != c.SecondRight):
		return c, true, key
	}
	return Clash{}, false, key
}

// checkLeaf fails the test if a proof does not show what it should, and reports whether it shows a clash.
func checkLeaf(t *testing.T, name string, list []Key, i int, leaf Key, proof []Key, join joiner) bool {
	t.Helper()
	got, code := clashOfLeaf(list, int64(i), leaf, proof, join)
	want, wantCode := Clash{}, int64(ErrState)
	if len(proof) == len(turnsTo(int64(len(list)), int64(i)).items) {
		shown, found, key := plainClashOfLeaf(list, i, leaf, proof, join)
		switch {
		case key != plainJoined(list, join):
		case leaf == list[i]:
			wantCode = ErrNotFound
		case !found:
			t.Errorf("%s: another leaf without a clash", name)
		default:
			want, wantCode = shown, OK
		}
	}
	checkClash(t, name, got, code, want, wantCode)
	if isClash(got, join) != (code == OK) {
		t.Errorf("%s: %v is taken for a clash, or not, with the code %d", name, got, code)
	}
	return code == OK
}

func TestClashesOfAllShortProofs(t *testing.T) {
	for name, join := range weakJoiners() {
		found := 0
		for n := 1; n <= 5; n++ {
			for _, list := range allLists(n, 2) {
				for i := range n {
					for keys := range 4 {
						for _, shown := range allLists(1+keys, 3) {
							if checkLeaf(t, name, list, i, shown[0], shown[1:], join) {
								found++
							}
						}
					}
				}
			}
		}
		if found < 100 {
			t.Errorf("%s: %d clashes", name, found)
		}
	}
}

func TestKnownClashesOfProofs(t *testing.T) {
	sum := weakJoiners()["sum"]
	k := byteKey
	for _, known := range []struct {
		list  string
		i     int64
		leaf  byte
		proof string
		want  Clash
	}{
		{"\x01\x02", 0, 3, "\x00", Clash{k(1), k(2), k(3), k(0)}},
		{"\x01\x02", 1, 3, "\x00", Clash{k(1), k(2), k(0), k(3)}},
		{"\x01\x02\x04", 0, 3, "\x00\x04", Clash{k(1), k(2), k(3), k(0)}},
		{"\x01\x02\x04", 0, 3, "\x01\x03", Clash{k(3), k(4), k(4), k(3)}}, // below, the keys are not equal
		{"\x01\x02\x04", 1, 3, "\x00\x04", Clash{k(1), k(2), k(0), k(3)}},
		{"\x01\x02\x04", 2, 3, "\x04", Clash{k(3), k(4), k(4), k(3)}},
		{"\x01\x02\x04\x08", 3, 4, "\x08\x03", Clash{k(4), k(8), k(8), k(4)}},
		{"\x01\x02\x04\x08", 3, 4, "\x09\x02", Clash{k(3), k(12), k(2), k(13)}},
	} {
		got, code := clashOfLeaf(byteKeys(known.list), known.i, k(known.leaf), byteKeys(known.proof), sum)
		checkClash(t, "clash", got, code, known.want, OK)
	}
}

func TestTheFirstClashFromTheLeafUpIsTold(t *testing.T) {
	left := weakJoiners()["left only"]
	right := weakJoiners()["right only"]
	list := byteKeys("\x00\x00\x00\x00\x00\x00\x00\x00")
	proof := byteKeys("\x05\x06\x07") // is another pair at each node
	own := keyOfLeaves(list[:2], left)
	got, code := clashOfLeaf(list, 1, byteKey(9), byteKeys("\x00\x06\x07"), left)
	checkClash(t, "at the lowest node", got, code, Clash{SecondRight: byteKey(9)}, OK)
	got, code = clashOfLeaf(list, 3, byteKey(9), byteKeys("\x05\x01\x07"), left)
	checkClash(t, "one node above", got, code, Clash{FirstLeft: own, FirstRight: own, SecondLeft: own, SecondRight: byteKey(6)}, OK)
	got, code = clashOfLeaf(list, 0, byteKey(9), proof, right)
	checkClash(t, "no proof of the list", got, code, Clash{}, ErrState)
	got, code = clashOfLeaf(list, 0, Key{}, proof, left)
	checkClash(t, "the leaf of the list", got, code, Clash{}, ErrNotFound)
}

func TestPairsThatClash(t *testing.T) {
	sum := weakJoiners()["sum"]
	k := byteKey
	for _, try := range []struct {
		c    Clash
		want bool
	}{
		{Clash{}, false},
		{Clash{k(1), k(2), k(1), k(2)}, false},
		{Clash{k(1), k(2), k(2), k(1)}, true},
		{Clash{k(1), k(1), k(0), k(2)}, true},
		{Clash{k(1), k(2), k(1), k(3)}, false},
		{Clash{k(1), k(2), k(3), k(2)}, false},
		{Clash{Key{1, 1}, k(2), k(1), k(2)}, true},
		{Clash{k(1), k(2), k(1), Key{31: 1, 0: 2}}, true},
	} {
		if isClash(try.c, sum) != try.want {
			t.Errorf("%v is taken for a clash, or not", try.c)
		}
	}
}

func TestListsOfClashesAreOnlyRead(t *testing.T) {
	sum := weakJoiners()["sum"]
	list, other, proof := byteKeys("\x01\x02\x04!!"), byteKeys("\x02\x01\x04!!"), byteKeys("\x00\x04!!")
	clashOfLists(list[:3], other[:3], sum)
	clashOfLeaf(list[:3], 0, byteKey(3), proof[:2], sum)
	for _, kept := range []struct {
		list []Key
		text string
	}{{list, "\x01\x02\x04!!"}, {other, "\x02\x01\x04!!"}, {proof, "\x00\x04!!"}} {
		if !slices.Equal(kept.list, byteKeys(kept.text)) {
			t.Errorf("a list is written into: %v", kept.list)
		}
	}
}
