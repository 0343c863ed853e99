package impl

import (
	"math/rand/v2"
	"slices"
	"strconv"
	"testing"
)

// Nobody knows two unlike nodes with one key. So these tests make keys in weaker ways, of which clashes are known, and
// take functions that are given the way of making keys; the functions of the document do nothing but give them hashOfMap.

// weakHashes returns ways of making keys that have many clashes.
func weakHashes() map[string]mapHash {
	return map[string]mapHash{
		"one key":    func(data []byte) Key { return byteKey(3) },
		"two keys":   func(data []byte) Key { return byteKey(hashOfMap(data)[0] % 2) },
		"three keys": func(data []byte) Key { return byteKey(hashOfMap(data)[0] % 3) },
		"value":      func(data []byte) Key { return byteKey(lastOf(data) % 4) },
	}
}

// lastOf returns the last one of some bytes, or 0.
func lastOf(data []byte) byte {
	if len(data) == 0 {
		return 0
	}
	return data[len(data)-1]
}

// someMap returns a map whose entries look random.
func someMap(r *rand.Rand) []Entry {
	var list []Entry
	for _, name := range []string{"a", "b", "c", "d", "e"} {
		if r.IntN(2) == 0 {
			list = append(list, someEntry(r, name))
		}
	}
	return list
}

// someEntry returns an entry with a value of few ones.
func someEntry(r *rand.Rand, name string) Entry {
	return Entry{Name: name, Value: strconv.Itoa(r.IntN(30))}
}

// somePath returns a path in which what is taken for the key of a map is likely: it may begin as own does.
func somePath(r *rand.Rand, own []MapNode) []MapNode {
	path := slices.Clone(own[:r.IntN(len(own)+1)])
	for range r.IntN(4) {
		path = append(path, MapNode{Left: byteKey(byte(r.IntN(4))), Right: byteKey(byte(r.IntN(4))), Entry: someEntry(r, string(rune('a'+r.IntN(6))))})
	}
	return path
}

// plainTold is what CheckName tells of a path, as the document says it; the code is OK or ErrProof.
func plainTold(root Key, name string, path []MapNode, hash mapHash) (bool, string, int64) {
	if len(path) == 0 {
		if root != hash(nil) {
			return false, "", ErrProof
		}
		return false, "", OK
	}
	top := path[0]
	data, _ := MapNodeBytes(top)
	switch {
	case hash(data) != root:
		return false, "", ErrProof
	case top.Entry.Name == name && len(path) == 1:
		return true, top.Entry.Value, OK
	case top.Entry.Name == name:
		return false, "", ErrProof
	case name < top.Entry.Name:
		return plainTold(top.Left, name, path[1:], hash)
	}
	return plainTold(top.Right, name, path[1:], hash)
}

// keyOrEmpty returns the key of a node, and for the node without anything that of the empty map.
func keyOrEmpty(n MapNode, hash mapHash) Key {
	data, code := MapNodeBytes(n)
	if code != OK {
		return hash(nil)
	}
	return hash(data)
}

// checkShown fails the test if two nodes are not the first unlike ones of the path of a map and of another path, or have
// not one key.
func checkShown(t *testing.T, own, path []MapNode, first, second MapNode, hash mapHash) {
	t.Helper()
	at := 0
	for at < min(len(own), len(path)) && own[at] == path[at] {
		at++
	}
	var wantFirst, wantSecond MapNode
	if at < len(own) {
		wantFirst = own[at]
	}
	if at < len(path) {
		wantSecond = path[at]
	}
	if first != wantFirst || second != wantSecond || first == second {
		t.Errorf("the paths %v and %v: got %v and %v", own, path, first, second)
	}
	if keyOrEmpty(first, hash) != keyOrEmpty(second, hash) {
		t.Errorf("%v and %v have unlike keys", first, second)
	}
}

func TestClashesOfNodes(t *testing.T) {
	for title, hash := range weakHashes() {
		r := rand.New(rand.NewPCG(1, 4)) // for each by itself, as the order of a map is not the same in every run
		count := map[string]int{}
		for range 20000 {
			list := someMap(r)
			name := string(rune('a' + r.IntN(6)))
			tree := treeOf(list, hash)
			own := gather(tree, pathTo(name), (*mapTree).ownNode)
			path := somePath(r, own)
			there, value, told := plainTold(tree.key, name, path, hash)
			has, found := valueOf(list, name)
			first, second, code := clashOfName(list, name, path, hash)
			want := int64(OK)
			switch {
			case told != OK:
				want = ErrState
			case there == found && value == has:
				want = ErrNotFound
			}
			if code != want {
				t.Fatalf("%s: the name %s of %v with the path %v: got the code %d, want %d", title, name, list, path, code, want)
			}
			count["code "+strconv.Itoa(int(code))]++
			if code != OK {
				if first != (MapNode{}) || second != (MapNode{}) {
					t.Errorf("%s: got %v and %v with the code %d", title, first, second, code)
				}
				continue
			}
			checkShown(t, own, path, first, second, hash)
			count["first "+strconv.FormatBool(first.isValid())]++
			count["second "+strconv.FormatBool(second.isValid())]++
		}
		for _, kind := range []string{"code 0", "code 4", "code 6", "first true", "second true", "first false", "second false"} {
			if count[kind] < 50 {
				t.Errorf("%s: %s came %d times", title, kind, count[kind])
			}
		}
	}
}

func TestKnownClashesOfNodes(t *testing.T) {
	oneKey := weakHashes()["one key"]
	node := func(name, value string) MapNode {
		return MapNode{Left: byteKey(3), Right: byteKey(3), Entry: Entry{Name: name, Value: value}}
	}
	list := []Entry{{Name: "a", Value: "1"}, {Name: "b", Value: "2"}} // "b" lies on the right of "a"
	a, b, none := node("a", "1"), node("b", "2"), MapNode{}
	for _, try := range []struct {
		name          string
		path          []MapNode
		first, second MapNode
		code          int64
	}{
		{"a", []MapNode{node("a", "2")}, a, node("a", "2"), OK},
		{"a", []MapNode{node("a", "")}, a, node("a", ""), OK},
		{"a", nil, a, none, OK},
		{"a", []MapNode{node("x", "1"), node("y", "1")}, a, node("x", "1"), OK},
		{"a", []MapNode{node("x", "1"), node("a", "2")}, a, node("x", "1"), OK},
		{"a", []MapNode{node("x", "1"), node("a", "1")}, none, none, ErrNotFound}, // unlike nodes that tell the same
		{"a", []MapNode{a}, none, none, ErrNotFound},
		{"a", []MapNode{a, b}, none, none, ErrState},
		{"b", nil, a, none, OK},
		{"b", []MapNode{a}, b, none, OK},
		{"b", []MapNode{a, node("b", "")}, b, node("b", ""), OK},
		{"b", []MapNode{a, node("x", ""), b}, none, none, ErrNotFound},
		{"b", []MapNode{a, b}, none, none, ErrNotFound},
		{"c", nil, none, none, ErrNotFound},
		{"c", []MapNode{a, b}, none, none, ErrNotFound},
		{"c", []MapNode{node("c", "")}, a, node("c", ""), OK},
		{"c", []MapNode{a, node("c", "3")}, b, node("c", "3"), OK},
		{"c", []MapNode{a, b, node("c", "3")}, none, node("c", "3"), OK},
		{"c", []MapNode{a, b, node("x", "3"), node("c", "3")}, none, node("x", "3"), OK},
		{"c", []MapNode{a, b, {Left: byteKey(4), Right: byteKey(4), Entry: Entry{Name: "x"}}}, none, none, ErrState},
	} {
		first, second, code := clashOfName(list, try.name, try.path, oneKey)
		if first != try.first || second != try.second || code != try.code {
			t.Errorf("%s with the path %v: got %v, %v and %d", try.name, try.path, first, second, code)
		}
	}
}

func TestTheFirstOfTheGreatestPrioritiesIsAbove(t *testing.T) {
	list := []Entry{{Name: "a"}, {Name: "b"}, {Name: "c"}, {Name: "d"}}
	low, high := byteKey(1), byteKey(2)
	for _, try := range []struct {
		priorities []Key
		names      string
	}{
		{[]Key{low, low, low, low}, "abcd"},
		{[]Key{low, high, high, low}, "bacd"},
		{[]Key{high, low, low, high}, "adbc"},
		{[]Key{low, low, low, high}, "dabc"},
		{[]Key{{}, {31: 1}, {31: 2}, {31: 1}}, "cbad"},
	} {
		names := ""
		for _, n := range gather(growTree(list, try.priorities, hashOfMap), allNames(), (*mapTree).ownNode) {
			names += n.Entry.Name
		}
		if names != try.names {
			t.Errorf("got the nodes %s, want %s", names, try.names)
		}
	}
}
