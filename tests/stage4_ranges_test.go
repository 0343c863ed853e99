package tests

import (
	"slices"
	"strings"
	"testing"

	"loop.example/g01174/impl"
)

func TestRangesTellWhatTheMapHas(t *testing.T) {
	for _, list := range mapsTried(441) {
		tree, root := growMap(list), mapKey(t, list)
		texts := textsTried(list)
		for _, from := range texts {
			for _, to := range texts {
				nodes := proveRange(t, list, from, to)
				name := "from " + from + " to " + to
				sameList(t, "nodes "+name, nodes, tree.met(from, to))
				isMap(t, name, plainRange(list, from, to))(impl.CheckRangeOfMap(root, from, to, nodes))
			}
		}
	}
}

func TestEveryRangeOfSomeMaps(t *testing.T) {
	for _, list := range [][]impl.Entry{countedMap(1), countedMap(2), countedMap(13), someMap(chance(444), 9)} {
		tree, root := growMap(list), mapKey(t, list)
		texts := []string{"", strings.Repeat("\xff", 99)}
		for _, e := range list {
			texts = append(texts, e.Name, e.Name+"\x00")
		}
		for _, from := range texts {
			for _, to := range texts {
				nodes := proveRange(t, list, from, to)
				sameList(t, "nodes from "+from+" to "+to, nodes, tree.met(from, to))
				isMap(t, "from "+from+" to "+to, plainRange(list, from, to))(impl.CheckRangeOfMap(root, from, to, nodes))
			}
		}
	}
}

func TestRangesOfSomeKinds(t *testing.T) {
	list := countedMap(20)
	root, all := mapKey(t, list), nodesOfMap(t, list)
	check := func(name, from, to string, nodes []impl.MapNode, want []impl.Entry) {
		t.Helper()
		got := proveRange(t, list, from, to)
		sameList(t, name+": nodes", got, nodes)
		isMap(t, name, want)(impl.CheckRangeOfMap(root, from, to, got))
	}
	check("all names", "", "z", all, list)
	check("all but the last name", "n00", "n19", proveRange(t, list, "", "n19"), list[:19])
	check("no names before all", "", "\x00", proveName(t, list, "\x00"), nil)
	check("no names behind all", "z", "zz", proveName(t, list, "z"), nil)
	check("the empty range of a name", "n07", "n07", proveName(t, list, "n07"), nil)
	check("turned round at the top", "z", "", all[:1], nil) // its name is neither greater than "z" nor less than ""
	one := proveRange(t, list, "n07", "n08")
	isMap(t, "one name", list[7:8])(impl.CheckRangeOfMap(root, "n07", "n08", one))
	for _, n := range all {
		isMap(t, "turned round", nil)(impl.CheckRangeOfMap(root, n.Entry.Name+"x", n.Entry.Name, proveRange(t, list, n.Entry.Name+"x", n.Entry.Name)))
	}
}

func TestRangesOfTheEmptyMap(t *testing.T) {
	for _, to := range []string{"", "a", strings.Repeat("z", 100)} {
		same(t, "nodes", len(proveRange(t, nil, "", to)), 0)
		isMap(t, "no nodes", nil)(impl.CheckRangeOfMap(impl.EmptyMapKey(), "", to, nil))
		isMap(t, "no nodes, not nil", nil)(impl.CheckRangeOfMap(impl.EmptyMapKey(), to, "", []impl.MapNode{}))
		isNone[impl.Entry](t, "a node", impl.ErrProof)(impl.CheckRangeOfMap(impl.EmptyMapKey(), "", to, chainOf(1)))
		isNone[impl.Entry](t, "no nodes of a map", impl.ErrProof)(impl.CheckRangeOfMap(mapKey(t, entries("a", "1")), "", to, nil))
		isNone[impl.Entry](t, "no nodes and no key", impl.ErrProof)(impl.CheckRangeOfMap(impl.Key{}, "", to, nil))
	}
}

// Nodes are taken for the key of a map just if they are those of the range: otherwise they would show two nodes with
// one key.
func TestNodesAreTakenForTheirRangesOnly(t *testing.T) {
	for _, list := range mapsTried(442) {
		tree, root := growMap(list), mapKey(t, list)
		texts := textsTried(list)[:min(12, len(list)+4)]
		for i := range texts {
			nodes := proveRange(t, list, texts[i], texts[len(texts)-1-i])
			for _, from := range texts {
				for _, to := range texts {
					if slices.Equal(nodes, tree.met(from, to)) {
						isMap(t, "from "+from+" to "+to, plainRange(list, from, to))(impl.CheckRangeOfMap(root, from, to, nodes))
					} else {
						isNone[impl.Entry](t, "other nodes from "+from+" to "+to, impl.ErrProof)(impl.CheckRangeOfMap(root, from, to, nodes))
					}
				}
			}
		}
	}
}

func TestOtherNodesAreNotTaken(t *testing.T) {
	other := growMap(entries("a", "1")).node
	for _, list := range mapsTried(443) {
		root := mapKey(t, list)
		middle := "n"
		if len(list) > 0 {
			middle = list[len(list)/2].Name
		}
		for _, ends := range [][2]string{{"", strings.Repeat("\xff", 99)}, {"", middle}, {middle, "\xff"}, {middle, middle}, {middle, ""}} {
			nodes := proveRange(t, list, ends[0], ends[1])
			check := func(name string, root impl.Key, nodes []impl.MapNode, want int64) {
				t.Helper()
				isNone[impl.Entry](t, name, want)(impl.CheckRangeOfMap(root, ends[0], ends[1], nodes))
			}
			for _, wrong := range wrongNodes(nodes, other) {
				if len(wrong) > impl.MaxEntries {
					check("too many nodes", root, wrong, impl.ErrLimit)
				} else if !slices.Equal(wrong, nodes) {
					check("other nodes", root, wrong, impl.ErrProof)
				}
			}
			for b := 0; b < 256; b += 5 {
				check("another root", flipped(root, b), nodes, impl.ErrProof)
			}
			if len(nodes) > 0 {
				check("no nodes", root, nil, impl.ErrProof)
				check("the empty map", impl.EmptyMapKey(), nodes, impl.ErrProof)
			}
		}
	}
}

// shape is a tree of any shape: a name, and two trees, nil being that of the empty map.
type shape struct {
	name        string
	left, right *shape
}

// nodes returns the nodes of a tree, and its key.
func (s *shape) nodes() ([]impl.MapNode, impl.Key) {
	if s == nil {
		return nil, plainEmpty()
	}
	left, leftKey := s.left.nodes()
	right, rightKey := s.right.nodes()
	top := nodeOver(leftKey, s.name, rightKey)
	return slices.Concat([]impl.MapNode{top}, left, right), plainNodeKey(top)
}

func TestNamesHaveToLieWhereTheyShould(t *testing.T) {
	leaf := func(name string) *shape { return &shape{name: name} }
	for _, wrong := range []*shape{
		{"m", leaf("z"), nil},
		{"m", nil, leaf("a")},
		{"m", leaf("m"), nil},
		{"m", nil, leaf("m")},
		{"m", leaf("m\x00"), nil},
		{"m\x00", nil, leaf("m")},
		{"m", &shape{"c", nil, leaf("z")}, nil},
		{"m", &shape{"c", nil, leaf("m")}, nil},
		{"m", &shape{"c", nil, leaf("c")}, nil},
		{"m", nil, &shape{"x", leaf("a"), nil}},
		{"m", nil, &shape{"x", leaf("m"), nil}},
		{"m", nil, &shape{"x", leaf("x"), nil}},
		{"m", nil, &shape{"x", leaf("p"), leaf("o")}},
		{"m", &shape{"c", leaf("a"), &shape{"e", leaf("d"), &shape{"f", nil, leaf("n")}}}, nil},
		{"m", nil, &shape{"x", &shape{"t", &shape{"p", leaf("l"), nil}, nil}, leaf("y")}},
	} {
		nodes, root := wrong.nodes()
		isNone[impl.Entry](t, "all names of "+wrong.name, impl.ErrProof)(impl.CheckRangeOfMap(root, "", "\xff", nodes))
	}
	// No node is looked at that lies where it should not.
	nodes, root := (&shape{"m", leaf("a"), leaf("b")}).nodes()
	want := []impl.Entry{{Name: "a", Value: "v a"}}
	isMap(t, "the left tree alone", want)(impl.CheckRangeOfMap(root, "", "m", nodes[:2]))
	isNone[impl.Entry](t, "both trees", impl.ErrProof)(impl.CheckRangeOfMap(root, "", "n", nodes))
}

func TestNamesAreInAnyTreeThatHasThemInOrder(t *testing.T) {
	leaf := func(name string) *shape { return &shape{name: name} }
	tree := &shape{"m", &shape{"c", leaf("a"), &shape{"e", leaf("d"), leaf("e\x00")}}, &shape{"x", leaf("m\x00"), leaf("\xff\xff")}}
	nodes, root := tree.nodes()
	var want []impl.Entry
	for _, name := range []string{"a", "c", "d", "e", "e\x00", "m", "m\x00", "x", "\xff\xff"} {
		want = append(want, impl.Entry{Name: name, Value: "v " + name})
	}
	isMap(t, "all names", want)(impl.CheckRangeOfMap(root, "", "\xff\xff\xff", nodes))
	isMap(t, "from the first one", want)(impl.CheckRangeOfMap(root, "\x00", "\xff\xff\xff", nodes))
	long := strings.Repeat("\xff", impl.MaxName)
	nodes, root = (&shape{long, leaf(long[1:]), nil}).nodes()
	want = []impl.Entry{{Name: long[1:], Value: "v " + long[1:]}, {Name: long, Value: "v " + long}}
	isMap(t, "the last names", want)(impl.CheckRangeOfMap(root, "", strings.Repeat("\xff", 99), nodes))
	isMap(t, "before the last name", want[:1])(impl.CheckRangeOfMap(root, "", long, nodes))
}

func TestRangesHaveALimit(t *testing.T) {
	for _, n := range []int{1, 2, impl.MaxEntries - 1, impl.MaxEntries} {
		chain := chainOf(n)
		var all []impl.Entry
		for _, node := range chain {
			all = append(all, node.Entry)
		}
		isMap(t, numbered("a chain", n), all)(impl.CheckRangeOfMap(plainNodeKey(chain[0]), "", "z", chain))
	}
	for _, n := range []int{impl.MaxEntries + 1, 2 * impl.MaxEntries} {
		chain := chainOf(n)
		isNone[impl.Entry](t, numbered("a chain", n), impl.ErrLimit)(impl.CheckRangeOfMap(plainNodeKey(chain[0]), "", "z", chain))
		isNone[impl.Entry](t, numbered("a chain with another root", n), impl.ErrLimit)(impl.CheckRangeOfMap(impl.Key{}, "", "z", chain))
		isNone[impl.Entry](t, numbered("nodes of the empty map", n), impl.ErrLimit)(impl.CheckRangeOfMap(impl.EmptyMapKey(), "", "z", chain))
	}
}

func TestWrongNodesOfRangesComeFirst(t *testing.T) {
	for _, n := range []int{1, 2, impl.MaxEntries, impl.MaxEntries + 1} {
		chain := chainOf(n)
		root := plainNodeKey(chain[0])
		for _, e := range wrongEntries() {
			for _, i := range []int{0, n / 2, n - 1} {
				wrong := slices.Clone(chain)
				wrong[i].Entry = e
				isNone[impl.Entry](t, numbered("no node", n, i), impl.ErrInvalid)(impl.CheckRangeOfMap(root, "", "z", wrong))
			}
			behind := append(slices.Clone(chain), impl.MapNode{Entry: e})
			isNone[impl.Entry](t, numbered("no node behind others", n), impl.ErrInvalid)(impl.CheckRangeOfMap(root, "", "z", behind))
		}
	}
}
