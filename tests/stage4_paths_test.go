package tests

import (
	"slices"
	"strings"
	"testing"

	"loop.example/g01174/impl"
)

// isAnswer fails the test if a path does not tell what it should about a name.
func isAnswer(t *testing.T, name string, there bool, value string) func(bool, string, int64) {
	return func(gotThere bool, gotValue string, code int64) {
		t.Helper()
		same(t, name+": code", code, impl.OK)
		same(t, name+": there", gotThere, there)
		same(t, name+": value", gotValue, value)
	}
}

// isNoAnswer fails the test if a path is taken.
func isNoAnswer(t *testing.T, name string, want int64) func(bool, string, int64) {
	return func(gotThere bool, gotValue string, code int64) {
		t.Helper()
		same(t, name+": code", code, want)
		same(t, name+": there", gotThere, false)
		same(t, name+": value", gotValue, "")
	}
}

func TestPathsTellWhatTheMapHas(t *testing.T) {
	for _, list := range mapsTried(431) {
		tree, root, values := growMap(list), mapKey(t, list), valuesOf(list)
		for _, name := range namesTried(list) {
			path := proveName(t, list, name)
			sameList(t, "path to "+name, path, tree.path(name))
			value, there := values[name]
			isAnswer(t, name, there, value)(impl.CheckName(root, name, path))
		}
	}
}

func TestPathsOfNamesThatAreNotThere(t *testing.T) {
	list := entries("b", "1", "d", "2")
	root := mapKey(t, list)
	for _, name := range []string{"a", "b\x00", "c", "d\x00", "e", "\x00", "\xff", "B", strings.Repeat("c", impl.MaxName)} {
		path := proveName(t, list, name)
		isAnswer(t, name, false, "")(impl.CheckName(root, name, path))
		isNoAnswer(t, name+", the path cut off", impl.ErrProof)(impl.CheckName(root, name, path[:len(path)-1]))
	}
	same(t, "nodes of a path to nothing", len(proveName(t, nil, "a")), 0)
	isAnswer(t, "no nodes", false, "")(impl.CheckName(impl.EmptyMapKey(), "a", nil))
	isAnswer(t, "no nodes, not nil", false, "")(impl.CheckName(impl.EmptyMapKey(), "a", []impl.MapNode{}))
	isNoAnswer(t, "no nodes of a map", impl.ErrProof)(impl.CheckName(root, "a", nil))
	isNoAnswer(t, "no nodes and no key", impl.ErrProof)(impl.CheckName(impl.Key{}, "a", nil))
	isNoAnswer(t, "a node of the empty map", impl.ErrProof)(impl.CheckName(impl.EmptyMapKey(), "a", proveName(t, list, "a")))
}

func TestEmptyValuesAreThere(t *testing.T) {
	list := entries("a", "", "b", "")
	for _, name := range []string{"a", "b"} {
		isAnswer(t, name, true, "")(impl.CheckName(mapKey(t, list), name, proveName(t, list, name)))
	}
}

// A path is taken for the key of a map just if it is that of the name: otherwise it would show two nodes with one key.
func TestPathsAreTakenForTheirNamesOnly(t *testing.T) {
	for _, list := range mapsTried(432) {
		tree, root, values := growMap(list), mapKey(t, list), valuesOf(list)
		names := namesTried(list)
		for i := 0; i < len(names); i += 1 + len(names)/20 {
			path := proveName(t, list, names[i])
			for _, name := range names {
				if slices.Equal(path, tree.path(name)) {
					value, there := values[name]
					isAnswer(t, name, there, value)(impl.CheckName(root, name, path))
				} else {
					isNoAnswer(t, name+" by the path to "+names[i], impl.ErrProof)(impl.CheckName(root, name, path))
				}
			}
		}
	}
}

func TestOtherPathsAreNotTaken(t *testing.T) {
	other := growMap(entries("a", "1")).node
	for _, list := range mapsTried(433) {
		root := mapKey(t, list)
		names := namesTried(list)
		for i := 0; i < len(names); i += 1 + len(names)/15 {
			name := names[i]
			path := proveName(t, list, name)
			for _, wrong := range wrongNodes(path, other) {
				if !slices.Equal(wrong, path) {
					isNoAnswer(t, "another path to "+name, impl.ErrProof)(impl.CheckName(root, name, wrong))
				}
			}
			for b := range 256 {
				isNoAnswer(t, "another root of "+name, impl.ErrProof)(impl.CheckName(flipped(root, b), name, path))
			}
			isNoAnswer(t, "the root 0", impl.ErrProof)(impl.CheckName(impl.Key{}, name, path))
			if len(path) > 0 {
				isNoAnswer(t, "no nodes", impl.ErrProof)(impl.CheckName(root, name, nil))
				isNoAnswer(t, "the empty map", impl.ErrProof)(impl.CheckName(impl.EmptyMapKey(), name, path))
				isNoAnswer(t, "all nodes behind the path", impl.ErrProof)(impl.CheckName(root, name, append(path, path...)[:min(2*len(path), impl.MaxEntries)]))
			}
		}
	}
}

func TestPathsEndWithTheName(t *testing.T) {
	list := countedMap(30)
	tree, root := growMap(list), mapKey(t, list)
	for _, below := range list {
		path := tree.path(below.Name)
		for i, n := range path[:len(path)-1] {
			name := n.Entry.Name
			isAnswer(t, name, true, n.Entry.Value)(impl.CheckName(root, name, path[:i+1]))
			isNoAnswer(t, name+", and nodes below", impl.ErrProof)(impl.CheckName(root, name, path))
			isNoAnswer(t, name+", and a node below", impl.ErrProof)(impl.CheckName(root, name, path[:i+2]))
		}
	}
	top := nodesOfMap(t, entries("a", "1"))
	isNoAnswer(t, "the node of the name twice", impl.ErrProof)(impl.CheckName(mapKey(t, entries("a", "1")), "a", append(top, top...)))
}

// nodeOver returns the node of a name over two trees, whose keys are told.
func nodeOver(left impl.Key, name string, right impl.Key) impl.MapNode {
	return impl.MapNode{Left: left, Right: right, Entry: impl.Entry{Name: name, Value: "v " + name}}
}

func TestPathsOfTreesThatAreNoMap(t *testing.T) {
	none := impl.EmptyMapKey()
	low := nodeOver(none, "z", none)
	top := nodeOver(plainNodeKey(low), "m", impl.Key{7}) // "z" lies on the left of "m"
	root := plainNodeKey(top)
	isAnswer(t, "on the left", false, "")(impl.CheckName(root, "a", []impl.MapNode{top, low}))
	isNoAnswer(t, "on the other side", impl.ErrProof)(impl.CheckName(root, "z", []impl.MapNode{top, low}))
	isNoAnswer(t, "the tree on the right is not shown", impl.ErrProof)(impl.CheckName(root, "z", []impl.MapNode{top}))
	isNoAnswer(t, "the tree on the left is not shown", impl.ErrProof)(impl.CheckName(root, "a", []impl.MapNode{top}))
	isAnswer(t, "the top", true, "v m")(impl.CheckName(root, "m", []impl.MapNode{top}))
	same(t, "0 is the key of no tree", plainEmpty() == impl.Key{}, false)
	bare := nodeOver(impl.Key{}, "m", none)
	isNoAnswer(t, "the key 0 on the left", impl.ErrProof)(impl.CheckName(plainNodeKey(bare), "a", []impl.MapNode{bare}))
	isAnswer(t, "the empty map on the right", false, "")(impl.CheckName(plainNodeKey(bare), "z", []impl.MapNode{bare}))
}

func TestPathsHaveALimit(t *testing.T) {
	for _, n := range []int{1, 2, impl.MaxEntries - 1, impl.MaxEntries} {
		chain := chainOf(n)
		root := plainNodeKey(chain[0])
		last := chain[n-1].Entry
		isAnswer(t, numbered("the last name", n), true, "v")(impl.CheckName(root, last.Name, chain))
		isAnswer(t, numbered("behind it", n), false, "")(impl.CheckName(root, last.Name+"x", chain))
		isNoAnswer(t, numbered("before all", n), impl.ErrProof)(impl.CheckName(flipped(root, 1), "a", chain))
	}
	for _, n := range []int{impl.MaxEntries + 1, 2 * impl.MaxEntries} {
		chain := chainOf(n)
		root := plainNodeKey(chain[0])
		isNoAnswer(t, numbered("a chain", n), impl.ErrLimit)(impl.CheckName(root, chain[n-1].Entry.Name, chain))
		isNoAnswer(t, numbered("a chain with another root", n), impl.ErrLimit)(impl.CheckName(impl.Key{}, "a", chain))
		isNoAnswer(t, numbered("a chain whose top has the name", n), impl.ErrLimit)(impl.CheckName(root, chain[0].Entry.Name, chain))
	}
}

func TestEveryNodeOfALongPathMatters(t *testing.T) {
	chain := chainOf(impl.MaxEntries)
	root, last := plainNodeKey(chain[0]), chain[impl.MaxEntries-1].Entry.Name
	for i, n := range chain {
		for _, changed := range changedNodes(n) {
			wrong := slices.Clone(chain)
			wrong[i] = changed
			isNoAnswer(t, numbered("a node changed", i), impl.ErrProof)(impl.CheckName(root, last, wrong))
			isNone[impl.Entry](t, numbered("a node of a range changed", i), impl.ErrProof)(impl.CheckRangeOfMap(root, "", "z", wrong))
		}
	}
}

func TestWrongNodesOfPathsComeFirst(t *testing.T) {
	for _, n := range []int{1, 2, impl.MaxEntries, impl.MaxEntries + 1} {
		chain := chainOf(n)
		root := plainNodeKey(chain[0])
		for _, name := range wrongNames() {
			isNoAnswer(t, numbered("no name", n), impl.ErrInvalid)(impl.CheckName(root, name, chain))
			isNoAnswer(t, numbered("no name and another root", n), impl.ErrInvalid)(impl.CheckName(impl.Key{}, name, chain))
			isNoAnswer(t, "no name and no nodes", impl.ErrInvalid)(impl.CheckName(impl.EmptyMapKey(), name, nil))
		}
		for _, e := range wrongEntries() {
			for _, i := range []int{0, n / 2, n - 1} {
				wrong := slices.Clone(chain)
				wrong[i].Entry = e
				isNoAnswer(t, numbered("no node", n, i), impl.ErrInvalid)(impl.CheckName(root, "a", wrong))
			}
			behind := append(slices.Clone(chain), impl.MapNode{Entry: e})
			isNoAnswer(t, numbered("no node behind others", n), impl.ErrInvalid)(impl.CheckName(root, chain[n-1].Entry.Name, behind))
		}
		isNoAnswer(t, "the node without anything", impl.ErrInvalid)(impl.CheckName(root, "a", append(chain, impl.MapNode{})))
	}
}
