package tests

import (
	"slices"
	"strings"
	"testing"

	"loop.example/g01174/impl"
)

// noEntry, noNode and noChange do not occur in the lists of these tests.
var (
	noEntry  = impl.Entry{Name: "none", Value: "none"}
	noNode   = impl.MapNode{Entry: noEntry}
	noChange = impl.Change{Name: "none", HadOld: true, Old: "none"}
)

// toldOfMap is what functions of maps tell that return no slices.
type toldOfMap struct {
	key           impl.Key
	first, second impl.MapNode
	value         string
	number, code  int64
	right         bool
}

// withoutCode returns a call of the list that another one returns with a code.
func withoutCode[A, R any](call func([]A) ([]R, int64)) func([]A) []R {
	return func(list []A) []R {
		result, _ := call(list)
		return result
	}
}

func TestEntriesAreApart(t *testing.T) {
	for _, list := range append(mapsTried(471), wrongMaps()...) {
		names := []string{"a", "n07", "n99", "z"}
		for i := 0; i < len(list); i += 1 + len(list)/4 {
			names = append(names, list[i].Name)
		}
		for _, name := range names {
			for title, call := range map[string]func([]impl.Entry) ([]impl.Entry, int64){
				"PutEntry": func(list []impl.Entry) ([]impl.Entry, int64) {
					return impl.PutEntry(list, impl.Entry{Name: name, Value: "?"})
				},
				"DeleteEntry":    func(list []impl.Entry) ([]impl.Entry, int64) { return impl.DeleteEntry(list, name) },
				"RangeOfEntries": func(list []impl.Entry) ([]impl.Entry, int64) { return impl.RangeOfEntries(list, name, "z") },
				"all entries": func(list []impl.Entry) ([]impl.Entry, int64) {
					return impl.RangeOfEntries(list, "", strings.Repeat("\xff", 25))
				},
				"no changes": func(list []impl.Entry) ([]impl.Entry, int64) { return impl.ApplyChanges(list, nil) },
				"an entry more": func(list []impl.Entry) ([]impl.Entry, int64) {
					return impl.ApplyChanges(list, []impl.Change{added(name, "?")})
				},
				"changes": func(list []impl.Entry) ([]impl.Entry, int64) {
					changes, _ := impl.ChangesOf(list, entries("b", "2", name+"!", "3"))
					return impl.ApplyChanges(list, changes)
				},
			} {
				checkApart(t, title+" "+name, list, noEntry, noEntry, withoutCode(call))
			}
		}
	}
}

func TestNodesOfMapsAreApart(t *testing.T) {
	for _, list := range append(mapsTried(472), wrongMaps()...) {
		for title, call := range map[string]func([]impl.Entry) ([]impl.MapNode, int64){
			"NodesOfMap": impl.NodesOfMap,
			"ProveName":  func(list []impl.Entry) ([]impl.MapNode, int64) { return impl.ProveName(list, "n07") },
			"ProveRange": func(list []impl.Entry) ([]impl.MapNode, int64) { return impl.ProveRange(list, "b", "n11") },
			"all nodes":  func(list []impl.Entry) ([]impl.MapNode, int64) { return impl.ProveRange(list, "", "\xff\xff") },
		} {
			checkApart(t, title, list, noEntry, noNode, withoutCode(call))
		}
	}
}

func TestEntriesOfNodesAreApart(t *testing.T) {
	for _, list := range mapsTried(473) {
		root := mapKey(t, list)
		for _, ends := range [][2]string{{"", "\xff\xff"}, {"b", "n11"}, {"z", ""}} {
			nodes := proveRange(t, list, ends[0], ends[1])
			for _, tried := range [][]impl.MapNode{nodes, nodes[:len(nodes)/2], chainOf(3)} {
				checkApart(t, "CheckRangeOfMap", tried, noNode, noEntry, func(nodes []impl.MapNode) []impl.Entry {
					some, _ := impl.CheckRangeOfMap(root, ends[0], ends[1], nodes)
					return some
				})
			}
		}
	}
}

func TestChangesAreApart(t *testing.T) {
	for _, p := range append(pairsTried(474), [2][]impl.Entry{wrongMaps()[0], nil}) {
		a, b := p[0], p[1]
		checkApart(t, "from a map", a, noEntry, noChange, withoutCode(func(a []impl.Entry) ([]impl.Change, int64) { return impl.ChangesOf(a, b) }))
		checkApart(t, "to a map", b, noEntry, noChange, withoutCode(func(b []impl.Entry) ([]impl.Change, int64) { return impl.ChangesOf(a, b) }))
		checkApart(t, "ApplyChanges", plainChanges(a, b), noChange, noEntry, func(changes []impl.Change) []impl.Entry {
			changed, _ := impl.ApplyChanges(a, changes)
			return changed
		})
	}
}

func TestMapsAreOnlyRead(t *testing.T) {
	for _, list := range append(mapsTried(475), wrongMaps()...) {
		for _, name := range []string{"a", "n03", "\xff", ""} {
			path := growMap(slices.Clone(list)).path(name)
			checkApart(t, "a map and the name "+name, list, noEntry, toldOfMap{}, func(list []impl.Entry) []toldOfMap {
				value, one := impl.GetEntry(list, name)
				key, two := impl.MapKey(list)
				depth, three := impl.DepthOfName(list, name)
				shared, four := impl.SharedNodes(list, list[len(list)/2:])
				first, second, five := impl.ClashOfName(list, name, path)
				return []toldOfMap{
					{value: value, code: one}, {key: key, code: two}, {number: depth, code: three}, {number: shared, code: four},
					{first: first, second: second, code: five}, {right: impl.ValidEntries(list)}, {right: impl.SameEntries(list, list)},
				}
			})
		}
	}
}

func TestPathsAreOnlyRead(t *testing.T) {
	for _, list := range mapsTried(476) {
		root := mapKey(t, list)
		for _, name := range []string{"a", "n03", "\xff", ""} {
			path := growMap(list).path(name)
			for _, nodes := range [][]impl.MapNode{path, path[:len(path)/2], chainOf(5), chainOf(impl.MaxEntries + 1)} {
				checkApart(t, "a path to "+name, nodes, noNode, toldOfMap{}, func(nodes []impl.MapNode) []toldOfMap {
					there, value, one := impl.CheckName(root, name, nodes)
					first, second, two := impl.ClashOfName(list, name, nodes)
					return []toldOfMap{{right: there, value: value, code: one}, {first: first, second: second, code: two}}
				})
			}
		}
	}
}

func TestBytesOfNodesAreApart(t *testing.T) {
	n := impl.MapNode{Left: impl.Key{1}, Right: impl.Key{2}, Entry: impl.Entry{Name: "a name", Value: "a value"}}
	first, _ := impl.MapNodeBytes(n)
	overwrite(first, noByte)
	second, _ := impl.MapNodeBytes(n)
	sameBytes(t, "a second time", second, plainNodeBytes(n))
	for _, data := range [][]byte{second, second[:70], second[:40]} {
		checkApart(t, "ReadMapNode", data, noByte, noNode, func(data []byte) []impl.MapNode {
			node, _ := impl.ReadMapNode(data)
			return []impl.MapNode{node}
		})
	}
}

func TestMapsPutInTwoWaysAreApart(t *testing.T) {
	list := slices.Grow(entries("a", "1", "c", "3"), 10)
	left, _ := impl.PutEntry(list, impl.Entry{Name: "b", Value: "left"})
	right, _ := impl.PutEntry(list, impl.Entry{Name: "d", Value: "right"})
	less, _ := impl.DeleteEntry(left, "a")
	sameList(t, "before", list, entries("a", "1", "c", "3"))
	sameList(t, "the one way", left, entries("a", "1", "b", "left", "c", "3"))
	sameList(t, "the other way", right, entries("a", "1", "c", "3", "d", "right"))
	sameList(t, "less", less, entries("b", "left", "c", "3"))
}

func TestLargeArgumentsOfMapsReturn(t *testing.T) {
	long := strings.Repeat("a", 1000000)
	list := slices.Repeat(entries("a", "1"), 300000)
	nodes := slices.Repeat([]impl.MapNode{{Entry: impl.Entry{Name: "a"}}}, 200000)
	same(t, "ValidEntry", impl.ValidEntry(impl.Entry{Name: long, Value: long}), false)
	same(t, "ValidEntries", impl.ValidEntries(list), false)
	same(t, "SameEntries", impl.SameEntries(list, list), true)
	isCode[string](t, "GetEntry", impl.ErrInvalid)(impl.GetEntry(list, "a"))
	isCode[impl.Key](t, "PriorityOf", impl.ErrInvalid)(impl.PriorityOf(long))
	isCode[impl.Key](t, "MapKey", impl.ErrInvalid)(impl.MapKey(list))
	isCode[impl.MapNode](t, "ReadMapNode", impl.ErrSyntax)(impl.ReadMapNode([]byte(long)))
	isNone[impl.MapNode](t, "ProveRange", impl.ErrInvalid)(impl.ProveRange(list, long, long))
	isNone[impl.MapNode](t, "ProveName", impl.ErrInvalid)(impl.ProveName(nil, long))
	isNoAnswer(t, "CheckName", impl.ErrLimit)(impl.CheckName(impl.Key{}, "a", nodes))
	isNone[impl.Entry](t, "CheckRangeOfMap", impl.ErrLimit)(impl.CheckRangeOfMap(impl.Key{}, long, long, nodes))
	isMap(t, "long texts", nil)(impl.CheckRangeOfMap(impl.EmptyMapKey(), long, long, nil))
	isNoClashOfNodes(t, "ClashOfName", impl.ErrState)(impl.ClashOfName(nil, "a", nodes))
	isNone[impl.Change](t, "ChangesOf", impl.ErrInvalid)(impl.ChangesOf(list, list))
	isCode[int64](t, "SharedNodes", impl.ErrInvalid)(impl.SharedNodes(list, list))
	there, back := given("n07", "vvvvvvv", "x"), given("n07", "x", "vvvvvvv")
	full := countedMap(impl.MaxEntries)
	isMap(t, "many changes", full)(impl.ApplyChanges(full, slices.Repeat([]impl.Change{there, back}, 100000)))
}
