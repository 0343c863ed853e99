package tests

import (
	"math/rand/v2"
	"slices"
	"strings"
	"testing"

	"loop.example/g01174/impl"
)

// plainMap is the tree of a map as the document tells it; nil is that of the empty map.
type plainMap struct {
	node        impl.MapNode
	left, right *plainMap
}

// growMap returns the tree of a map.
func growMap(list []impl.Entry) *plainMap {
	if len(list) == 0 {
		return nil
	}
	top := 0
	for i := range list {
		if before(plainPriority(list[top].Name), plainPriority(list[i].Name)) {
			top = i
		}
	}
	left, right := growMap(list[:top]), growMap(list[top+1:])
	return &plainMap{node: impl.MapNode{Left: left.key(), Right: right.key(), Entry: list[top]}, left: left, right: right}
}

// plainPriority is PriorityOf as the document tells it.
func plainPriority(name string) impl.Key {
	return plainHash(4, []byte(name))
}

// before reports whether the key a comes before b.
func before(a, b impl.Key) bool {
	return slices.Compare(a[:], b[:]) < 0
}

// plainEmpty is EmptyMapKey as the document tells it.
func plainEmpty() impl.Key {
	return plainHash(5, nil)
}

// plainNodeBytes is MapNodeBytes as the document tells it.
func plainNodeBytes(n impl.MapNode) []byte {
	return slices.Concat(n.Left[:], n.Right[:], []byte{byte(len(n.Entry.Name))}, []byte(n.Entry.Name), []byte(n.Entry.Value))
}

// plainNodeKey is MapNodeKey as the document tells it.
func plainNodeKey(n impl.MapNode) impl.Key {
	return plainHash(5, plainNodeBytes(n))
}

// key returns the key of a tree.
func (m *plainMap) key() impl.Key {
	if m == nil {
		return plainEmpty()
	}
	return plainNodeKey(m.node)
}

// nodes returns all nodes, each before those on its left, and these before those on its right.
func (m *plainMap) nodes() []impl.MapNode {
	if m == nil {
		return nil
	}
	return slices.Concat([]impl.MapNode{m.node}, m.left.nodes(), m.right.nodes())
}

// path returns the nodes that lead to a name.
func (m *plainMap) path(name string) []impl.MapNode {
	var path []impl.MapNode
	for m != nil {
		path = append(path, m.node)
		switch {
		case name == m.node.Entry.Name:
			return path
		case name < m.node.Entry.Name:
			m = m.left
		default:
			m = m.right
		}
	}
	return path
}

// met returns the nodes that are met when a range is looked for.
func (m *plainMap) met(from, to string) []impl.MapNode {
	if m == nil {
		return nil
	}
	nodes := []impl.MapNode{m.node}
	if m.node.Entry.Name > from {
		nodes = append(nodes, m.left.met(from, to)...)
	}
	if m.node.Entry.Name < to {
		nodes = append(nodes, m.right.met(from, to)...)
	}
	return nodes
}

// plainMapKey is MapKey as the document tells it.
func plainMapKey(list []impl.Entry) impl.Key {
	return growMap(list).key()
}

// plainRange is RangeOfEntries as the document tells it.
func plainRange(list []impl.Entry, from, to string) []impl.Entry {
	var some []impl.Entry
	for _, e := range list {
		if from <= e.Name && e.Name < to {
			some = append(some, e)
		}
	}
	return some
}

// valuesOf returns the values of a map by their names.
func valuesOf(list []impl.Entry) map[string]string {
	values := map[string]string{}
	for _, e := range list {
		values[e.Name] = e.Value
	}
	return values
}

// mapOf returns the map with some values.
func mapOf(values map[string]string) []impl.Entry {
	var list []impl.Entry
	for name, value := range values {
		list = append(list, impl.Entry{Name: name, Value: value})
	}
	slices.SortFunc(list, func(a, b impl.Entry) int { return strings.Compare(a.Name, b.Name) })
	return list
}

// entries returns entries whose names and values are told one behind the other.
func entries(told ...string) []impl.Entry {
	var list []impl.Entry
	for pair := range slices.Chunk(told, 2) {
		list = append(list, impl.Entry{Name: pair[0], Value: pair[1]})
	}
	return list
}

// someName returns a name that looks random, of any length: most names begin as many others do.
func someName(r *rand.Rand) string {
	n := 1 + r.IntN(impl.MaxName)
	switch r.IntN(4) {
	case 0:
		return string(someBytes(r, n))
	case 1:
		return strings.Repeat("\xff", n)
	case 2:
		return strings.Repeat("\x00", n-1) + string(someBytes(r, 1))
	}
	return string(fewBytes(r, 1+n%5))
}

// someValue returns a value that looks random, of any length.
func someValue(r *rand.Rand) string {
	switch r.IntN(4) {
	case 0:
		return ""
	case 1:
		return string(someBytes(r, impl.MaxValue))
	}
	return string(fewBytes(r, r.IntN(3)))
}

// someMap returns a map of n entries that look random.
func someMap(r *rand.Rand, n int) []impl.Entry {
	values := map[string]string{}
	for len(values) < n {
		values[someName(r)] = someValue(r)
	}
	return mapOf(values)
}

// countedMap returns the map of the names "n00", "n01" and so on, the value of the name i being the letter v i times.
func countedMap(n int) []impl.Entry {
	var list []impl.Entry
	for i := range n {
		name := "n" + string(rune('0'+i/10)) + string(rune('0'+i%10))
		list = append(list, impl.Entry{Name: name, Value: strings.Repeat("v", i)})
	}
	return list
}

// mapsTried returns maps of several kinds and lengths.
func mapsTried(seed uint64) [][]impl.Entry {
	r := chance(seed)
	long := strings.Repeat("\xff", impl.MaxName)
	maps := [][]impl.Entry{
		nil,
		{},
		entries("a", "1"),
		entries("\x00", ""),
		entries(long, strings.Repeat("\xff", impl.MaxValue)),
		entries("\x00", "0", "\x00\x00", "1", "a", "", "a\x00", "2", "aa", "2", long, "3"),
	}
	for _, n := range []int{1, 2, 3, 4, 5, 8, 13, 21, 40, impl.MaxEntries - 1, impl.MaxEntries} {
		maps = append(maps, someMap(r, n), countedMap(n))
	}
	return maps
}

// namesTried returns the names of a map, and names that are not in it: one less than all, one greater, and those
// nearest to each of its names.
func namesTried(list []impl.Entry) []string {
	names := []string{"\x00", "a", "b", "n055", strings.Repeat("\xff", impl.MaxName)}
	for _, e := range list {
		last := len(e.Name) - 1
		low := e.Name[:last] + string([]byte{e.Name[last] - 1}) + "\xff"
		for _, name := range []string{e.Name, e.Name[:last], e.Name + "\x00", e.Name + "\xff", low} {
			if len(name) >= 1 && len(name) <= impl.MaxName {
				names = append(names, name)
			}
		}
	}
	slices.Sort(names)
	return slices.Compact(names)
}

// textsTried returns names, some texts that are none, and no bytes: from and to of ranges may be any.
func textsTried(list []impl.Entry) []string {
	names := namesTried(list)
	few := []string{"", strings.Repeat("\xff", impl.MaxName+1), strings.Repeat("n", 200)}
	for i := 0; i < len(names); i += 1 + len(names)/9 {
		few = append(few, names[i])
	}
	for i := 0; i < len(list); i += 1 + len(list)/5 {
		few = append(few, list[i].Name)
	}
	return few
}

// wrongEntries returns entries that are not valid.
func wrongEntries() []impl.Entry {
	return []impl.Entry{
		{},
		{Value: "1"},
		{Name: strings.Repeat("a", impl.MaxName+1), Value: "1"},
		{Name: "a", Value: strings.Repeat("1", impl.MaxValue+1)},
		{Name: strings.Repeat("\x00", 1000), Value: strings.Repeat("\x00", 1000)},
		{Name: strings.Repeat("a", 256+5)},
	}
}

// wrongNames returns texts that are no names.
func wrongNames() []string {
	return []string{"", strings.Repeat("a", impl.MaxName+1), strings.Repeat("\x00", impl.MaxName+1), strings.Repeat("a", 256+5)}
}

// wrongMaps returns lists of entries that are no maps.
func wrongMaps() [][]impl.Entry {
	lists := [][]impl.Entry{
		entries("b", "1", "a", "2"),
		entries("a", "1", "a", "1"),
		entries("a", "1", "a", "2"),
		entries("a", "1", "b", "1", "b", "1"),
		entries("a", "1", "c", "1", "b", "1"),
		entries("b", "1", "a", "1", "c", "1"),
		entries("a\x00", "1", "a", "1"),
		entries("\xff", "1", "a", "1"),
		append(countedMap(impl.MaxEntries), entries("z", "")...),
		append(countedMap(impl.MaxEntries), entries("a", "")...),
	}
	for _, e := range wrongEntries() {
		last := impl.Entry{Name: "b" + e.Name, Value: e.Value}
		lists = append(lists, []impl.Entry{e})
		if !plainEntry(last) {
			lists = append(lists, append(entries("a", ""), last))
		}
	}
	return lists
}

// plainEntry is ValidEntry as the document tells it.
func plainEntry(e impl.Entry) bool {
	return e.Name != "" && len(e.Name) <= impl.MaxName && len(e.Value) <= impl.MaxValue
}

// isMap fails the test if a function that returns a map does not return want and OK.
func isMap(t *testing.T, name string, want []impl.Entry) func([]impl.Entry, int64) {
	return func(got []impl.Entry, code int64) {
		t.Helper()
		same(t, name+": code", code, impl.OK)
		sameList(t, name, got, want)
	}
}

// isNone fails the test if a function that returns a list does not return none and an error.
func isNone[T any](t *testing.T, name string, want int64) func([]T, int64) {
	return func(got []T, code int64) {
		t.Helper()
		same(t, name+": code", code, want)
		same(t, name+": length", len(got), 0)
	}
}

// isCode fails the test if a function does not return the value of nothing and an error.
func isCode[T comparable](t *testing.T, name string, want int64) func(T, int64) {
	return func(got T, code int64) {
		t.Helper()
		var nothing T
		same(t, name+": code", code, want)
		same(t, name, got, nothing)
	}
}

// mapKey returns the MapKey of a map.
func mapKey(t *testing.T, list []impl.Entry) impl.Key {
	t.Helper()
	key, code := impl.MapKey(list)
	same(t, "code of MapKey", code, impl.OK)
	return key
}

// proveName returns the path to a name.
func proveName(t *testing.T, list []impl.Entry, name string) []impl.MapNode {
	t.Helper()
	path, code := impl.ProveName(list, name)
	same(t, "code of ProveName", code, impl.OK)
	return path
}

// proveRange returns the nodes of a range.
func proveRange(t *testing.T, list []impl.Entry, from, to string) []impl.MapNode {
	t.Helper()
	nodes, code := impl.ProveRange(list, from, to)
	same(t, "code of ProveRange", code, impl.OK)
	return nodes
}

// chainOf returns n nodes, each of which is the right tree of the one before it: no tree of a map, but one whose names
// lie where they should.
func chainOf(n int) []impl.MapNode {
	nodes := make([]impl.MapNode, n)
	right := plainEmpty()
	for i := range slices.Backward(nodes) {
		nodes[i] = impl.MapNode{Left: plainEmpty(), Right: right, Entry: impl.Entry{Name: "n" + string([]byte{byte(i)}), Value: "v"}}
		right = plainNodeKey(nodes[i])
	}
	return nodes
}

// wrongNodes returns lists of nodes that are nearly nodes: one changed, left out, twice, or more, and two exchanged.
func wrongNodes(nodes []impl.MapNode, other impl.MapNode) [][]impl.MapNode {
	var wrong [][]impl.MapNode
	for i, n := range nodes {
		for _, changed := range changedNodes(n) {
			one := slices.Clone(nodes)
			one[i] = changed
			wrong = append(wrong, one)
		}
		wrong = append(wrong, without(nodes, i), with(nodes, i, n), with(nodes, i, other))
		if i > 0 {
			turned := slices.Clone(nodes)
			turned[i-1], turned[i] = turned[i], turned[i-1]
			wrong = append(wrong, turned)
		}
	}
	return append(wrong, with(nodes, len(nodes), other))
}

// changedNodes returns valid nodes that are not n, but nearly.
func changedNodes(n impl.MapNode) []impl.MapNode {
	var list []impl.MapNode
	change := func(edit func(*impl.MapNode)) {
		changed := n
		edit(&changed)
		if changed != n && plainEntry(changed.Entry) {
			list = append(list, changed)
		}
	}
	change(func(n *impl.MapNode) { n.Left = flipped(n.Left, 0) })
	change(func(n *impl.MapNode) { n.Right = flipped(n.Right, 255) })
	change(func(n *impl.MapNode) { n.Left, n.Right = n.Right, n.Left })
	change(func(n *impl.MapNode) { n.Left = plainEmpty() })
	change(func(n *impl.MapNode) { n.Right = plainEmpty() })
	change(func(n *impl.MapNode) { n.Entry.Value += "x" })
	change(func(n *impl.MapNode) { n.Entry.Value = "" })
	change(func(n *impl.MapNode) { n.Entry.Name += "\x00" })
	change(func(n *impl.MapNode) { n.Entry.Name = n.Entry.Name[1:] })
	return list
}
