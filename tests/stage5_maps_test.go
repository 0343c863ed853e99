package tests

import (
	"maps"
	"slices"
	"strings"
	"testing"

	"loop.example/g01174/impl"
)

// isLoaded fails the test if a function that loads something does not return want, no key and OK.
func isLoaded[T any](t *testing.T, name string, want []T, equal func(a, b T) bool) func([]T, impl.Key, int64) {
	return func(got []T, missing impl.Key, code int64) {
		t.Helper()
		same(t, name+": code", code, impl.OK)
		same(t, name+": key", missing, impl.Key{})
		if !slices.EqualFunc(got, want, equal) {
			t.Errorf("%s: got %v, want %v", name, got, want)
		}
	}
}

// isNotLoaded fails the test if a function that loads something does not return an error, and the key that is missing.
func isNotLoaded[T any](t *testing.T, name string, key impl.Key, want int64) func([]T, impl.Key, int64) {
	return func(got []T, missing impl.Key, code int64) {
		t.Helper()
		same(t, name+": code", code, want)
		same(t, name+": key", missing, key)
		same(t, name+": length", len(got), 0)
	}
}

// equalEntries reports whether two entries are equal.
func equalEntries(a, b impl.Entry) bool {
	return a == b
}

// isMapLoaded fails the test if LoadMap does not return a map.
func isMapLoaded(t *testing.T, name string, want []impl.Entry) func([]impl.Entry, impl.Key, int64) {
	return isLoaded(t, name, want, equalEntries)
}

// toldMap is what LoadMap tells.
type toldMap struct {
	entries []impl.Entry
	missing impl.Key
	code    int64
}

// plainLoad is a second LoadMap, as the document tells it.
type plainLoad struct {
	from plainStore
	met  int
	told toldMap
}

// load loads the tree with a key, whose names have to be less than those of lefts, and greater than those of rights. It
// reports whether all is well.
func (l *plainLoad) load(k impl.Key, lefts, rights []string) bool {
	if k == plainEmpty() {
		return true
	}
	b, found := l.from[k]
	if !found {
		l.told = toldMap{missing: k, code: impl.ErrNotFound}
		return false
	}
	l.met++
	n, isNode := plainNodeOf(b.Data)
	name := n.Entry.Name
	right := b.Tag == 5 && isNode && l.met <= 64
	for _, above := range lefts {
		right = right && name < above
	}
	for _, above := range rights {
		right = right && name > above
	}
	if !right {
		l.told = toldMap{code: impl.ErrProof}
		return false
	}
	if !l.load(n.Left, append(slices.Clone(lefts), name), rights) {
		return false
	}
	l.told.entries = append(l.told.entries, n.Entry)
	return l.load(n.Right, lefts, append(slices.Clone(rights), name))
}

// plainLoadMap is LoadMap as the document tells it.
func plainLoadMap(p plainStore, root impl.Key) toldMap {
	l := &plainLoad{from: p}
	l.load(root, nil, nil)
	return l.told
}

// checkLoadMap checks what LoadMap tells.
func checkLoadMap(t *testing.T, name string, p plainStore, root impl.Key) toldMap {
	t.Helper()
	want := plainLoadMap(p, root)
	list, missing, code := impl.LoadMap(p.store(), root)
	sameList(t, name+": entries", list, want.entries)
	same(t, name+": key", missing, want.missing)
	same(t, name+": code", code, want.code)
	return want
}

// otherBlobs returns blobs of all kinds that are not those of maps and lists that are tried.
func otherBlobs() plainStore {
	other, root := mapBlobs(entries("other", "1", "others", "2"))
	list, key := listBlobs("some", "other", "chunks")
	return other.and(list).and(plainOf(folderOf(root, key), commitOf("note", root), blobOf(5), blobOf(3)))
}

func TestMapsAreLoadedAsTheyAreStored(t *testing.T) {
	maps := mapsTried(521)
	for n := range impl.MaxEntries + 1 {
		maps = append(maps, countedMap(n))
	}
	for _, list := range maps {
		p, root := mapBlobs(list)
		isPut(t, "into no store", p.store(), root)(impl.StoreMap(impl.Store{}, list))
		isMapLoaded(t, "from no other store", list)(impl.LoadMap(p.store(), root))
		both := p.and(otherBlobs())
		isPut(t, "into a store", both.store(), root)(impl.StoreMap(otherBlobs().store(), list))
		isPut(t, "again", both.store(), root)(impl.StoreMap(both.store(), list))
		isMapLoaded(t, "from a store", list)(impl.LoadMap(both.store(), root))
		same(t, "root", root, mapKey(t, list))
	}
}

func TestMapsShareTheirNodesInAStore(t *testing.T) {
	list := countedMap(40)
	s, root, _ := impl.StoreMap(impl.Store{}, list)
	changed, _ := impl.PutEntry(list, impl.Entry{Name: "n17", Value: "other"})
	more, changedRoot, code := impl.StoreMap(s, changed)
	same(t, "code", code, impl.OK)
	depth, _ := impl.DepthOfName(list, "n17")
	same(t, "blobs", len(more.Blobs), 40+int(depth))
	isMapLoaded(t, "the old map", list)(impl.LoadMap(more, root))
	isMapLoaded(t, "the new map", changed)(impl.LoadMap(more, changedRoot))
}

func TestStoredMapsHaveALimit(t *testing.T) {
	list := countedMap(impl.MaxEntries)
	p, root := mapBlobs(list)
	room := countedBlobs(0, impl.MaxBlobs-impl.MaxEntries)
	isPut(t, "MaxBlobs", p.and(room).store(), root)(impl.StoreMap(room.store(), list))
	less := countedBlobs(0, impl.MaxBlobs-impl.MaxEntries+1)
	isNotPut(t, "one more", impl.ErrLimit)(impl.StoreMap(less.store(), list))
	isNotPut(t, "a full store", impl.ErrLimit)(impl.StoreMap(fullStore(), entries("a", "1")))
	isPut(t, "the empty map", fullStore(), impl.EmptyMapKey())(impl.StoreMap(fullStore(), nil))
	for i, k := range p.keys() {
		if i%9 == 0 { // one node is there already
			one := plainOf(p[k])
			isPut(t, "MaxBlobs with a node that is there", room.and(p).store(), root)(impl.StoreMap(one.and(room).store(), list))
			isNotPut(t, "one more with a node that is there", impl.ErrLimit)(impl.StoreMap(one.and(less).store(), list))
		}
	}
}

func TestWrongMapsAreNotStored(t *testing.T) {
	for _, list := range wrongMaps() {
		isNotPut(t, "a wrong map", impl.ErrInvalid)(impl.StoreMap(impl.Store{}, list))
		isNotPut(t, "a wrong map and a full store", impl.ErrInvalid)(impl.StoreMap(fullStore(), list))
	}
}

func TestTheEmptyMapNeedsNoBlob(t *testing.T) {
	for _, p := range append(storesTried(522), otherBlobs(), plainOf(blobOf(5))) {
		isMapLoaded(t, "the empty map", nil)(impl.LoadMap(p.store(), impl.EmptyMapKey()))
		if len(p) < impl.MaxBlobs {
			isPut(t, "StoreMap", p.store(), impl.EmptyMapKey())(impl.StoreMap(p.store(), nil))
		}
	}
}

func TestTheFirstNodeThatIsMissingIsTold(t *testing.T) {
	for _, list := range mapsTried(523) {
		p, root := mapBlobs(list)
		nodes := growMap(list).nodes()
		for i, n := range nodes {
			k := plainNodeKey(n)
			isNotLoaded[impl.Entry](t, "one left out", k, impl.ErrNotFound)(impl.LoadMap(p.without(k).and(otherBlobs()).store(), root))
			if i+1 < len(nodes) {
				both := p.without(k, plainNodeKey(nodes[i+1]))
				isNotLoaded[impl.Entry](t, "two left out", k, impl.ErrNotFound)(impl.LoadMap(both.store(), root))
			}
			checkLoadMap(t, "a part", p, k)
		}
		if len(list) > 0 {
			isNotLoaded[impl.Entry](t, "all left out", root, impl.ErrNotFound)(impl.LoadMap(otherBlobs().store(), root))
		}
	}
	isNotLoaded[impl.Entry](t, "no key", impl.Key{}, impl.ErrNotFound)(impl.LoadMap(otherBlobs().store(), impl.Key{}))
	isNotLoaded[impl.Entry](t, "no store", impl.Key{5}, impl.ErrNotFound)(impl.LoadMap(impl.Store{}, impl.Key{5}))
}

// planted returns blobs of a tree like that of a map in which a part has been replaced by the one with another key, and
// its key.
func (m *plainMap) planted(at *plainMap, k impl.Key) (plainStore, impl.Key) {
	switch m {
	case at:
		return plainStore{}, k
	case nil:
		return plainStore{}, plainEmpty()
	}
	left, leftKey := m.left.planted(at, k)
	right, rightKey := m.right.planted(at, k)
	n := impl.MapNode{Left: leftKey, Right: rightKey, Entry: m.node.Entry}
	return left.and(right).and(plainOf(nodeBlob(n))), plainNodeKey(n)
}

// parts returns a tree and all trees below it that have nodes.
func (m *plainMap) parts() []*plainMap {
	if m == nil {
		return nil
	}
	return slices.Concat([]*plainMap{m}, m.left.parts(), m.right.parts())
}

// noNodes returns blobs that are no nodes, but nearly one.
func noNodes(n impl.MapNode) []impl.Blob {
	data := plainNodeBytes(n)
	long, short := slices.Clone(data), slices.Clone(data)
	long[64], short[64] = 25, 0
	blobs := []impl.Blob{
		blobOf(6, data[:64]), blobOf(2, data[:64]), blobOf(5, data[:64]), blobOf(5, data[:65]), blobOf(5, data[:32]),
		blobOf(5, data[:65+len(n.Entry.Name)-1]), blobOf(5, long), blobOf(5, short), blobOf(5, long, make([]byte, 30)),
		blobOf(5, data[:65], []byte(n.Entry.Name), make([]byte, 65)), blobOf(1, data), blobOf(0), blobOf(3),
	}
	for _, tag := range []byte{0, 1, 2, 3, 4, 6, 7, 255} {
		blobs = append(blobs, blobOf(tag, data))
	}
	return blobs
}

func TestBlobsThatAreNoNodesAreTold(t *testing.T) {
	for _, n := range []int{1, 2, 5, 12} {
		tree := growMap(countedMap(n))
		for i, part := range tree.parts() {
			for j, b := range noNodes(part.node) {
				p, root := tree.planted(part, plainBlobKey(b))
				p = p.and(plainOf(b))
				isNotLoaded[impl.Entry](t, numbered("no node", n, i, j), impl.Key{}, impl.ErrProof)(impl.LoadMap(p.store(), root))
				for k := range p { // what is missing before it comes first, and what is missing behind it does not
					checkLoadMap(t, numbered("no node, and one left out", n, i, j), p.without(k), root)
				}
			}
		}
	}
}

func TestNamesOfLoadedMapsLieWhereTheyShould(t *testing.T) {
	tree := growMap(countedMap(12))
	for i, part := range tree.parts() {
		for _, name := range []string{"a", "n", "n00", "n03", "n04", "n04\x00", "n05", "n07", "n10", "n11", "z", "\xff"} {
			other := impl.MapNode{Left: part.left.key(), Right: part.right.key(), Entry: impl.Entry{Name: name, Value: "other"}}
			p, root := tree.planted(part, plainNodeKey(other))
			full, _ := mapBlobs(countedMap(12))
			p = p.and(full).and(plainOf(nodeBlob(other)))
			checkLoadMap(t, numbered("another name "+name, i), p, root)
			for k := range p {
				checkLoadMap(t, numbered("another name, and one left out "+name, i), p.without(k), root)
			}
		}
	}
}

func TestNamesMayLieWhereNoPriorityPutsThem(t *testing.T) {
	leaf := func(name string) *shape { return &shape{name: name} }
	for i, s := range []*shape{
		{"a", nil, &shape{"b", nil, &shape{"c", nil, leaf("d")}}},
		{"d", &shape{"c", &shape{"b", leaf("a"), nil}, nil}, nil},
		{"d", &shape{"a", nil, &shape{"c", leaf("b"), nil}}, nil},
		{"b", leaf("a"), &shape{"d", leaf("c"), nil}},
	} {
		nodes, root := s.nodes()
		p := plainStore{}
		for _, n := range nodes {
			p = p.and(plainOf(nodeBlob(n)))
		}
		told := checkLoadMap(t, numbered("shape", i), p, root)
		same(t, "entries", len(told.entries), 4)
	}
}

// chainBlobs returns the blobs of a chain, and its keys from the top down.
func chainBlobs(nodes []impl.MapNode) (plainStore, []impl.Key) {
	p := plainStore{}
	var keys []impl.Key
	for _, n := range nodes {
		p[plainNodeKey(n)] = nodeBlob(n)
		keys = append(keys, plainNodeKey(n))
	}
	return p, keys
}

func TestLoadedMapsHaveALimit(t *testing.T) {
	for _, n := range []int{1, 2, 63, 64, 65, 66, 100, 128} {
		p, keys := chainBlobs(chainOf(n))
		want := int64(impl.OK)
		if n > impl.MaxEntries {
			want = impl.ErrProof
		}
		told := checkLoadMap(t, numbered("chain", n), p, keys[0])
		same(t, numbered("code of the chain", n), told.code, want)
		for _, i := range []int{0, 1, 62, 63, 64, 65, 127} {
			if i < n {
				told := checkLoadMap(t, numbered("chain without one", n, i), p.without(keys[i]), keys[0])
				same(t, numbered("limit of the chain without one", n, i), told.code == impl.ErrProof, i > impl.MaxEntries)
				checkLoadMap(t, numbered("end of the chain", n, i), p, keys[i])
			}
		}
	}
}

func TestNodesThatAreMetTwiceLieWrong(t *testing.T) {
	empty := plainEmpty()
	low, lost := nodeOver(empty, "c", empty), impl.Key{9}
	high := nodeOver(empty, "x", empty)
	lower := nodeOver(plainNodeKey(low), "e", empty)
	for i, top := range []impl.MapNode{
		nodeOver(plainNodeKey(low), "m", plainNodeKey(low)),
		nodeOver(plainNodeKey(high), "m", plainNodeKey(high)),
		nodeOver(plainNodeKey(lower), "m", plainNodeKey(low)),
		nodeOver(plainNodeKey(low), "d", plainNodeKey(lower)),
		nodeOver(lost, "m", plainNodeKey(low)),
		nodeOver(plainNodeKey(low), "m", lost),
		nodeOver(lost, "m", lost),
		nodeOver(plainNodeKey(high), "m", lost),
	} {
		p := plainOf(nodeBlob(low), nodeBlob(high), nodeBlob(lower), nodeBlob(top))
		told := checkLoadMap(t, numbered("twice", i), p, plainNodeKey(top))
		same(t, numbered("twice is not loaded", i), told.code == impl.OK, false)
	}
}

func TestMapsOfAllKindsAreLoaded(t *testing.T) {
	r := chance(524)
	for range 150 {
		p, keys := someStore(r)
		for _, k := range keys {
			checkLoadMap(t, "some map", p, k)
		}
	}
}

func TestLongestNodesAreStored(t *testing.T) {
	list := entries(strings.Repeat("\xff", impl.MaxName), strings.Repeat("v", impl.MaxValue))
	s, root, code := impl.StoreMap(impl.Store{}, list)
	same(t, "code", code, impl.OK)
	isMapLoaded(t, "the longest node", list)(impl.LoadMap(s, root))
	isNumber(t, "its bytes", int64(65+impl.MaxName+impl.MaxValue))(impl.StoreBytes(s))
	same(t, "its key", slices.Collect(maps.Keys(plainOf(s.Blobs...)))[0], root)
}
