package impl

import (
	"bytes"
	"maps"
	"slices"
	"testing"
)

// Nobody knows two unlike blobs with one key, nor blobs that lead around to themselves. So these tests lay blobs on
// shelves under keys that are not theirs; the functions of the document do nothing but give them the keys of blobs.

// fill lays n blobs, no two of which are equal, on a shelf.
func (sh shelf) fill(n int) shelf {
	for i := range n {
		sh[Key{200, byte(i)}] = Blob{Tag: 9, Data: []byte{byte(i)}}
	}
	return sh
}

// foldersOf returns a shelf of folders under made-up keys, of which only the first byte is not 0.
func foldersOf(links map[byte][]byte) shelf {
	sh := shelf{}
	for from, all := range links {
		var keys folder
		for _, to := range all {
			keys = append(keys, Key{to})
		}
		sh[Key{from}] = keys.blob()
	}
	return sh
}

// firstBytes returns the first bytes of keys.
func firstBytes(keys []Key) []byte {
	var list []byte
	for _, k := range keys {
		list = append(list, k[0])
	}
	return list
}

// isOfBytes fails the test if keys do not begin with some bytes.
func isOfBytes(t *testing.T, name string, keys []Key, want ...byte) {
	t.Helper()
	if !bytes.Equal(firstBytes(keys), want) {
		t.Errorf("%s: got %v, want %v", name, firstBytes(keys), want)
	}
}

// isErrorOf fails the test if a code is not want.
func isErrorOf(t *testing.T, name string, code, want int64) {
	t.Helper()
	if code != want {
		t.Errorf("%s: got the code %d, want %d", name, code, want)
	}
}

func TestUnlikeBlobsWithOneKeyAreNotPut(t *testing.T) {
	b := Blob{Tag: 1, Data: []byte("x")}
	for _, n := range []int{0, 1, MaxBlobs - 1} {
		sh := shelf{Key{1}: b}.fill(n)
		for _, other := range []Blob{{}, {Tag: 1}, {Tag: 2, Data: []byte("x")}, {Tag: 1, Data: []byte("y")}, {Tag: 1, Data: []byte("xx")}} {
			isErrorOf(t, "another blob", sh.add(Key{1}, other), ErrProof)
		}
		if !SameBlob(sh[Key{1}], b) || len(sh) != n+1 {
			t.Errorf("the shelf has changed")
		}
		isErrorOf(t, "the blob", sh.add(Key{1}, Blob{Tag: 1, Data: []byte("x")}), OK)
	}
	isErrorOf(t, "no room", shelf{}.fill(MaxBlobs).add(Key{1}, b), ErrLimit)
	isErrorOf(t, "room", shelf{}.fill(MaxBlobs-1).add(Key{1}, b), OK)
}

func TestUnlikeBlobsWithOneKeyAreNotJoined(t *testing.T) {
	a, b := Blob{Tag: 1, Data: []byte("x")}, Blob{Tag: 1, Data: []byte("y")}
	for range 20 { // blobs come in another order each time
		isErrorOf(t, "one of two", shelf{Key{1}: a, Key{2}: a}.join(shelf{Key{1}: a, Key{2}: b}), ErrProof)
		isErrorOf(t, "ahead of the limit", shelf{Key{1}: a}.fill(MaxBlobs-1).join(shelf{Key{1}: b, Key{2}: a, Key{3}: a, Key{4}: a}), ErrProof)
		isErrorOf(t, "the limit", shelf{Key{1}: a}.fill(MaxBlobs-1).join(shelf{Key{1}: a, Key{2}: a, Key{3}: a}), ErrLimit)
		isErrorOf(t, "neither", shelf{Key{1}: a}.fill(MaxBlobs-2).join(shelf{Key{1}: a, Key{2}: a}), OK)
	}
}

// listContents returns the contents that StoreList puts for three chunks, in the order that the document gives.
func listContents(a, b, c []byte) []content {
	keyOf := func(c content) Key {
		k, _ := BlobKey(c.blob())
		return k
	}
	left := pair{keyOf(chunkData(a)), keyOf(chunkData(b))}
	return []content{chunkData(a), chunkData(b), chunkData(c), left, pair{keyOf(left), keyOf(chunkData(c))}}
}

// checkOrder checks that contents are put in their order: for each two of them, one of which is another blob already
// while there is no room for the other one, what comes first is told.
func checkOrder(t *testing.T, contents []content, put func(shelf) (Key, int64)) {
	t.Helper()
	for i, c := range contents {
		clash, _ := BlobKey(c.blob())
		for room := range len(contents) {
			sh := shelf{clash: Blob{Tag: 77}}.fill(MaxBlobs - 1 - room)
			want := int64(ErrProof)
			if room < i {
				want = ErrLimit
			}
			k, code := put(sh)
			isErrorOf(t, "put in order", code, want)
			if k != (Key{}) {
				t.Errorf("a key is told with an error")
			}
		}
	}
}

func TestMapsAndListsArePutInOrder(t *testing.T) {
	a, b, c := []byte("a"), []byte("b"), []byte("c")
	checkOrder(t, listContents(a, b, c), func(sh shelf) (Key, int64) {
		_, k, code := sh.finished(sh.putChunks([][]byte{a, b, c}))
		return k, code
	})
	checkOrder(t, []content{noLeaves{}}, func(sh shelf) (Key, int64) {
		_, k, code := sh.finished(sh.putChunks(nil))
		return k, code
	})
	list := []Entry{{Name: "a"}, {Name: "b"}, {Name: "c"}, {Name: "d"}, {Name: "e"}}
	nodes, _ := NodesOfMap(list)
	var contents []content
	for _, n := range nodes {
		contents = append(contents, n)
	}
	checkOrder(t, contents, func(sh shelf) (Key, int64) {
		_, k, code := sh.finished(sh.putMap(list))
		return k, code
	})
}

func TestContentsHaveTheirBlobs(t *testing.T) {
	a, b := Key{1}, Key{2}
	contents := []content{chunkData("abc"), chunkData(nil), pair{a, b}, noLeaves{}, MapNode{Left: a, Right: b, Entry: Entry{Name: "n", Value: "v"}}, folder{a, b, a}, folder{}}
	for _, c := range contents {
		blob := c.blob()
		again := contentOf(blob)
		if !SameBlob(again.blob(), blob) {
			t.Errorf("the content of %v has another blob", blob)
		}
	}
	for _, blob := range []Blob{{}, {Tag: 2, Data: make([]byte, 63)}, {Tag: 3, Data: []byte{0}}, {Tag: 5}, {Tag: 6, Data: []byte{1}}, {Tag: 7}, {Tag: 7, Data: []byte{0, 1}}, {Tag: 7, Data: make([]byte, 50)}, {Tag: 8}} {
		if !SameBlob(contentOf(blob).blob(), blob) {
			t.Errorf("the content of %v has another blob", blob)
		}
	}
}

func TestWaysAroundEnd(t *testing.T) {
	sh := foldersOf(map[byte][]byte{1: {2, 2, 9}, 2: {3, 1}, 3: {1, 3, 4}, 4: {}, 5: {5}, 6: {7, 1}, 7: {6}})
	for _, try := range []struct {
		roots []Key
		want  []byte
	}{
		{[]Key{{1}}, []byte{1, 2, 9, 3, 4}},
		{[]Key{{3}}, []byte{3, 1, 4, 2, 9}},
		{[]Key{{5}, {5}}, []byte{5}},
		{[]Key{{7}}, []byte{7, 6, 1, 2, 9, 3, 4}},
		{[]Key{{9}}, []byte{9}},
		{nil, nil},
	} {
		isOfBytes(t, "met", slices.Collect(firstsOf(sh, try.roots)), try.want...)
		needed, dead := sh.parted(try.roots)
		if len(needed)+len(dead) != len(sh) {
			t.Errorf("there are %d needed blobs and %d dead ones of %d", len(needed), len(dead), len(sh))
		}
		for key := range sh {
			if slices.Contains(try.want, key[0]) != needed.has(key) || needed.has(key) == dead.has(key) {
				t.Errorf("the blob %d is not where it should be", key[0])
			}
		}
		again, none := needed.parted(try.roots)
		if !maps.EqualFunc(again, needed, SameBlob) || len(none) > 0 {
			t.Errorf("what is parted twice is not as once")
		}
	}
}

// firstsOf ranges over the keys that are reachable from roots.
func firstsOf(sh shelf, roots []Key) func(func(Key) bool) {
	return func(yield func(Key) bool) {
		for k := range sh.reach(roots) {
			if !yield(k) {
				return
			}
		}
	}
}

func TestPathsLeadThroughWaysAround(t *testing.T) {
	sh := foldersOf(map[byte][]byte{1: {2, 2, 9}, 2: {3, 1}, 3: {1, 3, 4}, 4: {}, 5: {5}, 6: {7, 1}, 7: {6}})
	for _, try := range []struct {
		from, to byte
		want     []byte
	}{
		{1, 1, []byte{1}},
		{5, 5, []byte{5}},
		{1, 4, []byte{1, 2, 3, 4}},
		{2, 1, []byte{2, 1}},
		{3, 2, []byte{3, 1, 2}},
		{7, 4, []byte{7, 6, 1, 2, 3, 4}},
		{4, 1, nil},
		{1, 9, nil},
		{1, 5, nil},
		{9, 9, nil},
	} {
		path, found := sh.path(Key{try.from}, Key{try.to})
		isOfBytes(t, "path", path, try.want...)
		if found != (try.want != nil) {
			t.Errorf("a path from %d to %d: got %v", try.from, try.to, found)
		}
	}
}

func TestMapsAndListsThatLeadAroundAreNotLoaded(t *testing.T) {
	empty := EmptyMapKey()
	for _, n := range []MapNode{
		{Left: Key{1}, Right: empty, Entry: Entry{Name: "m"}},
		{Left: empty, Right: Key{1}, Entry: Entry{Name: "m"}},
		{Left: Key{1}, Right: Key{1}, Entry: Entry{Name: "m"}},
	} {
		l := &mapLoader{from: shelf{Key{1}: n.blob()}}
		missing, code := l.load(Key{1}, allNames())
		isErrorOf(t, "a map below itself", code, ErrProof)
		isOfBytes(t, "no key", []Key{missing}, 0)
	}
	for _, n := range []int64{0, 1, 2, 3, MaxLeaves} {
		l := &listLoader{from: shelf{Key{1}: pair{Key{1}, Key{1}}.blob()}}
		missing, code := l.load(Key{1}, span{0, n})
		isErrorOf(t, "a list below itself", code, ErrProof)
		isOfBytes(t, "no key", []Key{missing}, 0)
	}
}
