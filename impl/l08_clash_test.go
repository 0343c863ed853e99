package impl

import (
	"maps"
	"testing"
)

// As in the tests of stores, blobs lie on shelves here under keys that are not theirs: nobody knows two unlike blobs with
// one key, nor nodes that lead back to one above them.

// keyOfBlob returns the key of a blob that is valid.
func keyOfBlob(b Blob) Key {
	key, _ := BlobKey(b)
	return key
}

func TestUnlikeBlobsWithOneKeyAreNotTaken(t *testing.T) {
	first, last := Blob{Tag: 1, Data: []byte("x")}, Blob{Tag: 1, Data: []byte("y")}
	clash, other := keyOfBlob(first), keyOfBlob(last)
	wants := []Key{clash, other}
	with := func(room int) shelf { return shelf{clash: Blob{Tag: 9}}.fill(MaxBlobs - 1 - room) }
	for _, try := range []struct {
		name  string
		own   shelf
		wants []Key
		blobs []Blob
		want  int64
	}{
		{"another blob", shelf{clash: Blob{Tag: 9}}, wants, []Blob{first}, ErrProof},
		{"another blob behind one that is taken", shelf{clash: Blob{Tag: 9}}, wants, []Blob{last, first}, ErrProof},
		{"another blob ahead of the limit", with(0), wants, []Blob{first, last}, ErrProof},
		{"another blob behind the limit", with(0), wants, []Blob{last, first}, ErrLimit},
		{"another blob with just enough room", with(1), wants, []Blob{last, first}, ErrProof},
		{"another blob that is not wanted", with(1), wants[1:], []Blob{first, last, first}, OK},
		{"the blob", shelf{clash: first}.fill(MaxBlobs - 2), wants, []Blob{first, last}, OK},
	} {
		added, code := try.own.take(try.wants, try.blobs)
		isErrorOf(t, try.name, code, try.want)
		if wanted := try.want == OK; wanted != (len(added) == 1) || !wanted && added != nil {
			t.Errorf("%s: got %d blobs", try.name, len(added))
		}
	}
}

func TestUnlikeBlobsWithOneKeyAreNoParts(t *testing.T) {
	a, b := Blob{Tag: 1, Data: []byte("x")}, Blob{Tag: 1, Data: []byte("y")}
	for range 20 { // blobs come in another order each time
		for _, try := range []struct {
			one, two shelf
			want     bool
		}{
			{shelf{Key{1}: a}, shelf{Key{1}: a}, true},
			{shelf{Key{1}: a}, shelf{Key{1}: b}, false},
			{shelf{Key{1}: b}, shelf{Key{1}: a, Key{2}: b}, false},
			{shelf{Key{1}: a, Key{2}: b}, shelf{Key{1}: a, Key{2}: a, Key{3}: b}, false},
			{shelf{Key{1}: a, Key{2}: b}, shelf{Key{1}: a, Key{2}: b, Key{3}: b}, true},
		} {
			if try.one.isPartOf(try.two) != try.want {
				t.Errorf("a part with %d blobs: got %v", len(try.one), !try.want)
			}
		}
	}
}

func TestRoundsThroughWaysAroundEnd(t *testing.T) {
	sh := foldersOf(map[byte][]byte{1: {2, 2, 9}, 2: {3, 1}, 3: {1, 3, 4}, 4: {}, 5: {5}})
	for from, want := range map[byte][]byte{1: {9}, 3: {9}, 5: nil, 4: nil, 8: {8}} {
		isOfBytes(t, "wants", sh.wants([]Key{{from}}, 5), want...)
	}
	f := &fetcher{own: maps.Clone(sh), roots: []Key{{1}}, most: 5}
	isErrorOf(t, "what nobody has", f.run(sh, MaxBudget, MaxRounds), ErrNotFound)
	f = &fetcher{own: maps.Clone(sh), roots: []Key{{5}, {4}}, most: 5}
	isErrorOf(t, "what is there", f.run(sh, MaxBudget, MaxRounds), OK)
}

// roundabouts returns nodes under made-up keys that lead back to one above them, the first one having the key 1. The path
// to the name "a" leads around in each of them.
func roundabouts() map[string]shelf {
	empty := EmptyMapKey()
	node := func(left Key, name string, right Key) Blob {
		return MapNode{Left: left, Right: right, Entry: Entry{Name: name, Value: "v"}}.blob()
	}
	return map[string]shelf{
		"below itself, on the left":    {Key{1}: node(Key{1}, "m", empty)},
		"below itself, on both sides":  {Key{1}: node(Key{1}, "m", Key{1})},
		"two nodes":                    {Key{1}: node(Key{2}, "m", empty), Key{2}: node(Key{1}, "n", empty)},
		"three nodes":                  {Key{1}: node(Key{2}, "m", empty), Key{2}: node(Key{3}, "k", empty), Key{3}: node(Key{1}, "l", Key{9})},
		"a node below the first one":   {Key{1}: node(Key{2}, "m", empty), Key{2}: node(Key{2}, "l", empty)},
		"and a gap that comes later":   {Key{1}: node(Key{1}, "m", Key{9})},
		"and a gap below the last one": {Key{1}: node(Key{2}, "m", Key{9}), Key{2}: node(Key{1}, "z", Key{8})},
	}
}

func TestMapsThatLeadAroundAreNotToldByCopies(t *testing.T) {
	for title, sh := range roundabouts() {
		for name, wanted := range map[string]nameRange{"a path": pathTo("a"), "a range": {from: "a", to: "z"}, "all": allNames()} {
			w, err := walkMap(cacheOf[MapNode](sh), Key{1}, wanted)
			missing, code := lackOf(err)
			isErrorOf(t, title+", "+name, code, ErrProof)
			isOfBytes(t, title+", "+name, []Key{missing}, 0)
			if len(w.nodes) != MaxEntries+1 {
				t.Errorf("%s, %s: got %d nodes", title, name, len(w.nodes))
			}
		}
		_, code := knownIn(sh, Key{1})
		isErrorOf(t, title+", what is known", code, ErrProof)
		own := shelf{}
		nodes := cacheOf[MapNode](own)
		_, count, code := own.filled(sh, func() error {
			_, err := walkMap(nodes, Key{1}, pathTo("a"))
			return err
		})
		isErrorOf(t, title+", what is filled", code, ErrProof)
		if count != 0 {
			t.Errorf("%s: a number is told with an error", title)
		}
	}
}

func TestListsThatLeadAroundAreNotToldByCopies(t *testing.T) {
	sh := shelf{Key{1}: pair{Key{1}, Key{2}}.blob(), Key{2}: pair{Key{2}, Key{1}}.blob()}
	for _, n := range []int64{1, 2, 3, 17, MaxLeaves} {
		for _, i := range []int64{0, n / 2, n - 1} {
			_, _, err := listCopyOf(sh).chunk(Key{1}, n, i)
			missing, code := lackOf(err)
			isErrorOf(t, "a list below itself", code, ErrProof)
			isOfBytes(t, "no key", []Key{missing}, 0)
		}
	}
}

// TestCachesReadBlobsThatComeLater shows that a copy which is filled is seen by what looks at it.
func TestCachesReadBlobsThatComeLater(t *testing.T) {
	own := shelf{Key{1}: chunkData("x").blob(), Key{2}: Blob{Tag: 2}}
	chunks := cacheOf[chunkData](own)
	for range 2 {
		chunk, err := chunks.get(Key{1})
		if string(chunk) != "x" || err != nil {
			t.Errorf("got %q and %v", chunk, err)
		}
		_, code := lackOf(second(chunks.get(Key{2})))
		isErrorOf(t, "no chunk", code, ErrProof)
		missing, code := lackOf(second(chunks.get(Key{3})))
		isErrorOf(t, "no blob", code, ErrState)
		isOfBytes(t, "its key", []Key{missing}, 3)
	}
	own[Key{3}] = chunkData("y").blob()
	chunk, err := chunks.get(Key{3})
	if string(chunk) != "y" || err != nil {
		t.Errorf("got %q and %v", chunk, err)
	}
	isOfBytes(t, "what has been met", chunks.met().keys(), 1, 3)
}

// second returns the second one of two results.
func second[A, B any](_ A, b B) B {
	return b
}
