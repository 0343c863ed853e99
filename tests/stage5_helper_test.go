package tests

import (
	"bytes"
	"maps"
	"math/rand/v2"
	"slices"
	"testing"

	"loop.example/g01174/impl"
)

// blobOf returns the blob with a tag whose data are some parts, one behind the other.
func blobOf(tag byte, parts ...[]byte) impl.Blob {
	return impl.Blob{Tag: tag, Data: slices.Concat(parts...)}
}

// keyBytes returns the bytes of keys, one behind the other.
func keyBytes(keys ...impl.Key) []byte {
	var data []byte
	for _, k := range keys {
		data = append(data, k[:]...)
	}
	return data
}

// chunkBlob, pairBlob, nodeBlob, folderOf and commitOf return blobs of each tag that has links, and of chunks.
func chunkBlob(text string) impl.Blob {
	return blobOf(1, []byte(text))
}

func pairBlob(left, right impl.Key) impl.Blob {
	return blobOf(2, keyBytes(left, right))
}

func nodeBlob(n impl.MapNode) impl.Blob {
	return blobOf(5, plainNodeBytes(n))
}

func folderOf(keys ...impl.Key) impl.Blob {
	return blobOf(6, keyBytes(keys...))
}

func commitOf(note string, keys ...impl.Key) impl.Blob {
	return blobOf(7, []byte{byte(len(keys))}, keyBytes(keys...), []byte(note))
}

// plainBlobKey is BlobKey as the document tells it.
func plainBlobKey(b impl.Blob) impl.Key {
	return plainHash(b.Tag, b.Data)
}

// cutKeys returns the first n keys of data.
func cutKeys(data []byte, n int) []impl.Key {
	var keys []impl.Key
	for i := range n {
		keys = append(keys, impl.Key(data[32*i:32*i+32]))
	}
	return keys
}

// plainNodeOf returns the node of a map with some bytes, and whether there is one.
func plainNodeOf(data []byte) (impl.MapNode, bool) {
	if len(data) < 65 || data[64] == 0 || data[64] > 24 {
		return impl.MapNode{}, false
	}
	rest := string(data[65:])
	n := int(data[64])
	if len(rest) < n || len(rest)-n > 64 {
		return impl.MapNode{}, false
	}
	keys := cutKeys(data, 2)
	return impl.MapNode{Left: keys[0], Right: keys[1], Entry: impl.Entry{Name: rest[:n], Value: rest[n:]}}, true
}

// plainLinks is LinksOf as the document tells it.
func plainLinks(b impl.Blob) []impl.Key {
	n := len(b.Data)
	switch {
	case b.Tag == 2 && n == 64, b.Tag == 6 && n%32 == 0:
		return cutKeys(b.Data, n/32)
	case b.Tag == 5:
		var links []impl.Key
		node, found := plainNodeOf(b.Data)
		for _, k := range []impl.Key{node.Left, node.Right} {
			if found && k != plainEmpty() {
				links = append(links, k)
			}
		}
		return links
	case b.Tag == 7 && n > 0 && n >= 1+32*int(b.Data[0]):
		return cutKeys(b.Data[1:], int(b.Data[0]))
	}
	return nil
}

// plainStore are blobs by their keys.
type plainStore map[impl.Key]impl.Blob

// plainOf returns blobs by their keys.
func plainOf(blobs ...impl.Blob) plainStore {
	p := plainStore{}
	for _, b := range blobs {
		p[plainBlobKey(b)] = b
	}
	return p
}

// keys returns all keys, in order.
func (p plainStore) keys() []impl.Key {
	return sortedKeys(maps.Keys(p))
}

// sortedKeys returns keys in order.
func sortedKeys(keys func(func(impl.Key) bool)) []impl.Key {
	return slices.SortedFunc(keys, func(a, b impl.Key) int { return bytes.Compare(a[:], b[:]) })
}

// store returns the store with some blobs.
func (p plainStore) store() impl.Store {
	var s impl.Store
	for _, k := range p.keys() {
		s.Blobs = append(s.Blobs, p[k])
	}
	return s
}

// without returns the blobs but those with some keys.
func (p plainStore) without(keys ...impl.Key) plainStore {
	left := maps.Clone(p)
	for _, k := range keys {
		delete(left, k)
	}
	return left
}

// and returns the blobs of both.
func (p plainStore) and(other plainStore) plainStore {
	both := maps.Clone(p)
	maps.Copy(both, other)
	return both
}

// reach returns all keys that are reachable: those of roots, and links of blobs that are, until there are no more.
func (p plainStore) reach(roots []impl.Key) map[impl.Key]bool {
	reached := map[impl.Key]bool{}
	for _, k := range roots {
		reached[k] = true
	}
	for n := -1; n != len(reached); {
		n = len(reached)
		for k, b := range p {
			for _, link := range plainLinks(b) {
				if reached[k] {
					reached[link] = true
				}
			}
		}
	}
	return reached
}

// reached returns the keys that are reachable and have a blob, and those that are and have none.
func (p plainStore) reached(roots []impl.Key) (with, missing []impl.Key) {
	for _, k := range sortedKeys(maps.Keys(p.reach(roots))) {
		if _, found := p[k]; found {
			with = append(with, k)
		} else {
			missing = append(missing, k)
		}
	}
	return with, missing
}

// listBlobs returns the blobs of a list of chunks, as the document tells them, and its key.
func listBlobs(chunks ...string) (plainStore, impl.Key) {
	if len(chunks) == 0 {
		none := blobOf(3)
		return plainOf(none), plainBlobKey(none)
	}
	p := plainStore{}
	var leaves []impl.Key
	for _, text := range chunks {
		leaves = append(leaves, plainBlobKey(chunkBlob(text)))
		p[leaves[len(leaves)-1]] = chunkBlob(text)
	}
	tree := growTree(leaves, 0)
	tree.each(func(part *plainTree) {
		if part.left != nil {
			p[part.key] = pairBlob(part.left.key, part.right.key)
		}
	})
	return p, tree.key
}

// each calls a function for each part of a tree, the whole first, and the left parts before the right ones.
func (tree *plainTree) each(call func(*plainTree)) {
	if tree != nil {
		call(tree)
		tree.left.each(call)
		tree.right.each(call)
	}
}

// mapBlobs returns the blobs of a map, as the document tells them, and its key.
func mapBlobs(list []impl.Entry) (plainStore, impl.Key) {
	tree := growMap(list)
	p := plainStore{}
	for _, n := range tree.nodes() {
		p[plainNodeKey(n)] = nodeBlob(n)
	}
	return p, tree.key()
}

// bytesOfAll returns texts as bytes.
func bytesOfAll(texts ...string) [][]byte {
	var list [][]byte
	for _, text := range texts {
		list = append(list, []byte(text))
	}
	return list
}

// countedBlobs returns n blobs without links, no two of which are equal, beginning with the one of a number.
func countedBlobs(from, n int) plainStore {
	p := plainStore{}
	for i := from; i < from+n; i++ {
		b := blobOf(9, []byte(numbered("blob", i)))
		p[plainBlobKey(b)] = b
	}
	return p
}

// fullStore returns a store with MaxBlobs blobs.
func fullStore() impl.Store {
	return countedBlobs(0, impl.MaxBlobs).store()
}

// wrongBlobs returns blobs that are not valid.
func wrongBlobs() []impl.Blob {
	return []impl.Blob{
		blobOf(0, make([]byte, impl.MaxBlobData+1)),
		blobOf(1, make([]byte, impl.MaxBlobData+1)),
		blobOf(6, make([]byte, impl.MaxBlobData+32)),
		blobOf(7, []byte{1}, make([]byte, 4096)),
		blobOf(255, make([]byte, 100000)),
	}
}

// wrongStores returns stores that are not valid: with too many blobs, in another order, twice, or blobs that are not.
func wrongStores() []impl.Store {
	four := countedBlobs(0, 4).store().Blobs
	var stores []impl.Store
	for _, blobs := range [][]impl.Blob{
		{four[0], four[0]},
		{four[1], four[0]},
		{four[0], four[1], four[1]},
		{four[0], four[0], four[1]},
		{four[0], four[2], four[1]},
		{four[1], four[0], four[2]},
		{four[3], four[2], four[1], four[0]},
		{four[0], four[1], four[2], four[3], four[0]},
		{{}, {}},
		{{Tag: 1, Data: nil}, {Tag: 1, Data: []byte{}}},
		countedBlobs(0, impl.MaxBlobs+1).store().Blobs,
		countedBlobs(0, 1000).store().Blobs,
		slices.Repeat(four, 100),
	} {
		stores = append(stores, impl.Store{Blobs: blobs})
	}
	for _, b := range wrongBlobs() {
		stores = append(stores, impl.Store{Blobs: []impl.Blob{b}}, longerStore(four, b))
	}
	return stores
}

// longerStore returns a store with some blobs and one more, in order even if this one is too long.
func longerStore(blobs []impl.Blob, b impl.Blob) impl.Store {
	return plainOf(append(slices.Clone(blobs), b)...).store()
}

// someStore returns blobs of all kinds that lead to each other in many ways, some of them being left out, and keys that
// they have or lack.
func someStore(r *rand.Rand) (plainStore, []impl.Key) {
	p := plainStore{}
	keys := []impl.Key{plainEmpty(), {}, someKey(r)}
	some := func(most int) []impl.Key {
		var list []impl.Key
		for range r.IntN(most + 1) {
			list = append(list, keys[r.IntN(len(keys))])
		}
		return list
	}
	one := func() impl.Key { return keys[r.IntN(len(keys))] }
	for n := r.IntN(60); len(p) < n; {
		b := blobOf(byte(r.IntN(9)), keyBytes(some(4)...), someBytes(r, r.IntN(3)))
		switch r.IntN(8) {
		case 0:
			b = chunkBlob(string(fewBytes(r, r.IntN(5))))
		case 1:
			b = pairBlob(one(), one())
		case 2, 3:
			b = nodeBlob(impl.MapNode{Left: one(), Right: one(), Entry: impl.Entry{Name: someName(r), Value: someValue(r)}})
		case 4:
			b = folderOf(some(6)...)
		case 5:
			b = commitOf("note", some(4)...)
		case 6:
			tree, _ := mapBlobs(someMap(r, r.IntN(5)))
			p = p.and(tree)
			keys = append(keys, tree.keys()...)
		}
		p[plainBlobKey(b)] = b
		keys = append(keys, plainBlobKey(b))
	}
	for range r.IntN(5) {
		delete(p, one())
	}
	return p, keys
}

// isStore fails the test if a function that returns a store does not return want and OK.
func isStore(t *testing.T, name string, want impl.Store) func(impl.Store, int64) {
	return func(got impl.Store, code int64) {
		t.Helper()
		same(t, name+": code", code, impl.OK)
		sameStore(t, name, got, want)
	}
}

// isNoStore fails the test if a function that returns a store does not return an error and nothing else.
func isNoStore(t *testing.T, name string, want int64) func(impl.Store, int64) {
	return func(got impl.Store, code int64) {
		t.Helper()
		same(t, name+": code", code, want)
		same(t, name+": blobs", len(got.Blobs), 0)
	}
}

// isPut fails the test if a function that puts something does not return a store, a key and OK.
func isPut(t *testing.T, name string, want impl.Store, key impl.Key) func(impl.Store, impl.Key, int64) {
	return func(got impl.Store, k impl.Key, code int64) {
		t.Helper()
		isStore(t, name, want)(got, code)
		same(t, name+": key", k, key)
	}
}

// isNotPut fails the test if a function that puts something does not return an error and nothing else.
func isNotPut(t *testing.T, name string, want int64) func(impl.Store, impl.Key, int64) {
	return func(got impl.Store, k impl.Key, code int64) {
		t.Helper()
		isNoStore(t, name, want)(got, code)
		same(t, name+": key", k, impl.Key{})
	}
}

// isKeys fails the test if a function that returns keys does not return want and OK.
func isKeys(t *testing.T, name string, want []impl.Key) func([]impl.Key, int64) {
	return func(got []impl.Key, code int64) {
		t.Helper()
		same(t, name+": code", code, impl.OK)
		sameList(t, name, got, want)
	}
}

// isBlob fails the test if a function that returns a blob does not return want and OK.
func isBlob(t *testing.T, name string, want impl.Blob) func(impl.Blob, int64) {
	return func(got impl.Blob, code int64) {
		t.Helper()
		same(t, name+": code", code, impl.OK)
		same(t, name+": tag", got.Tag, want.Tag)
		sameBytes(t, name, got.Data, want.Data)
	}
}

// isNoBlob fails the test if a function that returns a blob does not return an error and nothing else.
func isNoBlob(t *testing.T, name string, want int64) func(impl.Blob, int64) {
	return func(got impl.Blob, code int64) {
		t.Helper()
		same(t, name+": code", code, want)
		same(t, name+": tag", got.Tag, 0)
		same(t, name+": bytes", len(got.Data), 0)
	}
}

// isNumber fails the test if a function that returns something to compare does not return want and OK.
func isNumber[T comparable](t *testing.T, name string, want T) func(T, int64) {
	return func(got T, code int64) {
		t.Helper()
		same(t, name+": code", code, impl.OK)
		same(t, name, got, want)
	}
}

// equalStores reports whether two stores are equal.
func equalStores(a, b impl.Store) bool {
	return slices.EqualFunc(a.Blobs, b.Blobs, func(a, b impl.Blob) bool { return a.Tag == b.Tag && bytes.Equal(a.Data, b.Data) })
}

// sameStore fails the test if got is not want, and tells the blobs that only one of both has.
func sameStore(t *testing.T, name string, got, want impl.Store) {
	t.Helper()
	if equalStores(got, want) {
		return
	}
	more, less := plainOf(got.Blobs...), plainOf(want.Blobs...)
	more, less = more.without(less.keys()...), less.without(more.keys()...)
	t.Errorf("%s: got %d blobs, want %d; there should not be %v, but %v", name, len(got.Blobs), len(want.Blobs), more, less)
}
