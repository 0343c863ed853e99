package tests

import (
	"bytes"
	"math/rand/v2"
	"slices"
	"testing"

	"loop.example/g01174/impl"
)

// isListLoaded fails the test if LoadList does not return some chunks.
func isListLoaded(t *testing.T, name string, want ...string) func([][]byte, impl.Key, int64) {
	return isLoaded(t, name, bytesOfAll(want...), bytes.Equal)
}

// isListLost fails the test if LoadList does not return an error, and the key that is missing.
func isListLost(t *testing.T, name string, key impl.Key, want int64) func([][]byte, impl.Key, int64) {
	return isNotLoaded[[]byte](t, name, key, want)
}

// toldList is what LoadList tells.
type toldList struct {
	chunks  [][]byte
	missing impl.Key
	code    int64
}

// loadList loads the part of a list with n chunks, as the document tells it.
func (p plainStore) loadList(k impl.Key, n int) toldList {
	b, found := p[k]
	switch {
	case !found:
		return toldList{missing: k, code: impl.ErrNotFound}
	case n == 0 && b.Tag == 3 && len(b.Data) == 0:
		return toldList{}
	case n == 1 && b.Tag == 1:
		return toldList{chunks: [][]byte{b.Data}}
	case n < 2 || b.Tag != 2 || len(b.Data) != 64:
		return toldList{code: impl.ErrProof}
	}
	m := 1
	for 2*m < n {
		m *= 2
	}
	keys := cutKeys(b.Data, 2)
	left := p.loadList(keys[0], m)
	if left.code != impl.OK {
		return left
	}
	right := p.loadList(keys[1], n-m)
	if right.code == impl.OK {
		right.chunks = append(left.chunks, right.chunks...)
	}
	return right
}

// checkLoadList checks what LoadList tells.
func checkLoadList(t *testing.T, name string, p plainStore, root impl.Key, n int) toldList {
	t.Helper()
	want := p.loadList(root, n)
	chunks, missing, code := impl.LoadList(p.store(), root, int64(n))
	sameChunks(t, name+": chunks", chunks, want.chunks)
	same(t, name+": key", missing, want.missing)
	same(t, name+": code", code, want.code)
	return want
}

// countedChunks returns n chunks, no two of which are equal.
func countedChunks(n int) []string {
	var texts []string
	for i := range n {
		texts = append(texts, numbered("chunk", i))
	}
	return texts
}

// fewChunks returns n chunks, of which there are two different ones.
func fewChunks(r *rand.Rand, n int) []string {
	var texts []string
	for range n {
		texts = append(texts, string(fewBytes(r, 1)))
	}
	return texts
}

// listsTried returns the chunks of lists of several kinds and lengths, no one of which has more than half MaxBlobs blobs.
func listsTried(seed uint64) [][]string {
	r := chance(seed)
	lists := [][]string{nil, {""}, {"", ""}, {"a", ""}, {"", "a", ""}, {string(make([]byte, impl.MaxBlobData))}}
	for _, n := range []int{1, 2, 3, 4, 5, 6, 7, 8, 9, 13, 16, 17, 31, 32} {
		lists = append(lists, countedChunks(n), fewChunks(r, n), slices.Repeat([]string{"x"}, n))
	}
	for _, n := range []int{63, 64, 65, 127, 128, 129, 200, impl.MaxLeaves} {
		lists = append(lists, slices.Repeat([]string{"x"}, n), slices.Repeat([]string{"x", "", "y"}, n)[:n])
	}
	return lists
}

// checkStoredList checks that a list is stored into blobs and loaded from there.
func checkStoredList(t *testing.T, texts []string, other plainStore) {
	t.Helper()
	name := numbered("chunks", len(texts))
	p, root := listBlobs(texts...)
	both := p.and(other)
	isPut(t, name, both.store(), root)(impl.StoreList(other.store(), bytesOfAll(texts...)))
	isPut(t, name+" again", both.store(), root)(impl.StoreList(both.store(), bytesOfAll(texts...)))
	isListLoaded(t, name, texts...)(impl.LoadList(both.store(), root, int64(len(texts))))
}

func TestListsAreLoadedAsTheyAreStored(t *testing.T) {
	r := chance(531)
	for n := range impl.MaxLeaves + 1 {
		checkStoredList(t, fewChunks(r, n), otherBlobs())
	}
	for n := range impl.MaxBlobs/2 + 1 {
		checkStoredList(t, countedChunks(n), plainStore{})
	}
	for _, texts := range listsTried(532) {
		checkStoredList(t, texts, plainStore{})
		checkStoredList(t, texts, otherBlobs())
	}
}

func TestKeysOfStoredListsAreThoseOfLists(t *testing.T) {
	for _, texts := range listsTried(533) {
		var leaves []impl.Key
		for _, text := range texts {
			leaves = append(leaves, first(impl.ChunkKey([]byte(text))))
		}
		_, root, code := impl.StoreList(impl.Store{}, bytesOfAll(texts...))
		same(t, "code", code, impl.OK)
		same(t, "root", root, listKey(t, leaves))
	}
}

func TestStoredListsHaveALimitOfBlobs(t *testing.T) {
	for _, n := range []int{0, 1, 2, 3, 20, 64} {
		p, root := listBlobs(countedChunks(n)...)
		chunks := bytesOfAll(countedChunks(n)...)
		room := countedBlobs(0, impl.MaxBlobs-len(p))
		less := countedBlobs(0, impl.MaxBlobs-len(p)+1)
		isPut(t, numbered("MaxBlobs", n), room.and(p).store(), root)(impl.StoreList(room.store(), chunks))
		isNotPut(t, numbered("one more", n), impl.ErrLimit)(impl.StoreList(less.store(), chunks))
		isNotPut(t, numbered("a full store", n), impl.ErrLimit)(impl.StoreList(fullStore(), chunks))
		for i, k := range p.keys() {
			if i%11 == 0 { // one blob is there already
				one := plainOf(p[k])
				isPut(t, numbered("MaxBlobs with one that is there", n), room.and(p).store(), root)(impl.StoreList(one.and(room).store(), chunks))
			}
		}
	}
	isNotPut(t, "too many chunks", impl.ErrLimit)(impl.StoreList(impl.Store{}, bytesOfAll(countedChunks(65)...)))
	isNotPut(t, "far too many", impl.ErrLimit)(impl.StoreList(impl.Store{}, bytesOfAll(countedChunks(impl.MaxLeaves)...)))
}

func TestStoredListsHaveALimitOfChunks(t *testing.T) {
	wrong := wrongStores()[0]
	long := string(make([]byte, impl.MaxBlobData+1))
	many := slices.Repeat([]string{"x"}, impl.MaxLeaves+1)
	for _, s := range []impl.Store{{}, fullStore(), wrong} {
		isNotPut(t, "one more", impl.ErrLimit)(impl.StoreList(s, bytesOfAll(many...)))
		isNotPut(t, "one more, and a long one", impl.ErrLimit)(impl.StoreList(s, bytesOfAll(append(slices.Clone(many), long)...)))
		for _, chunks := range [][]string{{long}, {"x", long}, {long, "x"}, append([]string{long}, many[:255]...), append(many[:255:255], long)} {
			isNotPut(t, "a long one", impl.ErrInvalid)(impl.StoreList(s, bytesOfAll(chunks...)))
		}
	}
	isNotPut(t, "very many", impl.ErrLimit)(impl.StoreList(wrong, make([][]byte, 100000)))
	checkStoredList(t, many[:impl.MaxLeaves], plainStore{})
	checkStoredList(t, []string{long[1:], "", long[1:]}, plainStore{})
}

// firstLost returns the key of the first part of a tree that is not among blobs.
func (tree *plainTree) firstLost(p plainStore) (impl.Key, bool) {
	var lost []impl.Key
	tree.each(func(part *plainTree) {
		if _, found := p[part.key]; !found {
			lost = append(lost, part.key)
		}
	})
	if len(lost) == 0 {
		return impl.Key{}, false
	}
	return lost[0], true
}

func TestTheFirstBlobThatIsMissingIsTold(t *testing.T) {
	r := chance(534)
	for _, texts := range listsTried(535) {
		p, root := listBlobs(texts...)
		n := len(texts)
		for k := range p {
			isListLost(t, numbered("one left out", n), k, impl.ErrNotFound)(impl.LoadList(p.without(k).and(countedBlobs(0, 3)).store(), root, int64(n)))
		}
		if n == 0 {
			continue
		}
		var leaves []impl.Key
		for _, text := range texts {
			leaves = append(leaves, plainBlobKey(chunkBlob(text)))
		}
		tree := growTree(leaves, 0)
		for range 10 {
			some := p
			for _, k := range p.keys() {
				if r.IntN(4) == 0 {
					some = some.without(k)
				}
			}
			if lost, found := tree.firstLost(some); found {
				isListLost(t, numbered("some left out", n), lost, impl.ErrNotFound)(impl.LoadList(some.store(), root, int64(n)))
			}
		}
	}
	for _, n := range []int64{0, 1, 2, 3, impl.MaxLeaves} {
		isListLost(t, "no blobs", impl.Key{7}, impl.ErrNotFound)(impl.LoadList(impl.Store{}, impl.Key{7}, n))
		isListLost(t, "no key", impl.Key{}, impl.ErrNotFound)(impl.LoadList(otherBlobs().store(), impl.Key{}, n))
	}
}

func TestListsHaveOneNumberOfChunks(t *testing.T) {
	for _, texts := range listsTried(536) {
		p, root := listBlobs(texts...)
		for _, n := range []int{0, 1, 2, 3, 4, 5, 7, 8, 9, len(texts) + 1, len(texts) / 2, 128, 255, impl.MaxLeaves} {
			told := checkLoadList(t, numbered("another number", len(texts), n), p, root, min(n, impl.MaxLeaves))
			if n != len(texts) && n <= impl.MaxLeaves {
				same(t, numbered("its code", len(texts), n), told.code, impl.ErrProof)
			}
		}
	}
}

func TestLoadedListsHaveALimit(t *testing.T) {
	p, root := listBlobs("x", "y")
	for _, n := range append(farNumbers(), impl.MaxLeaves+1) {
		for _, s := range []impl.Store{{}, p.store(), fullStore()} {
			isListLost(t, "a wrong number", impl.Key{}, impl.ErrRange)(impl.LoadList(s, root, n))
		}
		isListLost(t, "a wrong number and store", impl.Key{}, impl.ErrInvalid)(impl.LoadList(wrongStores()[1], root, n))
	}
}

// plantedList returns blobs of a tree over chunks in which a part has been replaced by the one with another key, and its
// key.
func (tree *plainTree) plantedList(texts []string, at *plainTree, k impl.Key) (plainStore, impl.Key) {
	b := blobOf(0)
	left, right := plainStore{}, plainStore{}
	switch {
	case tree == at:
		return plainStore{}, k
	case tree.left == nil:
		b = chunkBlob(texts[tree.begin])
	default:
		var keys [2]impl.Key
		left, keys[0] = tree.left.plantedList(texts, at, k)
		right, keys[1] = tree.right.plantedList(texts, at, k)
		b = pairBlob(keys[0], keys[1])
	}
	return left.and(right).and(plainOf(b)), plainBlobKey(b)
}

func TestBlobsThatAreNoPartsOfListsAreTold(t *testing.T) {
	a, b := impl.Key{1}, impl.Key{2}
	wrong := []impl.Blob{
		blobOf(0), blobOf(3), blobOf(3, []byte{0}), blobOf(2), blobOf(2, keyBytes(a)), blobOf(2, make([]byte, 63)), blobOf(2, make([]byte, 65)),
		blobOf(2, make([]byte, 96)), blobOf(5), blobOf(9, []byte("x")), nodeBlob(nodeOver(a, "x", b)), folderOf(a, b), commitOf("", a),
		blobOf(0, keyBytes(a, b)), blobOf(6, keyBytes(a, b)), blobOf(7, keyBytes(a, b)), blobOf(4, keyBytes(a, b)), chunkBlob("x"), chunkBlob(string(make([]byte, 64))),
		pairBlob(a, b), chunkBlob(""),
	}
	for _, n := range []int{1, 2, 3, 5, 8} {
		texts := countedChunks(n)
		var leaves []impl.Key
		for _, text := range texts {
			leaves = append(leaves, plainBlobKey(chunkBlob(text)))
		}
		tree := growTree(leaves, 0)
		tree.each(func(part *plainTree) {
			for i, w := range wrong {
				p, root := tree.plantedList(texts, part, plainBlobKey(w))
				p = p.and(plainOf(w))
				told := checkLoadList(t, numbered("no part", n, part.begin, part.end, i), p, root, n)
				if i < 17 {
					same(t, numbered("its code", n, part.begin, part.end, i), told.code, impl.ErrProof)
				}
				for k := range p { // what is missing before it comes first, and what is missing behind it does not
					checkLoadList(t, numbered("no part, and one left out", n, part.begin, part.end, i), p.without(k), root, n)
				}
			}
		})
	}
}

func TestListsWithoutChunksHaveABlob(t *testing.T) {
	none := plainBlobKey(blobOf(3))
	isPut(t, "no chunks", plainOf(blobOf(3)).store(), none)(impl.StoreList(impl.Store{}, nil))
	isPut(t, "no chunks, not nil", plainOf(blobOf(3)).store(), none)(impl.StoreList(impl.Store{}, [][]byte{}))
	for i, b := range []impl.Blob{blobOf(3, []byte{0}), blobOf(3, make([]byte, 64)), blobOf(1), blobOf(0), blobOf(2), blobOf(5), blobOf(6), chunkBlob("x"), pairBlob(none, none)} {
		p := plainOf(b, blobOf(3))
		isListLost(t, numbered("another blob", i), impl.Key{}, impl.ErrProof)(impl.LoadList(p.store(), plainBlobKey(b), 0))
	}
	isListLoaded(t, "no chunks")(impl.LoadList(plainOf(blobOf(3)).store(), none, 0))
	isListLost(t, "one chunk", impl.Key{}, impl.ErrProof)(impl.LoadList(plainOf(blobOf(3)).store(), none, 1))
	isListLost(t, "two chunks", impl.Key{}, impl.ErrProof)(impl.LoadList(plainOf(blobOf(3)).store(), none, 2))
	isListLost(t, "the blob is missing", none, impl.ErrNotFound)(impl.LoadList(otherBlobs().without(none).store(), none, 0))
}

func TestListsOfAllKindsAreLoaded(t *testing.T) {
	r := chance(537)
	for range 100 {
		p, keys := someStore(r)
		for _, k := range keys {
			for n := range 5 {
				checkLoadList(t, "some list", p, k, n)
			}
		}
	}
}

func TestFoldersArePut(t *testing.T) {
	r := chance(538)
	for n := range 33 {
		keys := someKeys(r, n)
		b := folderOf(keys...)
		for _, p := range []plainStore{{}, otherBlobs(), plainOf(b), countedBlobs(0, impl.MaxBlobs-1), countedBlobs(0, impl.MaxBlobs-1).and(plainOf(b))} {
			isPut(t, numbered("folder", n), p.and(plainOf(b)).store(), plainBlobKey(b))(impl.PutFolder(p.store(), keys))
		}
		isNotPut(t, "into a full store", impl.ErrLimit)(impl.PutFolder(fullStore(), keys))
		isKeys(t, "links", keys)(impl.LinksOf(b))
	}
	for _, n := range []int{33, 34, 64, impl.MaxKeys, impl.MaxKeys + 1, 30000} {
		isNotPut(t, "too many keys", impl.ErrLimit)(impl.PutFolder(impl.Store{}, make([]impl.Key, n)))
		isNotPut(t, "too many keys and a wrong store", impl.ErrInvalid)(impl.PutFolder(wrongStores()[2], make([]impl.Key, n)))
	}
	turned := folderOf(impl.Key{2}, impl.Key{1}, impl.Key{2})
	isPut(t, "in the given order", plainOf(turned).store(), plainBlobKey(turned))(impl.PutFolder(impl.Store{}, []impl.Key{{2}, {1}, {2}}))
}
