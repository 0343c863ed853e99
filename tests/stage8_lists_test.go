package tests

import (
	"slices"
	"testing"

	"loop.example/g01174/impl"
)

// chunkKeys returns the keys of chunks.
func chunkKeys(texts []string) []impl.Key {
	var keys []impl.Key
	for _, text := range texts {
		keys = append(keys, plainBlobKey(chunkBlob(text)))
	}
	return keys
}

// keysTo returns the keys from the top of a tree down to the leaf i.
func (tree *plainTree) keysTo(i int) []impl.Key {
	var keys []impl.Key
	tree.each(func(part *plainTree) {
		if part.has(i) {
			keys = append(keys, part.key)
		}
	})
	return keys
}

// listTried is a list whose copies are tried.
type listTried struct {
	texts  []string
	leaves []impl.Key
	tree   *plainTree
	blobs  plainStore
}

// triedList returns the list of some chunks.
func triedList(texts ...string) listTried {
	l := listTried{texts: texts, leaves: chunkKeys(texts)}
	l.tree = growTree(l.leaves, 0)
	l.blobs, _ = listBlobs(texts...)
	return l
}

// isChunk fails the test if ChunkPartial does not return some bytes, a key and a code.
func isChunk(t *testing.T, name, want string, key impl.Key, wanted int64) func([]byte, impl.Key, int64) {
	return func(got []byte, missing impl.Key, code int64) {
		t.Helper()
		same(t, name+": code", code, wanted)
		same(t, name+": key", missing, key)
		same(t, name, string(got), want)
	}
}

// check checks what a copy of a list tells about a chunk: what the whole tells, or the first key that it lacks.
func (l listTried) check(t *testing.T, name string, p plainStore, i int) {
	t.Helper()
	s, root, n, at := p.store(), l.tree.key, int64(len(l.texts)), int64(i)
	for _, k := range l.tree.keysTo(i) {
		if _, found := p[k]; !found {
			isChunk(t, name, "", k, impl.ErrState)(impl.ChunkPartial(s, root, n, at))
			isListed(t, name+": proof", lost[[]impl.Key](k))(impl.ListProofFromCopy(s, root, n, at))
			return
		}
	}
	isChunk(t, name, l.texts[i], impl.Key{}, impl.OK)(impl.ChunkPartial(s, root, n, at))
	proof, missing, code := impl.ListProofFromCopy(s, root, n, at)
	isListed(t, name+": proof", answered[[]impl.Key]{told: l.tree.proof(i)})(proof, missing, code)
	isTold(t, name+": CheckProof", true)(impl.CheckProof(listKey(t, l.leaves), n, at, l.leaves[i], proof))
}

func TestCopiesOfWholeLists(t *testing.T) {
	for _, texts := range listsTried(831)[1:] {
		l := triedList(texts...)
		for i := range texts {
			l.check(t, numbered("whole list", len(texts), i), l.blobs, i)
		}
		l.check(t, "with other blobs", l.blobs.and(otherBlobs()), len(texts)-1)
	}
}

func TestCopiesOfListsThatLackOneBlob(t *testing.T) {
	r := chance(832)
	for n := 1; n <= 17; n++ {
		for _, l := range []listTried{triedList(countedChunks(n)...), triedList(fewChunks(r, n)...)} {
			for i := range n {
				for _, k := range l.blobs.keys() {
					l.check(t, numbered("one left out", n, i), l.blobs.without(k), i)
				}
				l.check(t, numbered("all left out", n, i), plainStore{}, i)
				l.check(t, numbered("all left out, others there", n, i), otherBlobs(), i)
				l.check(t, numbered("only what is needed", n, i), l.blobs.only(l.tree.keysTo(i)...), i)
			}
		}
	}
}

func TestCopiesOfListsThatLackTwoBlobs(t *testing.T) {
	for n := 2; n <= 17; n++ {
		l := triedList(countedChunks(n)...)
		for k, one := range l.blobs.keys() {
			for m, two := range l.blobs.keys()[:k] {
				p := l.blobs.without(one, two)
				for i := range n {
					l.check(t, numbered("two left out", n, k, m, i), p, i)
				}
			}
		}
	}
}

func TestCopiesOfTheLongestLists(t *testing.T) {
	n := impl.MaxLeaves
	for _, texts := range [][]string{slices.Repeat([]string{"x"}, n), slices.Repeat([]string{"x", "", "y"}, n)[:n]} {
		l := triedList(texts...)
		keys := l.blobs.keys()
		for i := range n {
			l.check(t, numbered("the whole", i), l.blobs, i)
			l.check(t, numbered("one left out", i), l.blobs.without(keys[i%len(keys)]), i)
			l.check(t, numbered("two left out", i), l.blobs.without(keys[i%len(keys)], keys[i/7%len(keys)]), i)
		}
		for k := range keys {
			l.check(t, numbered("one left out", k), l.blobs.without(keys[k]), 7*k)
		}
	}
	distinct := countedChunks(n)
	l := triedList(distinct...) // a store cannot have all its blobs, but those that some chunks need
	for _, i := range []int{0, 1, 127, 128, 200, 254, 255} {
		p := l.blobs.only(l.tree.keysTo(i)...)
		l.check(t, numbered("only what is needed", i), p, i)
		l.check(t, numbered("what another one needs", i), p, (i+1)%n)
		for _, k := range p.keys() {
			l.check(t, numbered("one of it left out", i), p.without(k), i)
		}
	}
}

func TestChunksAreThereOrNot(t *testing.T) {
	p, root := listBlobs(countedChunks(5)...)
	for _, s := range []impl.Store{{}, p.store(), fullStore()} {
		for _, k := range []impl.Key{root, {}, plainBlobKey(blobOf(3))} {
			for _, n := range append(farNumbers(), 0, impl.MaxLeaves+1) {
				for _, i := range []int64{-1, 0, 1, n - 1, n} {
					isChunk(t, "a wrong n", "", impl.Key{}, impl.ErrRange)(impl.ChunkPartial(s, k, n, i))
					isListed(t, "a wrong n: proof", answered[[]impl.Key]{code: impl.ErrRange})(impl.ListProofFromCopy(s, k, n, i))
					isNotFilled(t, "a wrong n: FillForChunk", impl.ErrRange)(impl.FillForChunk(s, p.store(), k, n, i))
				}
			}
			for _, n := range []int64{1, 2, 5, impl.MaxLeaves} {
				for _, i := range append(farNumbers(), n, n+1) {
					isChunk(t, "a wrong i", "", impl.Key{}, impl.ErrRange)(impl.ChunkPartial(s, k, n, i))
					isListed(t, "a wrong i: proof", answered[[]impl.Key]{code: impl.ErrRange})(impl.ListProofFromCopy(s, k, n, i))
					isNotFilled(t, "a wrong i: FillForChunk", impl.ErrRange)(impl.FillForChunk(s, p.store(), k, n, i))
				}
			}
		}
	}
}

// checkChunk checks what a copy, whatever is in it, tells about a chunk. It returns the code.
func checkChunk(t *testing.T, name string, p plainStore, root impl.Key, n, i int) int64 {
	t.Helper()
	want := p.chunkAt(root, n, i)
	isChunk(t, name, string(want.told.bytes), want.missing, want.code)(impl.ChunkPartial(p.store(), root, int64(n), int64(i)))
	proof := answered[[]impl.Key]{told: want.told.proof, missing: want.missing, code: want.code}
	isListed(t, name+": proof", proof)(impl.ListProofFromCopy(p.store(), root, int64(n), int64(i)))
	return want.code
}

func TestCopiesOfListsWithBlobsThatAreNoParts(t *testing.T) {
	a, b := impl.Key{1}, impl.Key{2}
	wrong := []impl.Blob{
		blobOf(0), blobOf(3), blobOf(3, []byte{0}), blobOf(2), blobOf(2, keyBytes(a)), blobOf(2, make([]byte, 63)), blobOf(2, make([]byte, 65)),
		blobOf(2, make([]byte, 96)), blobOf(5), blobOf(9, []byte("x")), nodeBlob(nodeOver(a, "x", b)), folderOf(a, b), commitOf("", a),
		blobOf(0, keyBytes(a, b)), blobOf(6, keyBytes(a, b)), blobOf(4, keyBytes(a, b)), blobOf(1, keyBytes(a, b)), pairBlob(a, b), chunkBlob(""),
	}
	for _, n := range []int{1, 2, 3, 5, 8} {
		texts := countedChunks(n)
		tree := growTree(chunkKeys(texts), 0)
		tree.each(func(part *plainTree) {
			for w, blob := range wrong {
				p, root := tree.plantedList(texts, part, plainBlobKey(blob))
				p = p.and(plainOf(blob))
				for i := range n {
					name := numbered("no part", n, part.begin, part.end, w, i)
					code := checkChunk(t, name, p, root, n, i)
					switch {
					case !part.has(i):
						same(t, name+": code", code, impl.OK)
					case w < 16:
						same(t, name+": code", code, impl.ErrProof)
					}
					for _, k := range p.keys() {
						checkChunk(t, name+", one left out", p.without(k), root, n, i)
					}
				}
			}
		})
	}
}

func TestCopiesOfListsHaveOneNumberOfChunks(t *testing.T) {
	for _, texts := range [][]string{countedChunks(1), countedChunks(2), countedChunks(5), countedChunks(16), slices.Repeat([]string{"x"}, 64)} {
		p, root := listBlobs(texts...)
		for _, n := range []int{1, 2, 3, 4, 5, 6, 15, 16, 17, 32, 63, 64, 65, 128, impl.MaxLeaves} {
			for _, i := range []int{0, 1, n / 2, n - 2, n - 1} {
				if i >= 0 && i < n {
					checkChunk(t, numbered("another number", len(texts), n, i), p, root, n, i)
				}
			}
		}
	}
	p, root := listBlobs("x", "y", "z")
	isChunk(t, "two of three", "", impl.Key{}, impl.ErrProof)(impl.ChunkPartial(p.store(), root, 2, 0))
	isChunk(t, "one of three", "", impl.Key{}, impl.ErrProof)(impl.ChunkPartial(p.store(), root, 1, 0))
	isChunk(t, "three of three", "z", impl.Key{}, impl.OK)(impl.ChunkPartial(p.store(), root, 3, 2))
	none, empty := listBlobs()
	isChunk(t, "a chunk of none", "", impl.Key{}, impl.ErrProof)(impl.ChunkPartial(none.store(), empty, 1, 0))
	isChunk(t, "a chunk of the empty map", "", plainEmpty(), impl.ErrState)(impl.ChunkPartial(none.store(), plainEmpty(), 1, 0))
	isChunk(t, "a chunk of a blob with the key of the empty map", "", impl.Key{}, impl.ErrProof)(impl.ChunkPartial(plainOf(blobOf(5)).store(), plainEmpty(), 1, 0))
}

func TestCopiesOfListsOfAllKinds(t *testing.T) {
	r := chance(833)
	for range 100 {
		p, keys := someStore(r)
		for _, k := range keys {
			n := 1 + r.IntN(5)
			checkChunk(t, "some list", p, k, n, r.IntN(n))
		}
	}
}

func TestLongestChunksOfCopies(t *testing.T) {
	long := string(slices.Repeat([]byte{7}, impl.MaxBlobData))
	l := triedList(long, "", long[1:])
	for i := range 3 {
		l.check(t, numbered("chunk", i), l.blobs, i)
	}
}
