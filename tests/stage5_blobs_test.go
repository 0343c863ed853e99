package tests

import (
	"bytes"
	"slices"
	"strings"
	"testing"

	"loop.example/g01174/impl"
)

func TestLimitsOfStores(t *testing.T) {
	sameList(t, "limits", []int64{impl.MaxBlobs, impl.MaxBlobData, impl.MaxLeases, impl.MaxTime}, []int64{128, 1024, 32, 1000000000000})
}

func TestExampleOfChapter5(t *testing.T) {
	s, _, code := impl.StoreMap(impl.Store{}, entries("a", "1"))
	same(t, "code of StoreMap", code, impl.OK)
	same(t, "blobs of the map", len(s.Blobs), 1)
	s, _, code = impl.StoreList(s, nil)
	same(t, "code of StoreList", code, impl.OK)
	same(t, "blobs of both", len(s.Blobs), 2)
	counts, code := impl.LinkCounts(s)
	same(t, "code of LinkCounts", code, impl.OK)
	sameList(t, "links", counts, []int64{0, 0})
	isStore(t, "nothing is needed", impl.Store{})(impl.Collect(s, nil, nil, 0))
	isKeys(t, "a folder", []impl.Key{{}})(impl.LinksOf(blobOf(6, make([]byte, 32))))
	none, _, code := impl.StoreList(impl.Store{}, nil)
	same(t, "code of StoreList", code, impl.OK)
	same(t, "blobs of no chunks", len(none.Blobs), 1)
}

func TestBlobsHaveALimit(t *testing.T) {
	for tag := range 256 {
		for _, n := range []int{0, 1, 32, 64, 65, impl.MaxBlobData - 1, impl.MaxBlobData} {
			b := blobOf(byte(tag), bytes.Repeat([]byte{byte(tag + n)}, n))
			same(t, "ValidBlob", impl.ValidBlob(b), true)
			if tag < 10 || n < 33 {
				isNumber(t, "BlobKey", plainBlobKey(b))(impl.BlobKey(b))
			}
		}
		b := blobOf(byte(tag), make([]byte, impl.MaxBlobData+1))
		same(t, "ValidBlob of one byte more", impl.ValidBlob(b), false)
	}
	same(t, "ValidBlob of nothing", impl.ValidBlob(impl.Blob{}), true)
	for _, b := range wrongBlobs() {
		same(t, "ValidBlob", impl.ValidBlob(b), false)
		isCode[impl.Key](t, "BlobKey", impl.ErrInvalid)(impl.BlobKey(b))
		isError(t, "LinksOf", impl.ErrInvalid)(impl.LinksOf(b))
	}
}

func TestKeysOfBlobsAreKnown(t *testing.T) {
	isNumber(t, "a chunk", first(impl.ChunkKey([]byte("abc"))))(impl.BlobKey(chunkBlob("abc")))
	isNumber(t, "a node of a list", impl.NodeKey(impl.Key{1}, impl.Key{2}))(impl.BlobKey(pairBlob(impl.Key{1}, impl.Key{2})))
	isNumber(t, "the empty list", first(impl.ListKey(nil)))(impl.BlobKey(blobOf(3)))
	isNumber(t, "the empty map", impl.EmptyMapKey())(impl.BlobKey(blobOf(5)))
	n := impl.MapNode{Left: impl.Key{1}, Right: impl.Key{2}, Entry: impl.Entry{Name: "a", Value: "b"}}
	isNumber(t, "a node of a map", first(impl.MapNodeKey(n)))(impl.BlobKey(nodeBlob(n)))
}

// first returns the first one of two values.
func first[A, B any](a A, _ B) A {
	return a
}

func TestBlobsAreCompared(t *testing.T) {
	blobs := []impl.Blob{{}, {Tag: 1}, blobOf(1, []byte{0}), blobOf(1, []byte{1}), blobOf(1, []byte{0, 0}), blobOf(2, []byte{0})}
	blobs = append(blobs, wrongBlobs()...)
	for i, a := range blobs {
		for j, b := range blobs {
			same(t, numbered("SameBlob", i, j), impl.SameBlob(a, b), i == j)
			same(t, numbered("SameStore", i, j), impl.SameStore(impl.Store{Blobs: []impl.Blob{{}, a}}, impl.Store{Blobs: []impl.Blob{{}, b}}), i == j)
		}
		clone := impl.Blob{Tag: a.Tag, Data: slices.Clone(a.Data)}
		same(t, "SameBlob of a copy", impl.SameBlob(a, clone), true)
	}
	same(t, "no bytes", impl.SameBlob(impl.Blob{Tag: 3}, impl.Blob{Tag: 3, Data: []byte{}}), true)
}

func TestLinksAreInTheirOrder(t *testing.T) {
	a, b, c := impl.Key{1}, impl.Key{2}, impl.Key{3}
	empty := impl.EmptyMapKey()
	node := func(left, right impl.Key) impl.Blob { return nodeBlob(nodeOver(left, "name", right)) }
	for i, try := range []struct {
		blob impl.Blob
		want []impl.Key
	}{
		{pairBlob(b, a), []impl.Key{b, a}},
		{pairBlob(a, a), []impl.Key{a, a}},
		{pairBlob(empty, empty), []impl.Key{empty, empty}},
		{node(b, a), []impl.Key{b, a}},
		{node(a, a), []impl.Key{a, a}},
		{node(empty, a), []impl.Key{a}},
		{node(b, empty), []impl.Key{b}},
		{node(empty, empty), nil},
		{blobOf(5), nil},
		{folderOf(), nil},
		{folderOf(empty), []impl.Key{empty}},
		{folderOf(c, a, c, b, a), []impl.Key{c, a, c, b, a}},
		{commitOf(""), nil},
		{commitOf("note"), nil},
		{commitOf("", b), []impl.Key{b}},
		{commitOf("note", c, a, c, empty), []impl.Key{c, a, c, empty}},
		{commitOf(string(keyBytes(b)), a), []impl.Key{a}},
		{blobOf(7, []byte{2}, keyBytes(a), make([]byte, 31)), nil},
		{blobOf(7), nil},
		{blobOf(3, keyBytes(a, b)), nil},
		{blobOf(1, keyBytes(a, b)), nil},
		{blobOf(4, keyBytes(a, b)), nil},
		{blobOf(0, keyBytes(a, b)), nil},
		{blobOf(8, keyBytes(a, b)), nil},
	} {
		isKeys(t, numbered("links", i), try.want)(impl.LinksOf(try.blob))
	}
}

func TestLinksOfEachTagAndLength(t *testing.T) {
	r := chance(501)
	for tag := range 256 {
		lengths := []int{0, 1, 31, 32, 33, 63, 64, 65, 66, 96, 97, 1024}
		if tag < 10 {
			for n := range impl.MaxBlobData + 1 {
				lengths = append(lengths, n)
			}
		}
		for _, n := range lengths {
			data := someBytes(r, n)
			if n > 64 {
				data[64] = byte(r.IntN(26))
			}
			b := blobOf(byte(tag), data)
			isKeys(t, numbered("links", tag, n), plainLinks(b))(impl.LinksOf(b))
		}
	}
}

func TestLinksOfCommitsNeedAllTheirBytes(t *testing.T) {
	r := chance(502)
	for n := range 256 {
		for _, length := range []int{32 * n, 32*n + 1, 32*n + 2, 1 + 32*n + 31, 1 + 32*n + 32, 1, 993, 992, 1024} {
			if length < 1 || length > impl.MaxBlobData {
				continue
			}
			data := someBytes(r, length)
			data[0] = byte(n)
			want := 0
			if length >= 1+32*n {
				want = n
			}
			isKeys(t, numbered("commit", n, length), cutKeys(data[1:], want))(impl.LinksOf(blobOf(7, data)))
		}
	}
}

func TestLinksOfMapNodesNeedAValidEntry(t *testing.T) {
	a, b := impl.Key{1}, impl.Key{2}
	for nameLength := range 256 {
		for _, rest := range []int{0, 1, nameLength - 1, nameLength, nameLength + 1, nameLength + 64, nameLength + 65} {
			if rest < 0 {
				continue
			}
			blob := blobOf(5, keyBytes(a, b), []byte{byte(nameLength)}, bytes.Repeat([]byte("x"), rest))
			var want []impl.Key
			if nameLength >= 1 && nameLength <= 24 && rest >= nameLength && rest <= nameLength+64 {
				want = []impl.Key{a, b}
			}
			isKeys(t, numbered("node", nameLength, rest), want)(impl.LinksOf(blob))
		}
	}
	isKeys(t, "no entry", nil)(impl.LinksOf(blobOf(5, keyBytes(a, b))))
	isKeys(t, "a list", nil)(impl.LinksOf(blobOf(5, keyBytes(a), []byte(strings.Repeat("\x01", 32)))))
}
