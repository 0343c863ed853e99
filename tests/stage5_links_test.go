package tests

import (
	"maps"
	"slices"
	"testing"

	"loop.example/g01174/impl"
)

// plainCounts is LinkCounts as the document tells it.
func plainCounts(p plainStore) []int64 {
	var counts []int64
	for _, k := range p.keys() {
		n := int64(0)
		for _, b := range p {
			for _, link := range plainLinks(b) {
				if link == k {
					n++
				}
			}
		}
		counts = append(counts, n)
	}
	return counts
}

// isCounted fails the test if LinkCounts does not return some numbers.
func isCounted(t *testing.T, name string, want []int64) func([]int64, int64) {
	return func(got []int64, code int64) {
		t.Helper()
		same(t, name+": code", code, impl.OK)
		sameList(t, name, got, want)
	}
}

func TestLinksAreCounted(t *testing.T) {
	r := chance(541)
	for range 150 {
		p, _ := someStore(r)
		counts := plainCounts(p)
		isCounted(t, "LinkCounts", counts)(impl.LinkCounts(p.store()))
		var roots []impl.Key
		for i, k := range p.keys() {
			if counts[i] == 0 {
				roots = append(roots, k)
			}
		}
		isKeys(t, "RootsOf", roots)(impl.RootsOf(p.store()))
	}
}

func TestLinksAreCountedAsOftenAsTheyOccur(t *testing.T) {
	x, y := plainBlobKey(chunkBlob("x")), plainBlobKey(chunkBlob("y"))
	top := folderOf(x, y, x, impl.Key{1}, x)
	p := plainOf(chunkBlob("x"), chunkBlob("y"), pairBlob(x, x), commitOf("", x, plainBlobKey(top)), top)
	counts := map[impl.Key]int64{x: 6, y: 1, plainBlobKey(top): 1}
	var want []int64
	for _, k := range p.keys() {
		want = append(want, counts[k])
	}
	isCounted(t, "LinkCounts", want)(impl.LinkCounts(p.store()))
	isKeys(t, "RootsOf", plainOf(pairBlob(x, x), commitOf("", x, plainBlobKey(top))).keys())(impl.RootsOf(p.store()))
	isCounted(t, "of no blobs", nil)(impl.LinkCounts(impl.Store{}))
	isKeys(t, "RootsOf no blobs", nil)(impl.RootsOf(impl.Store{}))
	isKeys(t, "RootsOf blobs without links", countedBlobs(0, impl.MaxBlobs).keys())(impl.RootsOf(fullStore()))
}

// checkReached checks what is reachable, and what is missing, from some roots.
func checkReached(t *testing.T, name string, p plainStore, roots ...impl.Key) {
	t.Helper()
	with, missing := p.reached(roots)
	isKeys(t, "ReachableFrom: "+name, with)(impl.ReachableFrom(p.store(), roots))
	isKeys(t, "MissingFrom: "+name, missing)(impl.MissingFrom(p.store(), roots))
}

func TestWhatIsReachableIsFound(t *testing.T) {
	r := chance(542)
	for range 150 {
		p, keys := someStore(r)
		checkReached(t, "no roots", p)
		checkReached(t, "all roots", p, keys...)
		for _, k := range keys {
			checkReached(t, "one root", p, k)
		}
		for range 5 {
			some := []impl.Key{keys[r.IntN(len(keys))], keys[r.IntN(len(keys))], someKey(r)}
			checkReached(t, "some roots", p, append(some, some[:2]...)...)
		}
	}
}

func TestMapsListsAndFoldersAreReachable(t *testing.T) {
	tree, root := mapBlobs(countedMap(20))
	list, key := listBlobs(countedChunks(20)...)
	folder := folderOf(key, impl.Key{1}, root)
	commit := commitOf("note", root, plainBlobKey(folder))
	top := folderOf(plainBlobKey(commit), impl.Key{2}, impl.Key{2})
	p := tree.and(list).and(plainOf(folder, commit))
	both := p.and(plainOf(top)).and(countedBlobs(0, 5))
	isKeys(t, "the map", tree.keys())(impl.ReachableFrom(both.store(), []impl.Key{root}))
	isKeys(t, "the list", list.keys())(impl.ReachableFrom(both.store(), []impl.Key{key}))
	isKeys(t, "the commit", p.keys())(impl.ReachableFrom(both.store(), []impl.Key{plainBlobKey(commit)}))
	isKeys(t, "all", p.and(plainOf(top)).keys())(impl.ReachableFrom(both.store(), []impl.Key{plainBlobKey(top)}))
	isKeys(t, "the map is whole", nil)(impl.MissingFrom(both.store(), []impl.Key{root, key}))
	isKeys(t, "all lack", []impl.Key{{1}, {2}})(impl.MissingFrom(both.store(), []impl.Key{plainBlobKey(top)}))
	none, empty := listBlobs()
	checkReached(t, "the empty list", none.and(tree), empty)
	for k := range tree {
		checkReached(t, "a map that lacks a node", both.without(k), root)
		checkReached(t, "a map that lacks a node, and a part of it", both.without(k), root, k)
	}
	for k := range list {
		checkReached(t, "a list that lacks a blob", both.without(k), plainBlobKey(top))
	}
}

func TestNothingIsReachableThroughKeysWithoutABlob(t *testing.T) {
	x := plainBlobKey(chunkBlob("x"))
	low := folderOf(x)
	top := folderOf(plainBlobKey(low))
	p := plainOf(chunkBlob("x"), top)
	isKeys(t, "ReachableFrom", []impl.Key{plainBlobKey(top)})(impl.ReachableFrom(p.store(), []impl.Key{plainBlobKey(top)}))
	isKeys(t, "MissingFrom", []impl.Key{plainBlobKey(low)})(impl.MissingFrom(p.store(), []impl.Key{plainBlobKey(top)}))
	isKeys(t, "the key itself", nil)(impl.ReachableFrom(p.store(), []impl.Key{plainBlobKey(low)}))
	isKeys(t, "the key itself is missing", []impl.Key{plainBlobKey(low)})(impl.MissingFrom(p.store(), []impl.Key{plainBlobKey(low)}))
	isError(t, "LinkPath", impl.ErrNotFound)(impl.LinkPath(p.store(), plainBlobKey(top), x))
}

func TestKeysOfTheEmptyMap(t *testing.T) {
	empty := plainEmpty()
	leaf := nodeOver(empty, "a", empty)
	p := plainOf(nodeBlob(leaf), folderOf(empty))
	isKeys(t, "a node lacks nothing", nil)(impl.MissingFrom(p.store(), []impl.Key{plainNodeKey(leaf)}))
	isKeys(t, "a folder does", []impl.Key{empty})(impl.MissingFrom(p.store(), []impl.Key{plainBlobKey(folderOf(empty))}))
	isKeys(t, "a root does", []impl.Key{empty})(impl.MissingFrom(p.store(), []impl.Key{empty}))
	p = p.and(plainOf(blobOf(5)))
	checkReached(t, "a blob that has the key", p, plainBlobKey(folderOf(empty)))
	isKeys(t, "no node leads to it", []impl.Key{plainNodeKey(leaf)})(impl.ReachableFrom(p.store(), []impl.Key{plainNodeKey(leaf)}))
}

func TestMoreThanMaxKeysAreMissing(t *testing.T) {
	r := chance(543)
	for _, n := range []int{8, 9, 10, impl.MaxBlobs} {
		p := plainStore{}
		for range n {
			var keys []impl.Key
			for range 32 {
				keys = append(keys, someKey(r))
			}
			p = p.and(plainOf(folderOf(keys...)))
		}
		_, missing := p.reached(p.keys())
		same(t, "keys", len(missing), 32*n)
		isKeys(t, numbered("MissingFrom", n), missing)(impl.MissingFrom(p.store(), p.keys()))
		isKeys(t, numbered("ReachableFrom", n), p.keys())(impl.ReachableFrom(p.store(), p.keys()))
	}
}

func TestRootsHaveALimit(t *testing.T) {
	r := chance(544)
	p := otherBlobs()
	many := someKeys(r, impl.MaxKeys+1)
	checkReached(t, "MaxKeys roots", p, many[:impl.MaxKeys]...)
	checkReached(t, "one root MaxKeys times", p, slices.Repeat(p.keys()[:1], impl.MaxKeys)...)
	for _, roots := range [][]impl.Key{many, slices.Repeat(p.keys()[:1], impl.MaxKeys+1), make([]impl.Key, 30000)} {
		isError(t, "ReachableFrom", impl.ErrLimit)(impl.ReachableFrom(p.store(), roots))
		isError(t, "MissingFrom", impl.ErrLimit)(impl.MissingFrom(p.store(), roots))
		isError(t, "ReachableFrom a wrong store", impl.ErrInvalid)(impl.ReachableFrom(wrongStores()[0], roots))
		isError(t, "MissingFrom a wrong store", impl.ErrInvalid)(impl.MissingFrom(wrongStores()[0], roots))
	}
}

// plainPath is LinkPath as the document tells it; no keys if there is no such list.
func plainPath(p plainStore, from, to impl.Key) []impl.Key {
	met, path := []impl.Key{from}, map[impl.Key][]impl.Key{from: {from}}
	for i := 0; i < len(met); i++ {
		for _, link := range plainLinks(p[met[i]]) {
			if path[link] == nil {
				met = append(met, link)
				path[link] = append(slices.Clone(path[met[i]]), link)
			}
		}
	}
	if _, found := p[to]; !found {
		return nil
	}
	return path[to]
}

// checkPath checks what LinkPath tells.
func checkPath(t *testing.T, p plainStore, from, to impl.Key) {
	t.Helper()
	want := plainPath(p, from, to)
	if len(want) == 0 {
		isError(t, "LinkPath", impl.ErrNotFound)(impl.LinkPath(p.store(), from, to))
		return
	}
	isKeys(t, "LinkPath", want)(impl.LinkPath(p.store(), from, to))
}

func TestPathsOfLinksAreFound(t *testing.T) {
	r := chance(545)
	for range 40 {
		p, keys := someStore(r)
		for range 150 {
			checkPath(t, p, keys[r.IntN(len(keys))], keys[r.IntN(len(keys))])
		}
		for k := range p {
			isKeys(t, "from a blob to itself", []impl.Key{k})(impl.LinkPath(p.store(), k, k))
		}
	}
}

func TestPathsLeadDownMaps(t *testing.T) {
	list := countedMap(30)
	tree, root := mapBlobs(list)
	s := tree.and(otherBlobs()).store()
	for _, e := range list {
		var want []impl.Key
		for _, n := range growMap(list).path(e.Name) {
			want = append(want, plainNodeKey(n))
		}
		isKeys(t, "to "+e.Name, want)(impl.LinkPath(s, root, want[len(want)-1]))
		if len(want) > 1 {
			isError(t, "back from "+e.Name, impl.ErrNotFound)(impl.LinkPath(s, want[len(want)-1], root))
		}
	}
}

func TestShortestPathsAreTheFirst(t *testing.T) {
	end := chunkBlob("end")
	k := plainBlobKey(end)
	sides := []impl.Blob{folderOf(k), folderOf(k, k), folderOf(impl.Key{1}, k), commitOf("", k), pairBlob(k, k)}
	for i, a := range sides {
		for j, b := range sides {
			if i == j {
				continue
			}
			left, right := plainBlobKey(a), plainBlobKey(b)
			first := folderOf(left, impl.Key{2}, right)
			p := plainOf(end, a, b, first)
			isKeys(t, "two of the same length", []impl.Key{plainBlobKey(first), left, k})(impl.LinkPath(p.store(), plainBlobKey(first), k))
			direct := folderOf(left, right, k)
			p = plainOf(end, a, b, direct)
			isKeys(t, "a shorter one", []impl.Key{plainBlobKey(direct), k})(impl.LinkPath(p.store(), plainBlobKey(direct), k))
			long := folderOf(left)
			top := folderOf(plainBlobKey(long), right)
			p = plainOf(end, a, b, long, top)
			isKeys(t, "a longer one first", []impl.Key{plainBlobKey(top), right, k})(impl.LinkPath(p.store(), plainBlobKey(top), k))
			lost := p.without(right)
			isKeys(t, "a shorter one that is lost", []impl.Key{plainBlobKey(top), plainBlobKey(long), left, k})(impl.LinkPath(lost.store(), plainBlobKey(top), k))
		}
	}
}

func TestPathsNeedBlobsAtBothEnds(t *testing.T) {
	x := plainBlobKey(chunkBlob("x"))
	lost := impl.Key{1}
	top := folderOf(x, lost)
	k := plainBlobKey(top)
	s := plainOf(chunkBlob("x"), top).store()
	isKeys(t, "there", []impl.Key{k, x})(impl.LinkPath(s, k, x))
	for _, ends := range [][2]impl.Key{{k, lost}, {lost, k}, {lost, lost}, {lost, x}, {x, lost}, {x, k}, {k, {}}, {{}, {}}} {
		isError(t, "not there", impl.ErrNotFound)(impl.LinkPath(s, ends[0], ends[1]))
	}
	isError(t, "no blobs", impl.ErrNotFound)(impl.LinkPath(impl.Store{}, impl.Key{}, impl.Key{}))
}

func TestPathsThroughManyBlobs(t *testing.T) {
	p, last := plainStore{}, plainBlobKey(chunkBlob("end"))
	p[last] = chunkBlob("end")
	want := []impl.Key{last}
	for len(p) < impl.MaxBlobs {
		b := folderOf(last, impl.Key{1})
		last = plainBlobKey(b)
		p[last] = b
		want = append(want, last)
	}
	slices.Reverse(want)
	isKeys(t, "the whole chain", want)(impl.LinkPath(p.store(), last, want[len(want)-1]))
	isKeys(t, "all are reachable", p.keys())(impl.ReachableFrom(p.store(), []impl.Key{last}))
	isStore(t, "all are needed", p.store())(impl.Collect(p.store(), []impl.Key{last}, nil, 0))
	same(t, "blobs", len(slices.Collect(maps.Keys(p))), impl.MaxBlobs)
}
