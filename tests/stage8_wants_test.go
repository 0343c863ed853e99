package tests

import (
	"slices"
	"testing"

	"loop.example/g01174/impl"
)

func TestLimitsOfFetching(t *testing.T) {
	sameList(t, "limits", []int64{impl.MaxRounds, impl.MaxBudget}, []int64{64, 1000000})
}

func TestExampleOfChapter8(t *testing.T) {
	whole, root, _ := impl.StoreMap(impl.Store{}, entries("a", "1"))
	none := impl.Store{}
	isAnswered(t, "a copy without blobs", lost[string](mapKey(t, entries("a", "1"))))(impl.GetPartial(none, root, "a"))
	filled, n, code := impl.FillForName(none, whole, root, "a")
	isFilled(t, "FillForName", plainOf(whole.Blobs...), 1)(filled, n, code)
	isAnswered(t, "the filled copy", answered[string]{told: "1"})(impl.GetPartial(filled, root, "a"))
	isKeys(t, "WantsOf", []impl.Key{root})(impl.WantsOf(none, []impl.Key{root}, 8))
	_, trip, code := impl.FetchAll(none, whole, []impl.Key{root}, 8, 1000, 4)
	same(t, "code of FetchAll", code, impl.OK)
	same(t, "FetchAll", trip, impl.Trip{Rounds: 1, Blobs: 1, Bytes: 67})
}

// checkPart checks IsPartOf, each way round.
func checkPart(t *testing.T, name string, p, q plainStore, there, back bool) {
	t.Helper()
	isTold(t, name, there)(impl.IsPartOf(p.store(), q.store()))
	isTold(t, name+", the other way round", back)(impl.IsPartOf(q.store(), p.store()))
}

func TestPartsOfStores(t *testing.T) {
	for _, n := range []int{1, 2, 3, 40, impl.MaxBlobs} {
		all := countedBlobs(0, n)
		keys := all.keys()
		checkPart(t, "none", plainStore{}, all, true, false)
		checkPart(t, "all", all, countedBlobs(0, n), true, true)
		checkPart(t, "other ones", all, countedBlobs(500, n), false, false)
		checkPart(t, "other ones, and one in common", all.without(keys[1:]...).and(countedBlobs(500, n-1)), all, n == 1, n == 1)
		for _, i := range []int{0, n / 2, n - 1} {
			checkPart(t, "all but one", all.without(keys[i]), all, true, false)
			checkPart(t, "one", all.only(keys[i]), all, true, n == 1)
			checkPart(t, "another one instead of one", all.without(keys[i]).and(countedBlobs(700, 1)), all, false, false)
		}
	}
	checkPart(t, "no blobs", plainStore{}, plainStore{}, true, true)
	checkPart(t, "the same data with another tag", plainOf(blobOf(1, []byte("x"))), plainOf(blobOf(2, []byte("x"))), false, false)
	tried := storesTried(801)
	for i, p := range tried {
		for k, q := range tried {
			checkPart(t, numbered("stores", i, k), p, q, p.isPartOf(q), q.isPartOf(p))
			checkPart(t, numbered("both", i, k), plainOf(), p, true, len(p) == 0)
		}
	}
}

// foldersOver returns folders that lead to n keys without a blob, their keys, and those that are missing.
func foldersOver(n int) (folders plainStore, roots, missing []impl.Key) {
	keys := ascending(countedBlobs(0, n).keys()...)
	folders = plainStore{}
	for part := range slices.Chunk(keys, 32) {
		folders = folders.and(plainOf(folderOf(part...)))
	}
	return folders, folders.keys(), keys
}

func TestWantsAreTheFirstKeysThatAreMissing(t *testing.T) {
	for _, n := range []int{0, 1, 2, 7, 40, 255, 256, 257, 300} {
		p, roots, missing := foldersOver(n)
		for _, most := range []int{1, 2, n - 1, n, n + 1, 255, impl.MaxKeys} {
			if most >= 1 && most <= impl.MaxKeys {
				isKeys(t, numbered("WantsOf", n, most), missing[:min(n, most)])(impl.WantsOf(p.store(), roots, int64(most)))
			}
		}
		for _, most := range append(farNumbers(), 0, impl.MaxKeys+1) {
			isError(t, numbered("WantsOf", n, int(most)), impl.ErrRange)(impl.WantsOf(p.store(), roots, most))
		}
	}
}

func TestWantsOfAllKindsOfRoots(t *testing.T) {
	low := folderOf(impl.Key{9}, impl.Key{7}, impl.Key{9})
	p := plainOf(low, chunkBlob("x"))
	here, gone, x := plainBlobKey(low), impl.Key{8}, plainBlobKey(chunkBlob("x"))
	for _, try := range []struct {
		name        string
		roots, want []impl.Key
	}{
		{"no roots", nil, nil},
		{"a root that is there", []impl.Key{here}, []impl.Key{{7}, {9}}},
		{"a root that is not there", []impl.Key{gone}, []impl.Key{gone}},
		{"both", []impl.Key{gone, here}, []impl.Key{{7}, {8}, {9}}},
		{"a root twice", []impl.Key{here, here}, []impl.Key{{7}, {9}}},
		{"a root that is not there twice", []impl.Key{gone, gone, gone}, []impl.Key{gone}},
		{"a root that lacks nothing", []impl.Key{x}, nil},
		{"a root that is missing from another one", []impl.Key{{9}, here}, []impl.Key{{7}, {9}}},
		{"the empty map", []impl.Key{plainEmpty()}, []impl.Key{plainEmpty()}},
	} {
		isKeys(t, try.name, try.want)(impl.WantsOf(p.store(), try.roots, 8))
		for most := range int64(3) {
			isKeys(t, try.name, p.wants(try.roots, most+1))(impl.WantsOf(p.store(), try.roots, most+1))
		}
	}
}

func TestWantsHaveALimitOfRoots(t *testing.T) {
	keys := ascending(leavesOf(802, impl.MaxKeys)...)
	isKeys(t, "MaxKeys roots", keys)(impl.WantsOf(impl.Store{}, keys, impl.MaxKeys))
	isKeys(t, "MaxKeys roots, fewer wants", keys[:5])(impl.WantsOf(impl.Store{}, keys, 5))
	isKeys(t, "MaxKeys equal roots", keys[:1])(impl.WantsOf(impl.Store{}, slices.Repeat(keys[:1], impl.MaxKeys), impl.MaxKeys))
	for _, most := range []int64{-1, 0, 1, impl.MaxKeys, impl.MaxKeys + 1} {
		isError(t, "one more", impl.ErrLimit)(impl.WantsOf(impl.Store{}, append(keys, impl.Key{}), most))
		isError(t, "one more, all equal", impl.ErrLimit)(impl.WantsOf(impl.Store{}, slices.Repeat(keys[:1], impl.MaxKeys+1), most))
	}
}

func TestWantsOfSomeStores(t *testing.T) {
	r := chance(803)
	for range 60 {
		p, keys := someStore(r)
		for _, most := range []int64{1, 2, 5, impl.MaxKeys} {
			isKeys(t, "all roots", p.wants(keys, most))(impl.WantsOf(p.store(), keys, most))
			one := keys[r.IntN(len(keys)):][:1]
			isKeys(t, "one root", p.wants(one, most))(impl.WantsOf(p.store(), one, most))
		}
	}
}

// sizedBlobs returns blobs without links, with some numbers of bytes, and their keys in this order.
func sizedBlobs(sizes ...int) (plainStore, []impl.Key) {
	p := plainStore{}
	var keys []impl.Key
	for i, n := range sizes {
		b := blobOf(byte(10+i), make([]byte, n))
		p[plainBlobKey(b)] = b
		keys = append(keys, plainBlobKey(b))
	}
	return p, keys
}

// blobsAt returns the blobs with some keys, in their order.
func (p plainStore) blobsAt(keys ...impl.Key) []impl.Blob {
	var blobs []impl.Blob
	for _, k := range keys {
		blobs = append(blobs, p[k])
	}
	return blobs
}

func TestAnswersAreWithinTheBudget(t *testing.T) {
	p, keys := sizedBlobs(5, 0, 7, 0, 1024, 0, 1)
	for _, try := range []struct {
		budget int64
		count  int
	}{
		{0, 0}, {4, 0}, {5, 2}, {6, 2}, {11, 2}, {12, 4}, {13, 4}, {1035, 4}, {1036, 6}, {1037, 7}, {1038, 7}, {impl.MaxBudget - 1, 7}, {impl.MaxBudget, 7},
	} {
		areBlobs(t, numbered("budget", int(try.budget)), p.blobsAt(keys[:try.count]...)...)(impl.AnswerWants(p.store(), keys, try.budget))
	}
	for _, budget := range append(farNumbers(), impl.MaxBudget+1) {
		isNone[impl.Blob](t, numbered("budget", int(budget)), impl.ErrRange)(impl.AnswerWants(p.store(), keys, budget))
		isNone[impl.Blob](t, numbered("budget without wants", int(budget)), impl.ErrRange)(impl.AnswerWants(impl.Store{}, nil, budget))
	}
	areBlobs(t, "no bytes first", p.blobsAt(keys[1], keys[3])...)(impl.AnswerWants(p.store(), []impl.Key{keys[1], keys[3], keys[6], keys[5]}, 0))
	areBlobs(t, "what would fit behind what does not", p.blobsAt(keys[6])...)(impl.AnswerWants(p.store(), []impl.Key{keys[6], keys[4], keys[0], keys[1]}, 1000))
}

func TestAnswersAreInTheOrderOfTheWants(t *testing.T) {
	p, keys := sizedBlobs(5, 0, 7, 3)
	gone := impl.Key{1}
	for _, try := range []struct {
		name        string
		wants, want []impl.Key
		budget      int64
	}{
		{"no wants", nil, nil, 100},
		{"as told", []impl.Key{keys[3], keys[0], keys[2]}, []impl.Key{keys[3], keys[0], keys[2]}, 15},
		{"twice", []impl.Key{keys[2], keys[0], keys[2]}, []impl.Key{keys[2], keys[0], keys[2]}, 19},
		{"twice, but one byte less", []impl.Key{keys[2], keys[0], keys[2]}, []impl.Key{keys[2], keys[0]}, 18},
		{"what is not there", []impl.Key{gone, keys[1], gone, keys[0], {}}, []impl.Key{keys[1], keys[0]}, 5},
		{"nothing is there", []impl.Key{gone, {}, gone}, nil, 100},
		{"no bytes many times", slices.Repeat(keys[1:2], impl.MaxKeys), slices.Repeat(keys[1:2], impl.MaxKeys), 0},
		{"MaxKeys wants", slices.Repeat(keys[:1], impl.MaxKeys), slices.Repeat(keys[:1], impl.MaxKeys), 5 * impl.MaxKeys},
		{"MaxKeys wants, but one byte less", slices.Repeat(keys[:1], impl.MaxKeys), slices.Repeat(keys[:1], impl.MaxKeys-1), 5*impl.MaxKeys - 1},
		{"as many bytes as there may be", slices.Repeat(keys[:1], 200), slices.Repeat(keys[:1], 200), impl.MaxBudget},
	} {
		areBlobs(t, try.name, p.blobsAt(try.want...)...)(impl.AnswerWants(p.store(), try.wants, try.budget))
	}
	for _, budget := range []int64{-1, 0, 5, impl.MaxBudget, impl.MaxBudget + 1} {
		isNone[impl.Blob](t, "one more than MaxKeys", impl.ErrLimit)(impl.AnswerWants(p.store(), slices.Repeat(keys[:1], impl.MaxKeys+1), budget))
	}
}

func TestAnswersOfSomeStores(t *testing.T) {
	r := chance(804)
	for range 100 {
		p, keys := someStore(r)
		for range 5 {
			wants := make([]impl.Key, r.IntN(20))
			for i := range wants {
				wants[i] = keys[r.IntN(len(keys))]
			}
			budget := int64(r.IntN(1000))
			areBlobs(t, "some wants", p.answer(wants, budget)...)(impl.AnswerWants(p.store(), wants, budget))
		}
	}
}

func TestBlobsThatAreWantedAreTaken(t *testing.T) {
	p, keys := sizedBlobs(5, 0, 7, 3)
	own := otherBlobs()
	one, two, three := p[keys[0]], p[keys[1]], p[keys[2]]
	for _, try := range []struct {
		name  string
		wants []impl.Key
		blobs []impl.Blob
		want  []impl.Key
	}{
		{"nothing", nil, nil, nil},
		{"nothing wanted", nil, []impl.Blob{one, two}, nil},
		{"nothing given", keys, nil, nil},
		{"all wanted", keys, []impl.Blob{three, one, two}, keys[:3]},
		{"one wanted", keys[1:2], []impl.Blob{three, one, two}, keys[1:2]},
		{"others wanted", keys[3:], []impl.Blob{three, one, two}, nil},
		{"wanted twice", []impl.Key{keys[0], keys[0]}, []impl.Blob{one, two}, keys[:1]},
		{"given twice", keys[:1], []impl.Blob{one, two, one, one}, keys[:1]},
		{"the same data with another tag", keys, []impl.Blob{blobOf(99, one.Data)}, nil},
	} {
		isFilled(t, try.name+", no store", p.only(try.want...), len(try.want))(impl.TakeBlobs(impl.Store{}, try.wants, try.blobs))
		isFilled(t, try.name, own.and(p.only(try.want...)), len(try.want))(impl.TakeBlobs(own.store(), try.wants, try.blobs))
		isFilled(t, try.name+", all there", own.and(p), 0)(impl.TakeBlobs(own.and(p).store(), try.wants, try.blobs))
		there := own.and(p.only(keys[0]))
		news := len(p.only(try.want...).without(keys[0]))
		isFilled(t, try.name+", one there", there.and(p.only(try.want...)), news)(impl.TakeBlobs(there.store(), try.wants, try.blobs))
	}
}

func TestBlobsThatAreTakenHaveALimit(t *testing.T) {
	p := countedBlobs(500, 3)
	keys := p.keys()
	blobs := p.blobsAt(keys...)
	for room := range 5 {
		own := countedBlobs(0, impl.MaxBlobs-room)
		for n := range 4 {
			name := numbered("taken with room", n, room)
			if n <= room {
				isFilled(t, name, own.and(p.only(keys[:n]...)), n)(impl.TakeBlobs(own.store(), keys[:n], blobs))
			} else {
				isNotFilled(t, name, impl.ErrLimit)(impl.TakeBlobs(own.store(), keys[:n], blobs))
			}
		}
	}
	full := countedBlobs(0, impl.MaxBlobs)
	isFilled(t, "a full store that has them", full, 0)(impl.TakeBlobs(full.store(), full.keys(), full.store().Blobs))
	isFilled(t, "a full store, nothing wanted", full, 0)(impl.TakeBlobs(full.store(), nil, blobs))
	isFilled(t, "as many blobs as there may be", full, impl.MaxBlobs)(impl.TakeBlobs(impl.Store{}, full.keys(), full.store().Blobs))
	isFilled(t, "MaxKeys wants", p, 3)(impl.TakeBlobs(impl.Store{}, slices.Concat(keys, make([]impl.Key, impl.MaxKeys-3)), blobs))
	many := slices.Repeat(blobs[:1], impl.MaxBlobs+1)
	isNotFilled(t, "one blob more", impl.ErrLimit)(impl.TakeBlobs(impl.Store{}, keys, many))
	isNotFilled(t, "one blob more, none wanted", impl.ErrLimit)(impl.TakeBlobs(impl.Store{}, nil, many))
	isFilled(t, "MaxBlobs equal blobs", p.only(keys[0]), 1)(impl.TakeBlobs(impl.Store{}, keys, many[:impl.MaxBlobs]))
	isNotFilled(t, "one want more", impl.ErrLimit)(impl.TakeBlobs(impl.Store{}, slices.Repeat(keys[:1], impl.MaxKeys+1), blobs))
	isNotFilled(t, "one want more, no blobs", impl.ErrLimit)(impl.TakeBlobs(impl.Store{}, make([]impl.Key, impl.MaxKeys+1), nil))
}

func TestWrongBlobsAreNotTaken(t *testing.T) {
	p := countedBlobs(0, 3)
	right := p.store().Blobs
	for i, b := range wrongBlobs() {
		for place := range 4 {
			blobs := with(right, place, b)
			isNotFilled(t, numbered("wrong blob", i, place), impl.ErrInvalid)(impl.TakeBlobs(impl.Store{}, p.keys(), blobs))
			isNotFilled(t, numbered("wrong blob, none wanted", i, place), impl.ErrInvalid)(impl.TakeBlobs(impl.Store{}, nil, blobs))
			isNotFilled(t, numbered("wrong blob, a full store", i, place), impl.ErrInvalid)(impl.TakeBlobs(countedBlobs(500, impl.MaxBlobs).store(), p.keys(), blobs))
			many := append(blobs, slices.Repeat(right, 50)...)
			isNotFilled(t, numbered("wrong blob, too many", i, place), impl.ErrInvalid)(impl.TakeBlobs(impl.Store{}, make([]impl.Key, 300), many))
		}
	}
}

func TestSomeBlobsAreTaken(t *testing.T) {
	r := chance(805)
	for range 60 {
		p, keys := someStore(r)
		q, others := someStore(r)
		var wants []impl.Key
		for _, k := range slices.Concat(keys, others) {
			if r.IntN(2) == 0 && len(wants) < impl.MaxKeys {
				wants = append(wants, k)
			}
		}
		blobs := slices.Concat(q.store().Blobs, p.store().Blobs[:len(p)/2])
		blobs = blobs[:min(len(blobs), impl.MaxBlobs)]
		r.Shuffle(len(blobs), func(i, k int) { blobs[i], blobs[k] = blobs[k], blobs[i] })
		want, n, code := p.take(wants, blobs)
		same(t, "code", code, impl.OK)
		isFilled(t, "some blobs", want, int(n))(impl.TakeBlobs(p.store(), wants, blobs))
	}
}

func TestBlobsForThoseWhoHaveOthers(t *testing.T) {
	tree, root := mapBlobs(countedMap(9))
	list, key := listBlobs(countedChunks(5)...)
	top := folderOf(root, key, impl.Key{1})
	all := tree.and(list).and(plainOf(top))
	from := all.and(otherBlobs())
	above := plainBlobKey(top)
	for _, try := range []struct {
		name         string
		roots, haves []impl.Key
		want         plainStore
	}{
		{"no roots", nil, nil, plainStore{}},
		{"no roots, but haves", nil, []impl.Key{above}, plainStore{}},
		{"no haves", []impl.Key{above}, nil, all},
		{"haves that reach all", []impl.Key{above}, []impl.Key{above}, plainStore{}},
		{"haves that reach more", []impl.Key{root}, []impl.Key{above}, plainStore{}},
		{"haves that reach some", []impl.Key{above}, []impl.Key{root}, list.and(plainOf(top))},
		{"haves that reach others", []impl.Key{above}, []impl.Key{key, {1}, {2}}, tree.and(plainOf(top))},
		{"haves that reach all below", []impl.Key{above}, []impl.Key{key, root, key}, plainOf(top)},
		{"haves that reach nothing of it", []impl.Key{root}, []impl.Key{key}, tree},
		{"haves that are not there", []impl.Key{above}, []impl.Key{{1}, {7}, {}}, all},
		{"roots that are not there", []impl.Key{{1}, {7}, {}}, nil, plainStore{}},
		{"roots that are there and not", []impl.Key{{1}, key, {}, key}, []impl.Key{{1}}, list},
		{"haves that reach all but the top of a map", []impl.Key{root}, plainLinks(tree[root]), tree.only(root)},
	} {
		areBlobs(t, try.name, try.want.store().Blobs...)(impl.BlobsFor(from.store(), try.roots, try.haves))
	}
	most := slices.Repeat([]impl.Key{root}, impl.MaxKeys)
	areBlobs(t, "MaxKeys roots", tree.store().Blobs...)(impl.BlobsFor(from.store(), most, nil))
	areBlobs(t, "MaxKeys haves")(impl.BlobsFor(from.store(), []impl.Key{root}, most))
	isNone[impl.Blob](t, "one root more", impl.ErrLimit)(impl.BlobsFor(from.store(), append(most, root), nil))
	isNone[impl.Blob](t, "one have more", impl.ErrLimit)(impl.BlobsFor(from.store(), nil, append(most, root)))
}

// TestBlobsBelowGapsAreHad shows that what is reachable is told by the store that gives the blobs: what cannot be reached
// there from the haves is given.
func TestBlobsBelowGapsAreHad(t *testing.T) {
	low := chunkBlob("low")
	mid, side := folderOf(plainBlobKey(low)), commitOf("side", plainBlobKey(low))
	top := folderOf(plainBlobKey(mid))
	from := plainOf(low, top, side)
	areBlobs(t, "a gap above what is had", plainOf(side, low).store().Blobs...)(impl.BlobsFor(from.store(), []impl.Key{plainBlobKey(side)}, []impl.Key{plainBlobKey(top)}))
	areBlobs(t, "no gap", side)(impl.BlobsFor(from.and(plainOf(mid)).store(), []impl.Key{plainBlobKey(side)}, []impl.Key{plainBlobKey(top)}))
}

func TestBlobsForSomeStores(t *testing.T) {
	r := chance(806)
	for range 60 {
		p, keys := someStore(r)
		for range 4 {
			var lists [2][]impl.Key
			for i := range lists {
				for range r.IntN(5) {
					lists[i] = append(lists[i], keys[r.IntN(len(keys))])
				}
			}
			areBlobs(t, "some keys", p.blobsFor(lists[0], lists[1])...)(impl.BlobsFor(p.store(), lists[0], lists[1]))
		}
	}
}
