package tests

import (
	"bytes"
	"slices"
	"testing"

	"loop.example/g01174/impl"
)

// putBlob returns the store with a blob.
func putBlob(t *testing.T, s impl.Store, b impl.Blob) impl.Store {
	t.Helper()
	put, k, code := impl.PutBlob(s, b)
	same(t, "code of PutBlob", code, impl.OK)
	same(t, "key of PutBlob", k, plainBlobKey(b))
	same(t, "ValidStore behind PutBlob", impl.ValidStore(put), true)
	return put
}

// storesTried returns the blobs of stores of several kinds and sizes.
func storesTried(seed uint64) []plainStore {
	r := chance(seed)
	tried := []plainStore{
		{},
		plainOf(blobOf(0)),
		plainOf(blobOf(5)),
		plainOf(blobOf(0), blobOf(1), blobOf(2), blobOf(3), blobOf(255)),
		plainOf(blobOf(9, make([]byte, impl.MaxBlobData)), blobOf(9, make([]byte, impl.MaxBlobData-1)), blobOf(8, make([]byte, impl.MaxBlobData))),
		countedBlobs(0, 1),
		countedBlobs(0, impl.MaxBlobs-1),
		countedBlobs(0, impl.MaxBlobs),
	}
	for range 12 {
		p, _ := someStore(r)
		tried = append(tried, p)
	}
	return tried
}

func TestStoresAreValid(t *testing.T) {
	for i, p := range storesTried(511) {
		same(t, numbered("valid store", i), impl.ValidStore(p.store()), true)
	}
	for i, s := range wrongStores() {
		same(t, numbered("wrong store", i), impl.ValidStore(s), false)
	}
	same(t, "nil", impl.ValidStore(impl.Store{}), true)
	same(t, "no blobs", impl.ValidStore(impl.Store{Blobs: []impl.Blob{}}), true)
}

func TestStoresAreValidInOneOrderOnly(t *testing.T) {
	s := countedBlobs(0, 6).store()
	for i := range s.Blobs {
		for j := range i {
			turned := impl.Store{Blobs: slices.Clone(s.Blobs)}
			turned.Blobs[i], turned.Blobs[j] = turned.Blobs[j], turned.Blobs[i]
			same(t, numbered("exchanged", i, j), impl.ValidStore(turned), false)
			same(t, numbered("SameStore", i, j), impl.SameStore(s, turned), false)
			twice := impl.Store{Blobs: with(s.Blobs, i, s.Blobs[j])}
			same(t, numbered("twice", i, j), impl.ValidStore(twice), false)
		}
		same(t, numbered("less", i), impl.ValidStore(impl.Store{Blobs: without(s.Blobs, i)}), true)
	}
}

func TestStoresAreCompared(t *testing.T) {
	var stores []impl.Store
	for _, p := range storesTried(512)[:8] {
		stores = append(stores, p.store())
	}
	stores = append(stores, wrongStores()[:9]...)
	for i, s := range stores {
		for j, other := range stores {
			same(t, numbered("SameStore", i, j), impl.SameStore(s, other), equalStores(s, other))
		}
		same(t, "one more", impl.SameStore(s, impl.Store{Blobs: append(slices.Clone(s.Blobs), blobOf(77))}), false)
	}
	same(t, "no blobs", impl.SameStore(impl.Store{}, impl.Store{Blobs: []impl.Blob{}}), true)
	for _, s := range wrongStores() {
		same(t, "wrong ones", impl.SameStore(s, s), true)
	}
}

func TestBlobsAreGot(t *testing.T) {
	for _, p := range storesTried(513) {
		s := p.store()
		isKeys(t, "KeysOfStore", p.keys())(impl.KeysOfStore(s))
		total := 0
		for k, b := range p {
			isBlob(t, "GetBlob", b)(impl.GetBlob(s, k))
			total += len(b.Data)
			other := flipped(k, 255)
			isNoBlob(t, "GetBlob of another key", impl.ErrNotFound)(impl.GetBlob(s, other))
			isNoStore(t, "DropBlob of another key", impl.ErrNotFound)(impl.DropBlob(s, other))
		}
		isNumber(t, "StoreBytes", int64(total))(impl.StoreBytes(s))
		isNoBlob(t, "GetBlob of no key", impl.ErrNotFound)(impl.GetBlob(s, impl.Key{}))
		isNoStore(t, "DropBlob of no key", impl.ErrNotFound)(impl.DropBlob(s, impl.Key{}))
	}
}

func TestBlobsAreDropped(t *testing.T) {
	for _, p := range storesTried(514) {
		s := p.store()
		for i, k := range p.keys() {
			if i%7 != 0 {
				continue
			}
			less := p.without(k).store()
			isStore(t, "DropBlob", less)(impl.DropBlob(s, k))
			isNoBlob(t, "GetBlob behind it", impl.ErrNotFound)(impl.GetBlob(less, k))
			isNoStore(t, "DropBlob behind it", impl.ErrNotFound)(impl.DropBlob(less, k))
			isPut(t, "PutBlob behind it", s, k)(impl.PutBlob(less, p[k]))
		}
	}
}

func TestBlobsArePutInAnyOrder(t *testing.T) {
	r := chance(515)
	for _, p := range storesTried(516) {
		want := p.store()
		for range 2 {
			var s impl.Store
			for _, i := range r.Perm(len(want.Blobs)) {
				s = putBlob(t, s, want.Blobs[i])
				s = putBlob(t, s, want.Blobs[i])
			}
			sameStore(t, "put in some order", s, want)
			same(t, "SameStore", impl.SameStore(s, want), true)
		}
	}
}

func TestBlobsThatAreThereArePutAgain(t *testing.T) {
	for _, p := range storesTried(517) {
		s := p.store()
		for k, b := range p {
			isPut(t, "again", s, k)(impl.PutBlob(s, b))
		}
	}
	isPut(t, "no bytes again", plainOf(blobOf(3)).store(), plainBlobKey(blobOf(3)))(impl.PutBlob(plainOf(blobOf(3)).store(), impl.Blob{Tag: 3, Data: []byte{}}))
}

func TestStoresHaveALimit(t *testing.T) {
	full := fullStore()
	for i, b := range full.Blobs {
		more := blobOf(b.Tag+1, b.Data)
		if i%16 == 0 {
			isPut(t, "one that is there", full, plainBlobKey(b))(impl.PutBlob(full, b))
			isNotPut(t, "one more", impl.ErrLimit)(impl.PutBlob(full, more))
		}
	}
	less := countedBlobs(1, impl.MaxBlobs-1)
	last := blobOf(9, []byte(numbered("blob", 0)))
	isPut(t, "the last one", full, plainBlobKey(last))(impl.PutBlob(less.store(), last))
}

func TestBlobsThatArePutHaveALimit(t *testing.T) {
	b := blobOf(9, bytes.Repeat([]byte("x"), impl.MaxBlobData))
	isPut(t, "MaxBlobData", plainOf(b).store(), plainBlobKey(b))(impl.PutBlob(impl.Store{}, b))
	none := blobOf(9)
	isPut(t, "no bytes", plainOf(b, none).store(), plainBlobKey(none))(impl.PutBlob(plainOf(b).store(), none))
	for _, wrong := range wrongBlobs() {
		for _, s := range []impl.Store{{}, plainOf(b).store(), fullStore()} {
			isNotPut(t, "a wrong blob", impl.ErrInvalid)(impl.PutBlob(s, wrong))
		}
	}
}

func TestStoresAreJoined(t *testing.T) {
	tried := storesTried(518)
	for _, p := range tried {
		for _, q := range tried {
			name := numbered("stores", len(p), len(q))
			isStore(t, "MinusStores of "+name, p.without(q.keys()...).store())(impl.MinusStores(p.store(), q.store()))
			both := p.and(q)
			if len(both) > impl.MaxBlobs {
				isNoStore(t, "JoinStores of "+name, impl.ErrLimit)(impl.JoinStores(p.store(), q.store()))
				continue
			}
			isStore(t, "JoinStores of "+name, both.store())(impl.JoinStores(p.store(), q.store()))
		}
	}
}

func TestJoinedStoresHaveALimit(t *testing.T) {
	for _, try := range []struct{ first, second plainStore }{
		{countedBlobs(0, 64), countedBlobs(64, 64)},
		{countedBlobs(0, 100), countedBlobs(28, 100)},
		{countedBlobs(0, 128), countedBlobs(0, 128)},
		{countedBlobs(0, 128), countedBlobs(127, 1)},
		{countedBlobs(0, 128), plainStore{}},
		{countedBlobs(0, 127), countedBlobs(127, 1)},
	} {
		isStore(t, "MaxBlobs", fullStore())(impl.JoinStores(try.first.store(), try.second.store()))
		isStore(t, "MaxBlobs, turned", fullStore())(impl.JoinStores(try.second.store(), try.first.store()))
		more := try.second.and(countedBlobs(128, 1))
		if len(more) > impl.MaxBlobs {
			continue
		}
		isNoStore(t, "one more", impl.ErrLimit)(impl.JoinStores(try.first.store(), more.store()))
		isNoStore(t, "one more, turned", impl.ErrLimit)(impl.JoinStores(more.store(), try.first.store()))
	}
}

func TestMinusStoresHasNoKeysOfTheOther(t *testing.T) {
	isStore(t, "itself", impl.Store{})(impl.MinusStores(fullStore(), fullStore()))
	isStore(t, "nothing", fullStore())(impl.MinusStores(fullStore(), impl.Store{}))
	isStore(t, "of nothing", impl.Store{})(impl.MinusStores(impl.Store{}, fullStore()))
	isStore(t, "some", countedBlobs(0, 28).store())(impl.MinusStores(countedBlobs(0, 100).store(), countedBlobs(28, 100).store()))
	isStore(t, "of one length", countedBlobs(0, 9).store())(impl.MinusStores(countedBlobs(0, 9).store(), countedBlobs(9, 9).store()))
}

func TestWrongStoresComeFirst(t *testing.T) {
	right, many := plainOf(chunkBlob("x")).store(), slices.Repeat([]impl.Key{{}}, impl.MaxKeys+1)
	lease := []impl.Lease{{Until: -1}}
	for i, s := range wrongStores() {
		name := numbered(" of the wrong store", i)
		isError(t, "KeysOfStore"+name, impl.ErrInvalid)(impl.KeysOfStore(s))
		isNoBlob(t, "GetBlob"+name, impl.ErrInvalid)(impl.GetBlob(s, plainBlobKey(blobOf(0))))
		isNotPut(t, "PutBlob"+name, impl.ErrInvalid)(impl.PutBlob(s, chunkBlob("x")))
		isNoStore(t, "DropBlob"+name, impl.ErrInvalid)(impl.DropBlob(s, plainBlobKey(blobOf(0))))
		isNoStore(t, "JoinStores"+name, impl.ErrInvalid)(impl.JoinStores(s, right))
		isNoStore(t, "JoinStores with the right one"+name, impl.ErrInvalid)(impl.JoinStores(right, s))
		isNoStore(t, "JoinStores with the full one"+name, impl.ErrInvalid)(impl.JoinStores(fullStore(), s))
		isNoStore(t, "MinusStores"+name, impl.ErrInvalid)(impl.MinusStores(s, right))
		isNoStore(t, "MinusStores of the right one"+name, impl.ErrInvalid)(impl.MinusStores(right, s))
		isCode[int64](t, "StoreBytes"+name, impl.ErrInvalid)(impl.StoreBytes(s))
		isNotPut(t, "StoreMap"+name, impl.ErrInvalid)(impl.StoreMap(s, nil))
		isNotLoaded[impl.Entry](t, "LoadMap"+name, impl.Key{}, impl.ErrInvalid)(impl.LoadMap(s, impl.EmptyMapKey()))
		isNotLoaded[impl.Entry](t, "LoadMap of no key"+name, impl.Key{}, impl.ErrInvalid)(impl.LoadMap(s, impl.Key{1}))
		isNotPut(t, "StoreList"+name, impl.ErrInvalid)(impl.StoreList(s, nil))
		for _, n := range []int64{-1, 0, 1, impl.MaxLeaves, impl.MaxLeaves + 1} {
			isNotLoaded[[]byte](t, "LoadList"+name, impl.Key{}, impl.ErrInvalid)(impl.LoadList(s, impl.Key{1}, n))
		}
		isNotPut(t, "PutFolder"+name, impl.ErrInvalid)(impl.PutFolder(s, nil))
		isNotPut(t, "PutFolder of many keys"+name, impl.ErrInvalid)(impl.PutFolder(s, many))
		isNone[int64](t, "LinkCounts"+name, impl.ErrInvalid)(impl.LinkCounts(s))
		isError(t, "RootsOf"+name, impl.ErrInvalid)(impl.RootsOf(s))
		isError(t, "LinkPath"+name, impl.ErrInvalid)(impl.LinkPath(s, impl.Key{}, impl.Key{}))
		for _, roots := range [][]impl.Key{nil, many} {
			isError(t, "ReachableFrom"+name, impl.ErrInvalid)(impl.ReachableFrom(s, roots))
			isError(t, "MissingFrom"+name, impl.ErrInvalid)(impl.MissingFrom(s, roots))
			for _, leases := range [][]impl.Lease{nil, lease, slices.Repeat(lease, 40), make([]impl.Lease, 40)} {
				for _, now := range []int64{-1, 0, impl.MaxTime + 1} {
					isNoStore(t, "Collect"+name, impl.ErrInvalid)(impl.Collect(s, roots, leases, now))
					isError(t, "DeadIn"+name, impl.ErrInvalid)(impl.DeadIn(s, roots, leases, now))
				}
			}
		}
	}
}
