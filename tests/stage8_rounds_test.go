package tests

import (
	"runtime"
	"slices"
	"sync"
	"testing"

	"loop.example/g01174/impl"
)

// isFetched fails the test if FetchAll does not return a store, a trip and OK.
func isFetched(t *testing.T, name string, want plainStore, trip impl.Trip) func(impl.Store, impl.Trip, int64) {
	return func(got impl.Store, gone impl.Trip, code int64) {
		t.Helper()
		isStore(t, name, want.store())(got, code)
		same(t, name+": trip", gone, trip)
	}
}

// isNotFetched fails the test if FetchAll does not return an error and nothing else.
func isNotFetched(t *testing.T, name string, want int64) func(impl.Store, impl.Trip, int64) {
	return func(got impl.Store, gone impl.Trip, code int64) {
		t.Helper()
		isNoStore(t, name, want)(got, code)
		same(t, name+": trip", gone, impl.Trip{})
	}
}

// checkFetch checks FetchAll, and that rounds that end well end with all that is reachable. It returns the trip and the
// code.
func checkFetch(t *testing.T, name string, own, from plainStore, roots []impl.Key, most, budget, rounds int64) (impl.Trip, int64) {
	t.Helper()
	want, trip, code := own.fetch(from, roots, most, budget, rounds)
	if code != impl.OK {
		isNotFetched(t, name, code)(impl.FetchAll(own.store(), from.store(), roots, most, budget, rounds))
		return trip, code
	}
	got, gone, done := impl.FetchAll(own.store(), from.store(), roots, most, budget, rounds)
	isFetched(t, name, want, trip)(got, gone, done)
	fetched := plainOf(got.Blobs...)
	_, missing := fetched.reached(roots)
	same(t, name+": what is missing", len(missing), 0)
	reached, _ := own.and(from).reached(roots)
	sameList(t, name+": what has been added", fetched.without(own.keys()...).keys(), from.only(reached...).without(own.keys()...).keys())
	return trip, code
}

// whole is a store with all that is reachable from some roots.
type whole struct {
	name  string
	store plainStore
	roots []impl.Key
}

// wholes returns stores with maps, lists, folders and commits.
func wholes() []whole {
	tree, root := mapBlobs(countedMap(20))
	list, key := listBlobs(countedChunks(13)...)
	none, empty := listBlobs()
	folder := folderOf(key, root, empty, root)
	first := commitOf("first", root)
	second := commitOf("second", plainBlobKey(folder), plainBlobKey(first))
	third := commitOf("third", key, plainBlobKey(first), plainBlobKey(second))
	all := tree.and(list).and(none).and(plainOf(folder, first, second, third))
	return []whole{
		{"a map", tree, []impl.Key{root}},
		{"a list", list, []impl.Key{key}},
		{"the empty list", none, []impl.Key{empty}},
		{"a folder", tree.and(list).and(none).and(plainOf(folder)), []impl.Key{plainBlobKey(folder)}},
		{"a commit", tree.and(plainOf(first)), []impl.Key{plainBlobKey(first)}},
		{"commits", all, []impl.Key{plainBlobKey(third)}},
		{"several roots", tree.and(list), []impl.Key{root, key, root}},
		{"roots below each other", all, append([]impl.Key{plainBlobKey(third), root}, all.keys()[:5]...)},
	}
}

// copies returns stores that have none, some and all of the blobs of another one.
func (w whole) copies() map[string]plainStore {
	keys := w.store.keys()
	var odd []impl.Key
	for i, k := range keys {
		if i%2 == 0 {
			odd = append(odd, k)
		}
	}
	return map[string]plainStore{
		"none":                  {},
		"none, but others":      otherBlobs(),
		"all":                   w.store,
		"all, and others":       w.store.and(otherBlobs()),
		"some":                  w.store.only(odd...),
		"the others":            w.store.without(odd...).and(countedBlobs(0, 9)),
		"one":                   w.store.only(keys[0]),
		"all but one":           w.store.without(keys[len(keys)/2]),
		"all but the roots":     w.store.without(w.roots...),
		"the roots alone":       w.store.only(w.roots...),
		"all but what is first": w.store.without(keys[0]),
	}
}

func TestRoundsEndWithAllThatIsReachable(t *testing.T) {
	for _, w := range wholes() {
		for title, own := range w.copies() {
			name := w.name + ", " + title
			for _, most := range []int64{1, 2, 5, impl.MaxKeys} {
				for _, budget := range []int64{0, 63, 64, 65, 200, 500, 5000, impl.MaxBudget} {
					checkFetch(t, name, own, w.store.and(otherBlobs()), w.roots, most, budget, impl.MaxRounds)
				}
			}
			trip, code := checkFetch(t, name, own, w.store, w.roots, impl.MaxKeys, impl.MaxBudget, impl.MaxRounds)
			same(t, name+": code", code, impl.OK)
			same(t, name+": blobs", trip.Blobs, int64(len(w.store.without(own.keys()...))))
			same(t, name+": bytes", trip.Bytes, bytesIn(w.store.without(own.keys()...).store().Blobs))
		}
	}
}

func TestRoundsAreCounted(t *testing.T) {
	for _, w := range wholes() {
		for title, own := range w.copies() {
			for _, most := range []int64{1, 3, impl.MaxKeys} {
				name := numbered(w.name+", "+title, int(most))
				trip, code := checkFetch(t, name, own, w.store, w.roots, most, 1000, impl.MaxRounds)
				same(t, name+": code", code, impl.OK)
				_, code = checkFetch(t, name+", just as many", own, w.store, w.roots, most, 1000, trip.Rounds)
				same(t, name+", just as many: code", code, impl.OK)
				for _, rounds := range []int64{0, 1, trip.Rounds - 1} {
					if rounds >= 0 && rounds < trip.Rounds {
						isNotFetched(t, name+", fewer", impl.ErrBudget)(impl.FetchAll(own.store(), w.store.store(), w.roots, most, 1000, rounds))
					}
				}
				for _, rounds := range append(farNumbers(), impl.MaxRounds+1) {
					isNotFetched(t, name+", too many", impl.ErrRange)(impl.FetchAll(own.store(), w.store.store(), w.roots, most, 1000, rounds))
				}
			}
		}
	}
}

func TestRoundsThatAreNotNeeded(t *testing.T) {
	for _, w := range wholes() {
		for _, from := range []plainStore{{}, w.store, otherBlobs()} {
			for _, rounds := range []int64{0, 1, impl.MaxRounds} {
				isFetched(t, w.name, w.store, impl.Trip{})(impl.FetchAll(w.store.store(), from.store(), w.roots, 1, 0, rounds))
				isFetched(t, w.name+", no roots", otherBlobs(), impl.Trip{})(impl.FetchAll(otherBlobs().store(), from.store(), nil, 1, 0, rounds))
			}
		}
	}
}

func TestRoundsWithBudgets(t *testing.T) {
	from, keys := sizedBlobs(5, 5, 5, 5, 5, 5)
	for _, try := range []struct {
		most, budget, rounds int64
	}{
		{1, 5, 6}, {1, 9, 6}, {1, 30, 6}, {2, 5, 6}, {2, 9, 6}, {2, 10, 3}, {6, 5, 6}, {6, 10, 3}, {6, 14, 3}, {6, 15, 2}, {4, 20, 2}, {5, 25, 2},
		{6, 24, 2}, {6, 29, 2}, {6, 30, 1}, {impl.MaxKeys, impl.MaxBudget, 1}, {5, impl.MaxBudget, 2}, {impl.MaxKeys, 30, 1},
	} {
		name := numbered("budget", int(try.most), int(try.budget))
		isFetched(t, name, from, impl.Trip{Rounds: try.rounds, Blobs: 6, Bytes: 30})(impl.FetchAll(impl.Store{}, from.store(), keys, try.most, try.budget, try.rounds))
		isNotFetched(t, name+", one round less", impl.ErrBudget)(impl.FetchAll(impl.Store{}, from.store(), keys, try.most, try.budget, try.rounds-1))
	}
	for _, budget := range []int64{0, 1, 4} {
		isNotFetched(t, "too few bytes for any blob", impl.ErrNotFound)(impl.FetchAll(impl.Store{}, from.store(), keys, 6, budget, impl.MaxRounds))
		isNotFetched(t, "too few bytes for any blob, one round", impl.ErrNotFound)(impl.FetchAll(impl.Store{}, from.store(), keys, 6, budget, 1))
		isNotFetched(t, "too few bytes for any blob, no round", impl.ErrBudget)(impl.FetchAll(impl.Store{}, from.store(), keys, 6, budget, 0))
	}
	for _, budget := range append(farNumbers(), impl.MaxBudget+1) {
		isNotFetched(t, "no budget", impl.ErrRange)(impl.FetchAll(impl.Store{}, from.store(), keys, 6, budget, 6))
	}
	for _, most := range append(farNumbers(), 0, impl.MaxKeys+1) {
		isNotFetched(t, "no most", impl.ErrRange)(impl.FetchAll(impl.Store{}, from.store(), keys, most, 30, 6))
	}
	light, some := sizedBlobs(0, 0, 0)
	isFetched(t, "no bytes", light, impl.Trip{Rounds: 1, Blobs: 3})(impl.FetchAll(impl.Store{}, light.store(), some, 3, 0, 1))
	isFetched(t, "no bytes, one by one", light, impl.Trip{Rounds: 3, Blobs: 3})(impl.FetchAll(impl.Store{}, light.store(), some, 1, 0, 3))
}

// folderChain returns n folders, each but the first one having the one before it, and the key of the last one.
func folderChain(n int) (plainStore, impl.Key) {
	p := plainStore{}
	last := folderOf()
	p[plainBlobKey(last)] = last
	for range n - 1 {
		last = folderOf(plainBlobKey(last))
		p[plainBlobKey(last)] = last
	}
	return p, plainBlobKey(last)
}

func TestRoundsHaveALimit(t *testing.T) {
	for _, n := range []int{1, 2, 5, 63, 64} {
		p, top := folderChain(n)
		trip := impl.Trip{Rounds: int64(n), Blobs: int64(n), Bytes: int64(32 * (n - 1))}
		isFetched(t, numbered("chain", n), p, trip)(impl.FetchAll(impl.Store{}, p.store(), []impl.Key{top}, impl.MaxKeys, 32, int64(n)))
		isFetched(t, numbered("chain, MaxRounds", n), p, trip)(impl.FetchAll(impl.Store{}, p.store(), []impl.Key{top}, 1, 32, impl.MaxRounds))
		isNotFetched(t, numbered("chain, one round less", n), impl.ErrBudget)(impl.FetchAll(impl.Store{}, p.store(), []impl.Key{top}, 1, impl.MaxBudget, int64(n-1)))
	}
	for _, n := range []int{65, 66, 128} {
		p, top := folderChain(n)
		isNotFetched(t, numbered("chain", n), impl.ErrBudget)(impl.FetchAll(impl.Store{}, p.store(), []impl.Key{top}, impl.MaxKeys, impl.MaxBudget, impl.MaxRounds))
		below, _ := folderChain(n - 64)
		trip := impl.Trip{Rounds: 64, Blobs: 64, Bytes: 64 * 32}
		isFetched(t, numbered("chain, its end being there", n), p, trip)(impl.FetchAll(below.store(), p.store(), []impl.Key{top}, impl.MaxKeys, impl.MaxBudget, impl.MaxRounds))
	}
}

func TestRoundsWithAStoreThatLacksSomething(t *testing.T) {
	for _, w := range wholes() {
		for title, own := range w.copies() {
			for i, k := range w.store.keys() {
				name := numbered(w.name+", "+title, i)
				from := w.store.without(k)
				_, code := checkFetch(t, name, own, from, w.roots, impl.MaxKeys, impl.MaxBudget, impl.MaxRounds)
				want := int64(impl.ErrNotFound)
				if _, there := own[k]; there {
					want = impl.OK
				}
				same(t, name+": code", code, want)
				if i%5 == 0 {
					checkFetch(t, name+", one by one", own, from, w.roots, 1, impl.MaxBudget, impl.MaxRounds)
					checkFetch(t, name+", two rounds", own, from, w.roots, impl.MaxKeys, impl.MaxBudget, 2)
				}
			}
		}
		isNotFetched(t, w.name+", no store", impl.ErrNotFound)(impl.FetchAll(impl.Store{}, impl.Store{}, w.roots, 8, 1000, 8))
		isNotFetched(t, w.name+", other blobs", impl.ErrNotFound)(impl.FetchAll(impl.Store{}, countedBlobs(0, 9).store(), w.roots, 8, 1000, 8))
	}
}

// TestRoundsEndWithWhatComesFirst shows that of several errors the one is told that is met first.
func TestRoundsEndWithWhatComesFirst(t *testing.T) {
	p := countedBlobs(0, 2)
	keys := p.keys()
	high, low := p.only(keys[1]).store(), p.only(keys[0]).store()
	isNotFetched(t, "the first key is not there, one by one", impl.ErrNotFound)(impl.FetchAll(impl.Store{}, high, keys, 1, 100, 8))
	isNotFetched(t, "the first key is not there, one round", impl.ErrNotFound)(impl.FetchAll(impl.Store{}, high, keys, 1, 100, 1))
	isNotFetched(t, "the second key is not there, one by one", impl.ErrNotFound)(impl.FetchAll(impl.Store{}, low, keys, 1, 100, 2))
	isNotFetched(t, "the second key is not there, one round", impl.ErrBudget)(impl.FetchAll(impl.Store{}, low, keys, 1, 100, 1))
	isNotFetched(t, "the first key is not there, both asked for", impl.ErrBudget)(impl.FetchAll(impl.Store{}, high, keys, 2, 100, 1))
	isNotFetched(t, "the first key is not there, two rounds", impl.ErrNotFound)(impl.FetchAll(impl.Store{}, high, keys, 2, 100, 2))
	isNotFetched(t, "no round", impl.ErrBudget)(impl.FetchAll(impl.Store{}, impl.Store{}, keys, 2, 100, 0))
	full := countedBlobs(500, impl.MaxBlobs).store()
	isNotFetched(t, "no room", impl.ErrLimit)(impl.FetchAll(full, p.store(), keys, 2, 100, 8))
	isNotFetched(t, "no room, but nothing comes", impl.ErrNotFound)(impl.FetchAll(full, impl.Store{}, keys, 2, 100, 8))
	isNotFetched(t, "no room, but no round", impl.ErrBudget)(impl.FetchAll(full, p.store(), keys, 2, 100, 0))
	nearly := countedBlobs(500, impl.MaxBlobs-1).store()
	isNotFetched(t, "room for one", impl.ErrLimit)(impl.FetchAll(nearly, p.store(), keys, 2, 100, 8))
	isNotFetched(t, "room for one, one by one", impl.ErrLimit)(impl.FetchAll(nearly, p.store(), keys, 1, 100, 8))
	isNotFetched(t, "room for one, one round", impl.ErrBudget)(impl.FetchAll(nearly, p.store(), keys, 1, 100, 1))
	isNotFetched(t, "room for one, only one comes", impl.ErrNotFound)(impl.FetchAll(nearly, low, keys, 2, 100, 8))
}

func TestRoundsIntoStoresWithLittleRoom(t *testing.T) {
	for _, w := range wholes() {
		n := len(w.store)
		for _, most := range []int64{1, 7, impl.MaxKeys} {
			name := numbered(w.name, int(most))
			room := countedBlobs(0, impl.MaxBlobs-n)
			_, code := checkFetch(t, name+", just enough", room, w.store, w.roots, most, impl.MaxBudget, impl.MaxRounds)
			same(t, name+": code", code, impl.OK)
			less := countedBlobs(0, impl.MaxBlobs-n+1)
			isNotFetched(t, name+", one less", impl.ErrLimit)(impl.FetchAll(less.store(), w.store.store(), w.roots, most, impl.MaxBudget, impl.MaxRounds))
			full := countedBlobs(0, impl.MaxBlobs)
			isNotFetched(t, name+", no room", impl.ErrLimit)(impl.FetchAll(full.store(), w.store.store(), w.roots, most, impl.MaxBudget, impl.MaxRounds))
			whole := room.and(w.store)
			isFetched(t, name+", no room, but all there", whole, impl.Trip{})(impl.FetchAll(whole.store(), w.store.store(), w.roots, most, impl.MaxBudget, impl.MaxRounds))
		}
	}
}

func TestRoundsWithManyRoots(t *testing.T) {
	full := countedBlobs(0, impl.MaxBlobs)
	roots := slices.Concat(full.keys(), full.keys())
	trip := impl.Trip{Rounds: 1, Blobs: impl.MaxBlobs, Bytes: bytesIn(full.store().Blobs)}
	isFetched(t, "MaxKeys roots", full, trip)(impl.FetchAll(impl.Store{}, full.store(), roots, impl.MaxKeys, impl.MaxBudget, 1))
	trip.Rounds = 2
	isFetched(t, "half of them", full, trip)(impl.FetchAll(impl.Store{}, full.store(), roots, 64, impl.MaxBudget, 2))
	isNotFetched(t, "half of them, and one less", impl.ErrBudget)(impl.FetchAll(impl.Store{}, full.store(), roots, 63, impl.MaxBudget, 2))
	isNotFetched(t, "one more", impl.ErrLimit)(impl.FetchAll(impl.Store{}, full.store(), append(roots, roots[0]), impl.MaxKeys, impl.MaxBudget, 1))
	empty := []impl.Key{plainEmpty()}
	isNotFetched(t, "the empty map, whose blob nobody has", impl.ErrNotFound)(impl.FetchAll(impl.Store{}, full.store(), empty, 1, 0, 1))
	isFetched(t, "a blob with the key of the empty map", plainOf(blobOf(5)), impl.Trip{Rounds: 1, Blobs: 1})(impl.FetchAll(impl.Store{}, plainOf(blobOf(5)).store(), empty, 1, 0, 1))
}

func TestRoundsWithSomeStores(t *testing.T) {
	r := chance(811)
	for range 60 {
		own, from, keys := someCopy(r)
		for range 6 {
			roots := []impl.Key{keys[r.IntN(len(keys))], keys[r.IntN(len(keys))]}
			checkFetch(t, "some stores", own, from, roots, 1+int64(r.IntN(6)), int64(r.IntN(400)), int64(r.IntN(20)))
			checkFetch(t, "some stores, all at once", own, from, roots, impl.MaxKeys, impl.MaxBudget, impl.MaxRounds)
		}
	}
}

// TestRoundsOfManyAtOnce shows that callers may share their arguments; the race detector sees whether a call writes there.
func TestRoundsOfManyAtOnce(t *testing.T) {
	for _, w := range wholes() {
		own, from := w.store.without(w.roots...).only(w.store.keys()[:len(w.store)/2]...), w.store
		want, trip, code := own.fetch(from, w.roots, 2, 1000, impl.MaxRounds)
		same(t, w.name+": code", code, impl.OK)
		s, other := own.store(), from.store()
		var callers sync.WaitGroup
		for range 8 {
			callers.Go(func() {
				isFetched(t, w.name, want, trip)(impl.FetchAll(s, other, w.roots, 2, 1000, impl.MaxRounds))
				isFetched(t, w.name+", into itself", from, impl.Trip{})(impl.FetchAll(other, other, w.roots, 2, 1000, 0))
			})
		}
		callers.Wait()
	}
}

// TestRoundsLeaveNothingBehind shows that what answers has ended when FetchAll returns, however it does.
func TestRoundsLeaveNothingBehind(t *testing.T) {
	p, keys := sizedBlobs(5, 5, 5)
	before := runtime.NumGoroutine()
	for range 300 {
		isFetched(t, "three rounds", p, impl.Trip{Rounds: 3, Blobs: 3, Bytes: 15})(impl.FetchAll(impl.Store{}, p.store(), keys, 1, 5, 3))
		isFetched(t, "no rounds", p, impl.Trip{})(impl.FetchAll(p.store(), p.store(), keys, 1, 5, 3))
		isNotFetched(t, "no rounds left", impl.ErrBudget)(impl.FetchAll(impl.Store{}, p.store(), keys, 1, 5, 2))
		isNotFetched(t, "nothing comes", impl.ErrNotFound)(impl.FetchAll(impl.Store{}, p.store(), keys, 1, 4, 3))
		isNotFetched(t, "no room", impl.ErrLimit)(impl.FetchAll(fullStore(), p.store(), keys, 1, 5, 3))
	}
	for range 1000 { // one that has just told that it ends may still be counted
		if runtime.NumGoroutine() <= before {
			return
		}
		runtime.Gosched()
	}
	if more := runtime.NumGoroutine() - before; more > 20 {
		t.Errorf("%d goroutines are left", more)
	}
}
