package tests

import (
	"math/rand/v2"
	"slices"
	"testing"

	"loop.example/g01174/impl"
)

// checkCollected checks what Collect leaves and what DeadIn tells.
func checkCollected(t *testing.T, name string, p plainStore, roots []impl.Key, leases []impl.Lease, now int64) {
	t.Helper()
	all := slices.Clone(roots)
	for _, lease := range leases {
		if lease.Until >= now {
			all = append(all, lease.Key)
		}
	}
	needed, _ := p.reached(all)
	dead := p.without(needed...)
	left := p.without(dead.keys()...).store()
	isStore(t, name, left)(impl.Collect(p.store(), roots, leases, now))
	isKeys(t, name+": what is dead", dead.keys())(impl.DeadIn(p.store(), roots, leases, now))
	isStore(t, name+": again", left)(impl.Collect(left, roots, leases, now))
	isKeys(t, name+": what is dead then", nil)(impl.DeadIn(left, roots, leases, now))
}

// someLeases returns n leases of some keys.
func someLeases(r *rand.Rand, keys []impl.Key, n int) []impl.Lease {
	times := []int64{0, 1, 5, 6, 7, impl.MaxTime - 1, impl.MaxTime}
	var leases []impl.Lease
	for range n {
		leases = append(leases, impl.Lease{Key: keys[r.IntN(len(keys))], Until: times[r.IntN(len(times))]})
	}
	return leases
}

func TestWhatIsReachableIsNotCollected(t *testing.T) {
	r := chance(551)
	for range 150 {
		p, keys := someStore(r)
		for _, now := range []int64{0, 1, 6, impl.MaxTime} {
			roots := []impl.Key{keys[r.IntN(len(keys))], keys[r.IntN(len(keys))]}
			checkCollected(t, "nothing", p, nil, nil, now)
			checkCollected(t, "roots", p, roots, nil, now)
			checkCollected(t, "one root twice", p, []impl.Key{roots[0], roots[0]}, nil, now)
			checkCollected(t, "leases", p, nil, someLeases(r, keys, 1+r.IntN(4)), now)
			checkCollected(t, "both", p, roots, someLeases(r, keys, 1+r.IntN(impl.MaxLeases)), now)
		}
	}
}

func TestWithoutRootsAllIsDead(t *testing.T) {
	for _, p := range storesTried(552) {
		isStore(t, "Collect", impl.Store{})(impl.Collect(p.store(), nil, nil, 0))
		isKeys(t, "DeadIn", p.keys())(impl.DeadIn(p.store(), nil, nil, 0))
		isStore(t, "Collect with all keys", p.store())(impl.Collect(p.store(), p.keys(), nil, 0))
		isKeys(t, "DeadIn with all keys", nil)(impl.DeadIn(p.store(), p.keys(), nil, 0))
		isStore(t, "Collect with other keys", impl.Store{})(impl.Collect(p.store(), []impl.Key{{}, {1}}, []impl.Lease{{Key: impl.Key{2}, Until: 9}}, 0))
	}
}

func TestLeasesEnd(t *testing.T) {
	x := plainBlobKey(chunkBlob("x"))
	folder := folderOf(x)
	p := plainOf(chunkBlob("x"), chunkBlob("y"), folder)
	kept := plainOf(chunkBlob("x"), folder)
	for _, times := range [][2]int64{{0, 0}, {1, 0}, {5, 5}, {6, 5}, {impl.MaxTime, impl.MaxTime}, {impl.MaxTime, 0}, {impl.MaxTime, impl.MaxTime - 1}} {
		lease := []impl.Lease{{Key: plainBlobKey(folder), Until: times[0]}}
		isStore(t, "a lease that has not ended", kept.store())(impl.Collect(p.store(), nil, lease, times[1]))
		isKeys(t, "what is dead", []impl.Key{plainBlobKey(chunkBlob("y"))})(impl.DeadIn(p.store(), nil, lease, times[1]))
	}
	for _, times := range [][2]int64{{0, 1}, {4, 5}, {0, impl.MaxTime}, {impl.MaxTime - 1, impl.MaxTime}} {
		lease := []impl.Lease{{Key: plainBlobKey(folder), Until: times[0]}}
		isStore(t, "a lease that has ended", impl.Store{})(impl.Collect(p.store(), nil, lease, times[1]))
		isKeys(t, "all is dead", p.keys())(impl.DeadIn(p.store(), nil, lease, times[1]))
	}
}

func TestTheLastLeaseOfAKeyKeepsIt(t *testing.T) {
	r := chance(553)
	x, y := plainBlobKey(chunkBlob("x")), plainBlobKey(chunkBlob("y"))
	p := plainOf(chunkBlob("x"), chunkBlob("y"))
	leases := []impl.Lease{{Key: x, Until: 9}, {Key: x, Until: 3}, {Key: y, Until: 3}, {Key: y, Until: 2}, {Key: impl.Key{}, Until: 5}}
	for range 30 {
		r.Shuffle(len(leases), func(i, j int) { leases[i], leases[j] = leases[j], leases[i] })
		for now := range int64(12) {
			checkCollected(t, numbered("now", int(now)), p, nil, leases, now)
		}
	}
}

func TestManyLeasesEndOneByOne(t *testing.T) {
	r := chance(554)
	p := countedBlobs(0, impl.MaxLeases)
	for range 20 {
		var leases []impl.Lease
		for i, n := range r.Perm(impl.MaxLeases) {
			leases = append(leases, impl.Lease{Key: p.keys()[i], Until: int64(n)})
		}
		for now := range int64(impl.MaxLeases + 1) {
			checkCollected(t, numbered("leases at", int(now)), p, nil, leases, now)
		}
	}
}

func TestLeasesHaveALimit(t *testing.T) {
	p := otherBlobs()
	root := p.keys()[0]
	full := slices.Repeat([]impl.Lease{{Key: root, Until: 5}}, impl.MaxLeases)
	checkCollected(t, "MaxLeases", p, nil, full, 5)
	checkCollected(t, "MaxLeases that have ended", p, nil, full, 6)
	checkCollected(t, "MaxKeys", p, slices.Repeat(p.keys()[:1], impl.MaxKeys), full, 6)
	more := append(slices.Clone(full), full[0])
	many := make([]impl.Key, impl.MaxKeys+1)
	for i, try := range []struct {
		roots  []impl.Key
		leases []impl.Lease
	}{{nil, more}, {many, nil}, {many, more}, {many, full}, {nil, slices.Repeat(full, 1000)}, {make([]impl.Key, 20000), nil}} {
		for _, now := range []int64{0, impl.MaxTime, -1, impl.MaxTime + 1} {
			isNoStore(t, numbered("Collect", i), impl.ErrLimit)(impl.Collect(p.store(), try.roots, try.leases, now))
			isError(t, numbered("DeadIn", i), impl.ErrLimit)(impl.DeadIn(p.store(), try.roots, try.leases, now))
		}
	}
}

func TestLeasesHaveATime(t *testing.T) {
	p := otherBlobs()
	for _, until := range append(farNumbers()[:5], impl.MaxTime+1, 1<<62) {
		wrong := impl.Lease{Key: p.keys()[0], Until: until}
		for _, leases := range [][]impl.Lease{
			{wrong},
			{{Until: 1}, wrong},
			{wrong, {Until: 1}},
			append(make([]impl.Lease, impl.MaxLeases), wrong),
			append(make([]impl.Lease, 1000), wrong),
		} {
			for _, roots := range [][]impl.Key{nil, p.keys(), make([]impl.Key, impl.MaxKeys+1)} {
				for _, now := range []int64{0, -1, impl.MaxTime + 1} {
					isNoStore(t, "Collect", impl.ErrInvalid)(impl.Collect(p.store(), roots, leases, now))
					isError(t, "DeadIn", impl.ErrInvalid)(impl.DeadIn(p.store(), roots, leases, now))
				}
			}
		}
	}
	for _, until := range []int64{0, 1, impl.MaxTime - 1, impl.MaxTime} {
		checkCollected(t, "a time", p, nil, []impl.Lease{{Key: p.keys()[0], Until: until}}, 1)
	}
}

func TestNowHasALimit(t *testing.T) {
	p := otherBlobs()
	lease := []impl.Lease{{Key: p.keys()[0], Until: impl.MaxTime}}
	for _, now := range append(farNumbers()[:6], impl.MaxTime+1, 1<<62) {
		for _, leases := range [][]impl.Lease{nil, lease} {
			isNoStore(t, "Collect", impl.ErrRange)(impl.Collect(p.store(), p.keys(), leases, now))
			isError(t, "DeadIn", impl.ErrRange)(impl.DeadIn(p.store(), p.keys(), leases, now))
			isNoStore(t, "Collect of no blobs", impl.ErrRange)(impl.Collect(impl.Store{}, nil, leases, now))
		}
	}
	for _, now := range []int64{0, 1, impl.MaxTime - 1, impl.MaxTime} {
		checkCollected(t, "a time", p, nil, lease, now)
	}
}

func TestMapsAndListsAreKept(t *testing.T) {
	tree, root := mapBlobs(countedMap(25))
	list, key := listBlobs(countedChunks(25)...)
	both := tree.and(list).and(otherBlobs())
	left, code := impl.Collect(both.store(), []impl.Key{root}, []impl.Lease{{Key: key, Until: 3}}, 3)
	same(t, "code", code, impl.OK)
	sameStore(t, "what is left", left, tree.and(list).store())
	isMapLoaded(t, "the map", countedMap(25))(impl.LoadMap(left, root))
	isListLoaded(t, "the list", countedChunks(25)...)(impl.LoadList(left, key, 25))
	left, code = impl.Collect(left, []impl.Key{root}, []impl.Lease{{Key: key, Until: 3}}, 4)
	same(t, "code later", code, impl.OK)
	sameStore(t, "what is left later", left, tree.store())
	isListLost(t, "the list is gone", key, impl.ErrNotFound)(impl.LoadList(left, key, 25))
}
