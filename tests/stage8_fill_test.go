package tests

import (
	"slices"
	"testing"

	"loop.example/g01174/impl"
)

// nodesOf returns the blobs of some nodes.
func nodesOf(nodes []impl.MapNode) plainStore {
	p := plainStore{}
	for _, n := range nodes {
		p[plainNodeKey(n)] = nodeBlob(n)
	}
	return p
}

// checkFillForName checks FillForName, and that the filled copy answers what the whole answers.
func checkFillForName(t *testing.T, name string, own, from plainStore, root impl.Key, wanted string) int64 {
	t.Helper()
	want, n, code := own.fill(from, func(p plainStore) (impl.Key, int64) {
		told := p.valueOf(root, wanted)
		return told.missing, told.code
	})
	if code != impl.OK {
		isNotFilled(t, name, code)(impl.FillForName(own.store(), from.store(), root, wanted))
		return code
	}
	got, count, done := impl.FillForName(own.store(), from.store(), root, wanted)
	isFilled(t, name, want, int(n))(got, count, done)
	isAnswered(t, name+": the answer", own.and(from).valueOf(root, wanted))(impl.GetPartial(got, root, wanted))
	isFilled(t, name+" again", want, 0)(impl.FillForName(got, impl.Store{}, root, wanted))
	return impl.OK
}

func TestCopiesAreFilledForNames(t *testing.T) {
	for i, list := range [][]impl.Entry{entries("a", "1"), countedMap(2), countedMap(7), countedMap(20), countedMap(impl.MaxEntries)} {
		p, root := mapBlobs(list)
		tree := growMap(list)
		whole := p.and(otherBlobs())
		for k, wanted := range namesTried(list) {
			if i > 2 && k%7 > 0 {
				continue
			}
			path := nodesOf(tree.path(wanted))
			name := numbered("FillForName "+wanted, i)
			for title, own := range map[string]plainStore{
				"empty": {}, "others": otherBlobs(), "whole": p, "the path": path, "all but the path": p.without(path.keys()...),
				"all but the root": p.without(root), "the root": p.only(root), "half": p.only(p.keys()[:len(p)/2]...),
			} {
				lacks := path.without(own.keys()...)
				isFilled(t, name+", "+title, own.and(lacks), len(lacks))(impl.FillForName(own.store(), whole.store(), root, wanted))
				same(t, name+", "+title, checkFillForName(t, name+", "+title, own, whole, root, wanted), impl.OK)
				for _, gap := range path.keys() { // from lacks one
					code := checkFillForName(t, name+", one lacks, "+title, own, whole.without(gap), root, wanted)
					_, there := own[gap]
					same(t, name+", one lacks, "+title, code == impl.ErrNotFound, !there)
				}
				isFilled(t, name+", just enough, "+title, own.and(lacks), len(lacks))(impl.FillForName(own.store(), lacks.store(), root, wanted))
			}
		}
	}
}

func TestFilledCopiesHaveAllTheyNeed(t *testing.T) {
	list := countedMap(30)
	p, root := mapBlobs(list)
	own := impl.Store{}
	total := int64(0)
	for _, e := range list {
		filled, n, code := impl.FillForName(own, p.store(), root, e.Name)
		same(t, "code", code, impl.OK)
		total += n
		own = filled
		checkCopyOfName(t, "filled", plainOf(own.Blobs...), list, e.Name)
	}
	same(t, "blobs", total, 30)
	sameStore(t, "filled for all names", own, p.store())
}

func TestCopiesAreFilledWithinTheirLimit(t *testing.T) {
	list := countedMap(30)
	p, root := mapBlobs(list)
	texts := countedChunks(13)
	l := triedList(texts...)
	for room := range 9 {
		own := countedBlobs(0, impl.MaxBlobs-room)
		for i, e := range list {
			path := nodesOf(growMap(list).path(e.Name))
			name := numbered("room for a name", room, i)
			checkFillForName(t, name, own, p, root, e.Name)
			for _, k := range path.keys() {
				checkFillForName(t, name+", one lacks", own, p.without(k), root, e.Name)
			}
			if len(path) > room {
				isNotFilled(t, name, impl.ErrLimit)(impl.FillForName(own.store(), p.store(), root, e.Name))
			} else {
				isFilled(t, name, own.and(path), len(path))(impl.FillForName(own.store(), p.store(), root, e.Name))
			}
		}
		for i := range texts {
			way := l.blobs.only(l.tree.keysTo(i)...)
			name := numbered("room for a chunk", room, i)
			if len(way) > room {
				isNotFilled(t, name, impl.ErrLimit)(impl.FillForChunk(own.store(), l.blobs.store(), l.tree.key, 13, int64(i)))
			} else {
				isFilled(t, name, own.and(way), len(way))(impl.FillForChunk(own.store(), l.blobs.store(), l.tree.key, 13, int64(i)))
			}
			checkFillForChunk(t, name+", one lacks", own, l.blobs.without(way.keys()[0]), l.tree.key, 13, i)
		}
	}
	full := countedBlobs(0, impl.MaxBlobs-30).and(p)
	for _, e := range list {
		isFilled(t, "a full copy that has all", full, 0)(impl.FillForName(full.store(), impl.Store{}, root, e.Name))
	}
	isNotFilled(t, "no room, and nothing there", impl.ErrNotFound)(impl.FillForName(fullStore(), impl.Store{}, root, "n00"))
	isNotFilled(t, "no room", impl.ErrLimit)(impl.FillForName(fullStore(), p.store(), root, "n00"))
}

func TestCopiesAreFilledWithWhatIsWrong(t *testing.T) {
	tree := growMap(countedMap(7))
	for i, part := range tree.parts() {
		for j, b := range noNodes(part.node) {
			from, root := tree.planted(part, plainBlobKey(b))
			from = from.and(plainOf(b))
			wanted := part.node.Entry.Name
			name := numbered("no node", i, j)
			isNotFilled(t, name, impl.ErrProof)(impl.FillForName(impl.Store{}, from.store(), root, wanted))
			isNotFilled(t, name+", itself", impl.ErrProof)(impl.FillForName(from.store(), from.store(), root, wanted))
			same(t, name+", it is there", checkFillForName(t, name, plainOf(b), from, root, wanted), impl.ErrProof)
			isNotFilled(t, name+", it is not there", impl.ErrNotFound)(impl.FillForName(impl.Store{}, from.without(plainBlobKey(b)).store(), root, wanted))
			for room := range 5 {
				checkFillForName(t, name+", little room", countedBlobs(0, impl.MaxBlobs-room), from, root, wanted)
			}
		}
	}
	for _, n := range []int{63, 64, 65, 66, 128} {
		p, keys := chainBlobs(chainOf(n))
		code := checkFillForName(t, numbered("chain", n), plainStore{}, p, keys[0], "z")
		same(t, numbered("chain", n), code, map[bool]int64{true: impl.ErrProof}[n > impl.MaxEntries])
		if n > impl.MaxEntries {
			isNotFilled(t, numbered("the 65th node lacks", n), impl.ErrNotFound)(impl.FillForName(impl.Store{}, p.without(keys[64]).store(), keys[0], "z"))
			isNotFilled(t, numbered("room for 64 nodes", n), impl.ErrLimit)(impl.FillForName(countedBlobs(0, 64).store(), p.store(), keys[0], "z"))
			isNotFilled(t, numbered("room for 65 nodes", n), impl.ErrProof)(impl.FillForName(countedBlobs(0, 63).store(), p.store(), keys[0], "z"))
		}
	}
}

// checkFillForChunk checks FillForChunk, and that the filled copy answers what the whole answers.
func checkFillForChunk(t *testing.T, name string, own, from plainStore, root impl.Key, n, i int) int64 {
	t.Helper()
	want, count, code := own.fill(from, func(p plainStore) (impl.Key, int64) {
		told := p.chunkAt(root, n, i)
		return told.missing, told.code
	})
	if code != impl.OK {
		isNotFilled(t, name, code)(impl.FillForChunk(own.store(), from.store(), root, int64(n), int64(i)))
		return code
	}
	got, put, done := impl.FillForChunk(own.store(), from.store(), root, int64(n), int64(i))
	isFilled(t, name, want, int(count))(got, put, done)
	same(t, name+": the answer", checkChunk(t, name+": the answer", plainOf(got.Blobs...), root, n, i), impl.OK)
	isFilled(t, name+" again", want, 0)(impl.FillForChunk(got, impl.Store{}, root, int64(n), int64(i)))
	return impl.OK
}

func TestCopiesAreFilledForChunks(t *testing.T) {
	for _, n := range []int{1, 2, 3, 5, 8, 17} {
		l := triedList(countedChunks(n)...)
		root := l.tree.key
		whole := l.blobs.and(otherBlobs())
		for i := range n {
			way := l.blobs.only(l.tree.keysTo(i)...)
			name := numbered("FillForChunk", n, i)
			for title, own := range map[string]plainStore{
				"empty": {}, "others": otherBlobs(), "whole": l.blobs, "the way": way, "all but the way": l.blobs.without(way.keys()...),
				"the root": l.blobs.only(root), "the chunk": l.blobs.only(l.leaves[i]), "half": l.blobs.only(l.blobs.keys()[:n]...),
			} {
				lacks := way.without(own.keys()...)
				isFilled(t, name+", "+title, own.and(lacks), len(lacks))(impl.FillForChunk(own.store(), whole.store(), root, int64(n), int64(i)))
				same(t, name+", "+title, checkFillForChunk(t, name+", "+title, own, whole, root, n, i), impl.OK)
				for _, gap := range way.keys() {
					code := checkFillForChunk(t, name+", one lacks, "+title, own, whole.without(gap), root, n, i)
					_, there := own[gap]
					same(t, name+", one lacks, "+title, code == impl.ErrNotFound, !there)
				}
			}
		}
	}
	l := triedList(slices.Repeat([]string{"x", "", "y"}, impl.MaxLeaves)[:impl.MaxLeaves]...)
	for i := 0; i < impl.MaxLeaves; i += 15 {
		isFilled(t, numbered("the longest list", i), l.blobs.only(l.tree.keysTo(i)...), 9)(impl.FillForChunk(impl.Store{}, l.blobs.store(), l.tree.key, impl.MaxLeaves, int64(i)))
	}
}

func TestCopiesAreFilledWithWrongChunks(t *testing.T) {
	texts := countedChunks(5)
	tree := growTree(chunkKeys(texts), 0)
	tree.each(func(part *plainTree) {
		for w, b := range []impl.Blob{blobOf(0), blobOf(3), blobOf(2, make([]byte, 63)), blobOf(1, make([]byte, 64)), pairBlob(impl.Key{1}, impl.Key{2}), folderOf(impl.Key{1})} {
			from, root := tree.plantedList(texts, part, plainBlobKey(b))
			from = from.and(plainOf(b))
			for i := range 5 {
				name := numbered("no part", part.begin, part.end, w, i)
				code := checkFillForChunk(t, name, plainStore{}, from, root, 5, i)
				if !part.has(i) {
					same(t, name+": code", code, impl.OK)
				}
				for room := range 5 {
					checkFillForChunk(t, name+", little room", countedBlobs(0, impl.MaxBlobs-room), from, root, 5, i)
				}
			}
		}
	})
}

func TestCopiesOfSomeStoresAreFilled(t *testing.T) {
	r := chance(841)
	for range 80 {
		own, from, keys := someCopy(r)
		for _, k := range keys {
			checkFillForName(t, "some store", own, from, k, someName(r))
			n := 1 + r.IntN(5)
			checkFillForChunk(t, "some store", own, from, k, n, r.IntN(n))
		}
	}
}

func TestStoresArePrunedToNames(t *testing.T) {
	for i, list := range mapsTried(842) {
		p, root := mapBlobs(list)
		tree := growMap(list)
		names := namesTried(list)
		names = names[:min(len(names), 60)]
		s := p.and(otherBlobs()).store()
		for k, name := range names {
			path := nodesOf(tree.path(name))
			isStore(t, numbered("one name", i, k), path.store())(impl.PruneToNames(s, root, []string{name}))
			isStore(t, numbered("one name twice", i, k), path.store())(impl.PruneToNames(s, root, []string{name, name}))
			other := names[(k*7+3)%len(names)]
			isStore(t, numbered("two names", i, k), path.and(nodesOf(tree.path(other))).store())(impl.PruneToNames(s, root, []string{name, other}))
		}
		isStore(t, numbered("no name", i), impl.Store{})(impl.PruneToNames(s, root, nil))
		all := plainStore{}
		for _, name := range names {
			all = all.and(nodesOf(tree.path(name)))
		}
		isStore(t, numbered("many names", i), all.store())(impl.PruneToNames(s, root, names))
		var own []string
		for _, e := range list {
			own = append(own, e.Name)
		}
		isStore(t, numbered("all names", i), p.store())(impl.PruneToNames(s, root, own))
	}
}

func TestPruningHasALimitOfNames(t *testing.T) {
	list := countedMap(impl.MaxEntries)
	p, root := mapBlobs(list)
	var names []string
	for _, e := range list {
		names = append(names, e.Name)
	}
	isStore(t, "MaxEntries names", p.store())(impl.PruneToNames(p.store(), root, names))
	equal := slices.Repeat(names[:1], impl.MaxEntries)
	isStore(t, "MaxEntries equal names", nodesOf(growMap(list).path(names[0])).store())(impl.PruneToNames(p.store(), root, equal))
	for _, s := range []impl.Store{p.store(), {}} {
		isNoStore(t, "one more", impl.ErrLimit)(impl.PruneToNames(s, root, append(names, "a")))
		isNoStore(t, "one more, all equal", impl.ErrLimit)(impl.PruneToNames(s, root, append(equal, names[0])))
		isNoStore(t, "one more, for nothing", impl.ErrLimit)(impl.PruneToNames(s, plainEmpty(), append(names, "a")))
	}
	isStore(t, "a copy without blobs, no names", impl.Store{})(impl.PruneToNames(impl.Store{}, root, nil))
	isNoStore(t, "a copy without blobs", impl.ErrState)(impl.PruneToNames(impl.Store{}, root, names[:1]))
}

// TestPruningEndsWithTheFirstNameThatHasNoAnswer shows that names are looked for one after the other.
func TestPruningEndsWithTheFirstNameThatHasNoAnswer(t *testing.T) {
	empty := plainEmpty()
	wrong := chunkBlob("no node")
	top := nodeOver(impl.Key{9}, "m", plainBlobKey(wrong))
	p := plainOf(nodeBlob(top), wrong)
	s, root := p.store(), plainNodeKey(top)
	for _, try := range []struct {
		names []string
		want  int64
	}{
		{[]string{"m"}, impl.OK},
		{[]string{"a"}, impl.ErrState},
		{[]string{"z"}, impl.ErrProof},
		{[]string{"m", "a", "z"}, impl.ErrState},
		{[]string{"m", "z", "a"}, impl.ErrProof},
		{[]string{"a", "z", "m"}, impl.ErrState},
		{[]string{"z", "m", "a"}, impl.ErrProof},
	} {
		if try.want == impl.OK {
			isStore(t, "the top", plainOf(nodeBlob(top)).store())(impl.PruneToNames(s, root, try.names))
		} else {
			isNoStore(t, try.names[0], try.want)(impl.PruneToNames(s, root, try.names))
		}
	}
	leaf := nodeOver(empty, "m", empty)
	isStore(t, "names that are not there", plainOf(nodeBlob(leaf)).store())(impl.PruneToNames(plainOf(nodeBlob(leaf), wrong).store(), plainNodeKey(leaf), []string{"a", "z"}))
	nodes := chainOf(66)
	chain, keys := chainBlobs(nodes)
	isStore(t, "64 nodes for each name", chain.only(keys[:64]...).store())(impl.PruneToNames(chain.store(), keys[0], []string{nodes[63].Entry.Name, nodes[62].Entry.Name, nodes[63].Entry.Name}))
	isNoStore(t, "65 nodes for a name", impl.ErrProof)(impl.PruneToNames(chain.store(), keys[0], []string{nodes[63].Entry.Name, nodes[64].Entry.Name}))
}
