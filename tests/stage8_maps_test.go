package tests

import (
	"slices"
	"strings"
	"testing"

	"loop.example/g01174/impl"
)

// firstGap returns the key of the first one of some nodes that is not among blobs.
func (p plainStore) firstGap(nodes []impl.MapNode) (impl.Key, bool) {
	for _, n := range nodes {
		k := plainNodeKey(n)
		if _, found := p[k]; !found {
			return k, true
		}
	}
	return impl.Key{}, false
}

// checkCopyOfName checks what a copy of a map tells about a name: what the whole tells, or the first key that it lacks.
func checkCopyOfName(t *testing.T, name string, p plainStore, list []impl.Entry, wanted string) {
	t.Helper()
	tree := growMap(list)
	path := tree.path(wanted)
	value, there := valuesOf(list)[wanted]
	told, proof := answered[string]{told: value}, answered[[]impl.MapNode]{told: path}
	if !there {
		told.code = impl.ErrNotFound
	}
	if k, gap := p.firstGap(path); gap {
		told, proof = lost[string](k), lost[[]impl.MapNode](k)
	}
	s := p.store()
	isAnswered(t, name+": GetPartial "+wanted, told)(impl.GetPartial(s, tree.key(), wanted))
	got, missing, code := impl.ProofFromCopy(s, tree.key(), wanted)
	isListed(t, name+": ProofFromCopy "+wanted, proof)(got, missing, code)
	if code == impl.OK {
		isAnswer(t, name+": CheckName "+wanted, there, value)(impl.CheckName(mapKey(t, list), wanted, got))
	}
}

// checkCopyOfRange checks what a copy of a map tells about a range.
func checkCopyOfRange(t *testing.T, name string, p plainStore, list []impl.Entry, from, to string) {
	t.Helper()
	tree := growMap(list)
	want := answered[[]impl.Entry]{told: plainRange(list, from, to)}
	if k, gap := p.firstGap(tree.met(from, to)); gap {
		want = lost[[]impl.Entry](k)
	}
	isListed(t, name+": RangePartial "+from+" "+to, want)(impl.RangePartial(p.store(), tree.key(), from, to))
}

// knownOf returns what is known of a tree, when some blobs are there.
func (m *plainMap) known(p plainStore) knownTo {
	if m == nil {
		return knownTo{}
	}
	if k, gap := p.firstGap([]impl.MapNode{m.node}); gap {
		return knownTo{gaps: []impl.Key{k}}
	}
	left, right := m.left.known(p), m.right.known(p)
	return knownTo{
		entries: slices.Concat(left.entries, []impl.Entry{m.node.Entry}, right.entries),
		gaps:    slices.Concat(left.gaps, right.gaps),
	}
}

// checkCopyOfMap checks what a copy tells about all names and some ranges of a map.
func checkCopyOfMap(t *testing.T, name string, p plainStore, list []impl.Entry, names, texts []string) {
	t.Helper()
	for _, wanted := range names {
		checkCopyOfName(t, name, p, list, wanted)
	}
	for _, from := range texts {
		for _, to := range texts {
			checkCopyOfRange(t, name, p, list, from, to)
		}
	}
	isKnown(t, name+": KnownNames", growMap(list).known(p), impl.OK)(impl.KnownNames(p.store(), plainMapKey(list)))
}

func TestCopiesTellWhatTheWholeTells(t *testing.T) {
	for i, list := range mapsTried(821) {
		p, root := mapBlobs(list)
		texts := textsTried(list)
		checkCopyOfMap(t, numbered("the whole map", i), p.and(otherBlobs()), list, namesTried(list), texts[:min(len(texts), 9)])
		isListed(t, "all", answered[[]impl.Entry]{told: list})(impl.RangePartial(p.store(), root, "", strings.Repeat("\xff", 25)))
		isKnown(t, "all", knownTo{entries: list}, impl.OK)(impl.KnownNames(p.store(), root))
	}
}

func TestCopiesThatLackOneBlob(t *testing.T) {
	for i, list := range mapsTried(822) {
		p, _ := mapBlobs(list)
		names, texts := namesTried(list), textsTried(list)
		if len(list) > 8 {
			names, texts = names[:8], texts[:5]
		}
		for _, e := range list {
			names = append(names, e.Name)
		}
		for n, node := range growMap(list).nodes() {
			some, few := names, texts
			if len(list) >= 20 { // all blobs are left out, but not tried with all names
				at := n * len(names) / len(list)
				some, few = append([]string{node.Entry.Name}, names[at:min(at+5, len(names))]...), []string{"", node.Entry.Name, names[at]}
			}
			checkCopyOfMap(t, numbered("one left out", i, n), p.without(plainNodeKey(node)), list, some, few)
		}
		checkCopyOfMap(t, numbered("all left out", i), plainStore{}, list, names, texts)
		checkCopyOfMap(t, numbered("all left out, others there", i), otherBlobs(), list, names, texts)
	}
}

func TestCopiesThatLackTwoBlobs(t *testing.T) {
	r := chance(823)
	for i, list := range [][]impl.Entry{countedMap(2), countedMap(3), countedMap(7), someMap(r, 5), someMap(r, 9)} {
		p, _ := mapBlobs(list)
		names := namesTried(list)
		texts := []string{"", names[0], names[len(names)/2], list[0].Name, list[len(list)-1].Name, "n03", "n03\x00", "\xff\xff"}
		for n, k := range p.keys() {
			for m, other := range p.keys()[:n] {
				checkCopyOfMap(t, numbered("two left out", i, n, m), p.without(k, other), list, names, texts)
			}
		}
	}
}

func TestCopiesThatLackManyBlobs(t *testing.T) {
	r := chance(824)
	for i, n := range []int{4, 13, 30, impl.MaxEntries} {
		list := someMap(r, n)
		p, _ := mapBlobs(list)
		for _, parts := range []int{2, 4, 10} {
			some := p
			for _, k := range p.keys() {
				if r.IntN(parts) == 0 && k != plainMapKey(list) {
					some = some.without(k)
				}
			}
			checkCopyOfMap(t, numbered("many left out", i, parts), some, list, namesTried(list)[:9], textsTried(list)[:7])
		}
	}
}

func TestKnownNamesOfPartsOfAMap(t *testing.T) {
	list := countedMap(12)
	tree := growMap(list)
	for word := 'a'; tree.left == nil || tree.right == nil; word++ {
		list = otherCountedMap(string(word), 12)
		tree = growMap(list)
	}
	p, root := mapBlobs(list)
	left, right := tree.left, tree.right
	place := slices.Index(list, tree.node.Entry)
	before, own, behind := list[:place], list[place:place+1], list[place+1:]
	for _, try := range []struct {
		name    string
		lacks   []impl.Key
		entries []impl.Entry
		gaps    []impl.Key
	}{
		{"nothing", nil, list, nil},
		{"the root", []impl.Key{root}, nil, []impl.Key{root}},
		{"the root and more", []impl.Key{root, left.key()}, nil, []impl.Key{root}},
		{"the left tree", []impl.Key{left.key()}, slices.Concat(own, behind), []impl.Key{left.key()}},
		{"the right tree", []impl.Key{right.key()}, slices.Concat(before, own), []impl.Key{right.key()}},
		{"both", []impl.Key{right.key(), left.key()}, own, []impl.Key{left.key(), right.key()}},
	} {
		isKnown(t, "a copy that lacks "+try.name, knownTo{try.entries, try.gaps}, impl.OK)(impl.KnownNames(p.without(try.lacks...).store(), root))
	}
	isKnown(t, "a copy without blobs", knownTo{gaps: []impl.Key{root}}, impl.OK)(impl.KnownNames(impl.Store{}, root))
	isKnown(t, "a part", knownTo{entries: before}, impl.OK)(impl.KnownNames(p.store(), left.key()))
}

// TestTheEmptyMapIsKnown shows that no blob is looked for where the empty map is, whether there is one with its key or not.
func TestTheEmptyMapIsKnown(t *testing.T) {
	empty := impl.EmptyMapKey()
	for i, p := range append(storesTried(825), plainOf(blobOf(5)), otherBlobs()) {
		s := p.store()
		name := numbered("the empty map", i)
		isAnswered(t, name+": GetPartial", answered[string]{code: impl.ErrNotFound})(impl.GetPartial(s, empty, "a"))
		isListed(t, name+": ProofFromCopy", answered[[]impl.MapNode]{})(impl.ProofFromCopy(s, empty, "a"))
		isListed(t, name+": RangePartial", answered[[]impl.Entry]{})(impl.RangePartial(s, empty, "", "z"))
		isKnown(t, name+": KnownNames", knownTo{}, impl.OK)(impl.KnownNames(s, empty))
		isFilled(t, name+": FillForName", p, 0)(impl.FillForName(s, impl.Store{}, empty, "a"))
		isStore(t, name+": PruneToNames", impl.Store{})(impl.PruneToNames(s, empty, []string{"a", "b"}))
	}
}

// checkCopy checks what a copy, whatever is in it, tells about a name, a range and all names.
func checkCopy(t *testing.T, name string, p plainStore, root impl.Key, wanted, to string) (code int64) {
	t.Helper()
	s := p.store()
	isAnswered(t, name+": GetPartial", p.valueOf(root, wanted))(impl.GetPartial(s, root, wanted))
	path := p.pathTo(root, wanted)
	isListed(t, name+": ProofFromCopy", path)(impl.ProofFromCopy(s, root, wanted))
	isListed(t, name+": RangePartial", p.rangeIn(root, wanted, to))(impl.RangePartial(s, root, wanted, to))
	known, told := p.known(root)
	isKnown(t, name+": KnownNames", known, told)(impl.KnownNames(s, root))
	pruned, told := p.prune(root, wanted)
	if told == impl.OK {
		isStore(t, name+": PruneToNames", pruned.store())(impl.PruneToNames(s, root, []string{wanted}))
	} else {
		isNoStore(t, name+": PruneToNames", told)(impl.PruneToNames(s, root, []string{wanted}))
	}
	return path.code
}

func TestCopiesWithBlobsThatAreNoNodes(t *testing.T) {
	for _, n := range []int{1, 2, 5, 7} {
		tree := growMap(countedMap(n))
		for i, part := range tree.parts() {
			for j, b := range noNodes(part.node) {
				p, root := tree.planted(part, plainBlobKey(b))
				p = p.and(plainOf(b))
				name := numbered("no node", n, i, j)
				same(t, name, checkCopy(t, name, p, root, part.node.Entry.Name, "n99"), impl.ErrProof)
				isAnswered(t, name+": what it should be", unproved[string]())(impl.GetPartial(p.store(), root, part.node.Entry.Name))
				isKnown(t, name+": KnownNames", knownTo{}, impl.ErrProof)(impl.KnownNames(p.store(), root))
				for k := range p { // what is missing before it comes first, and what is missing behind it does not
					checkCopy(t, name+", and one left out", p.without(k), root, part.node.Entry.Name, "n99")
					checkCopy(t, name+", and one left out, from the first name on", p.without(k), root, "n00", "n99")
				}
			}
		}
	}
}

func TestCopiesOfLongPaths(t *testing.T) {
	for _, n := range []int{1, 2, 63, 64, 65, 66, 100, 128} {
		nodes := chainOf(n)
		p, keys := chainBlobs(nodes)
		for _, i := range []int{0, 1, 61, 62, 63, 64, 65, 127} {
			if i >= n {
				continue
			}
			name := numbered("chain", n, i)
			code := checkCopy(t, name, p, keys[0], nodes[i].Entry.Name, "z")
			same(t, name+": code", code, map[bool]int64{true: impl.ErrProof}[i >= impl.MaxEntries])
			code = checkCopy(t, name+", behind its end", p, keys[i], "z", "zz")
			same(t, name+", behind its end: code", code, map[bool]int64{true: impl.ErrProof}[n-i > impl.MaxEntries])
			code = checkCopy(t, name+", one left out", p.without(keys[i]), keys[0], "z", "zz")
			same(t, name+", one left out: code", code, map[bool]int64{true: impl.ErrProof, false: impl.ErrState}[i > impl.MaxEntries])
			checkCopy(t, name+", one left out, a range", p.without(keys[i]), keys[0], "a", "z")
		}
	}
}

// bush returns nodes of which each but the lowest one has the one below it on both sides, and the key of the highest one:
// so that the nodes that are met are many more than there are.
func bush(depth int, low impl.Key) (plainStore, impl.Key) {
	p := plainStore{}
	for i := range depth {
		n := nodeOver(low, numbered("n", depth-i), low)
		low = plainNodeKey(n)
		p[low] = nodeBlob(n)
	}
	return p, low
}

func TestNodesThatAreMetManyTimes(t *testing.T) {
	for depth := 1; depth <= 30; depth++ {
		for i, low := range []impl.Key{plainEmpty(), {9}} {
			p, root := bush(depth, low)
			name := numbered("bush", depth, i)
			for _, wanted := range []string{"a", "n 1", "n 3", "n 5\x00", "z"} {
				checkCopy(t, name, p, root, wanted, "zz")
			}
			_, _, code := impl.KnownNames(p.store(), root)
			same(t, name+": code", code, map[bool]int64{true: impl.ErrProof}[depth > 6])
		}
	}
	p, root := bush(6, plainEmpty())
	one := nodeOver(root, "one", plainEmpty())
	two := nodeOver(plainNodeKey(one), "two", plainEmpty())
	p = p.and(plainOf(nodeBlob(one), nodeBlob(two)))
	known, _, code := impl.KnownNames(p.store(), plainNodeKey(one))
	same(t, "64 nodes", code, impl.OK)
	same(t, "their entries", len(known), 64)
	isKnown(t, "65 nodes", knownTo{}, impl.ErrProof)(impl.KnownNames(p.store(), plainNodeKey(two)))
	all := strings.Repeat("\xff", 25)
	entries, _, code := impl.RangePartial(p.store(), plainNodeKey(one), "", all)
	same(t, "a range of 64 nodes", code, impl.OK)
	same(t, "its entries", len(entries), 64)
	isListed(t, "a range of 65 nodes", unproved[[]impl.Entry]())(impl.RangePartial(p.store(), plainNodeKey(two), "", all))
}

// TestGapsAreToldAsOftenAsTheyAreMet shows what is told of keys that are not found on both sides of a node.
func TestGapsAreToldAsOftenAsTheyAreMet(t *testing.T) {
	p, root := bush(1, impl.Key{9})
	isKnown(t, "on both sides", knownTo{entries("n 1", "v n 1"), []impl.Key{{9}, {9}}}, impl.OK)(impl.KnownNames(p.store(), root))
}

func TestNamesAreNotHeldAgainstThoseAbove(t *testing.T) {
	empty := plainEmpty()
	low := nodeOver(empty, "a", empty)
	mid := nodeOver(empty, "z", plainNodeKey(low))
	top := nodeOver(plainNodeKey(mid), "m", plainNodeKey(low))
	p := plainOf(nodeBlob(low), nodeBlob(mid), nodeBlob(top))
	root := plainNodeKey(top)
	for _, wanted := range []string{"a", "b", "l", "m", "n", "z", "zz"} {
		for _, to := range []string{"a", "b", "m", "z", "zz"} {
			for k := range p {
				checkCopy(t, "names in another order", p, root, wanted, to)
				checkCopy(t, "names in another order, one left out", p.without(k), root, wanted, to)
			}
		}
	}
	isAnswered(t, "a name where it should not be", answered[string]{code: impl.ErrNotFound})(impl.GetPartial(p.store(), root, "z"))
	isAnswered(t, "a name on the wrong side", answered[string]{code: impl.ErrNotFound})(impl.GetPartial(p.store(), root, "a"))
	isKnown(t, "in the order of the tree", knownTo{entries: entries("z", "v z", "a", "v a", "m", "v m", "a", "v a")}, impl.OK)(impl.KnownNames(p.store(), root))
}

func TestCopiesOfAllKinds(t *testing.T) {
	r := chance(826)
	for range 120 {
		p, keys := someStore(r)
		for _, k := range keys {
			checkCopy(t, "some store", p, k, someName(r), someName(r))
		}
	}
}

func TestWrongNamesHaveNoAnswer(t *testing.T) {
	p, root := mapBlobs(countedMap(5))
	none := answered[string]{code: impl.ErrInvalid}
	for _, name := range wrongNames() {
		for _, k := range []impl.Key{root, {}, plainEmpty()} {
			isAnswered(t, "GetPartial", none)(impl.GetPartial(p.store(), k, name))
			isListed(t, "ProofFromCopy", answered[[]impl.MapNode]{code: impl.ErrInvalid})(impl.ProofFromCopy(p.store(), k, name))
			isNotFilled(t, "FillForName", impl.ErrInvalid)(impl.FillForName(impl.Store{}, p.store(), k, name))
			for _, names := range [][]string{{name}, {"n00", name}, {name, "n00", "n01"}} {
				isNoStore(t, "PruneToNames", impl.ErrInvalid)(impl.PruneToNames(p.store(), k, names))
			}
		}
	}
	long := strings.Repeat("a", impl.MaxName)
	isAnswered(t, "the longest name", answered[string]{code: impl.ErrNotFound})(impl.GetPartial(p.store(), root, long))
	for _, text := range append(wrongNames(), strings.Repeat("\xff", 1000)) { // a range may be between any texts
		checkCopyOfRange(t, "from", p, countedMap(5), text, "n03")
		checkCopyOfRange(t, "to", p, countedMap(5), "n03", text)
	}
}
