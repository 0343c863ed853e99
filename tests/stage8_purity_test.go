package tests

import (
	"slices"
	"strings"
	"testing"

	"loop.example/g01174/impl"
)

// pureArguments returns arguments of several kinds, some of them wrong.
func pureArguments() []arguments {
	tree, root := mapBlobs(countedMap(9))
	list, top := listBlobs(slices.Concat(countedChunks(5), countedChunks(5), []string{"", ""})...)
	above := folderOf(root, top, root)
	whole := tree.and(list).and(plainOf(above))
	half := whole.only(whole.keys()[:len(whole)/2]...)
	chain, chainKeys := chainBlobs(chainOf(66))
	twigs, twig := bush(6, impl.Key{9})
	base := arguments{
		s: whole.store(), from: whole.store(), root: root, roots: []impl.Key{plainBlobKey(above), top, {1}, top}, haves: []impl.Key{top, {2}},
		blobs: append(list.store().Blobs, list.store().Blobs[:3]...), name: "n03", to: "n07", names: []string{"n00", "n03", "n00", "m"},
		most: 3, budget: 600, rounds: 20, n: 12, i: 4,
	}
	var all []arguments
	add := func(edits ...func(*arguments)) {
		a := base
		for _, edit := range edits {
			edit(&a)
		}
		all = append(all, a)
	}
	add()
	add(func(a *arguments) { a.root = top })
	for _, own := range []plainStore{{}, half, whole.without(half.keys()...), tree, list, countedBlobs(0, impl.MaxBlobs-4)} {
		for _, k := range []impl.Key{root, top, plainEmpty(), {}} {
			add(func(a *arguments) { a.s, a.root, a.roots = own.store(), k, []impl.Key{k, plainBlobKey(above)} })
		}
		add(func(a *arguments) { a.s, a.roots = own.store(), []impl.Key{plainBlobKey(above), root} })
	}
	add(func(a *arguments) { a.from = half.store() })
	add(func(a *arguments) { a.s, a.from = half.store(), impl.Store{} })
	add(func(a *arguments) { a.s, a.root, a.name = chain.store(), chainKeys[0], "z" })
	add(func(a *arguments) { a.s, a.root, a.name = chain.store(), chainKeys[10], "z" })
	add(func(a *arguments) { a.s, a.from, a.root, a.name = twigs.store(), twigs.store(), twig, "n 3" })
	add(func(a *arguments) { a.budget, a.most, a.rounds, a.i = 0, 0, 0, 12 })
	add(func(a *arguments) { a.s, a.from = wrongStores()[1], wrongStores()[9] })
	add(func(a *arguments) { a.roots, a.haves, a.blobs, a.names = nil, nil, nil, nil })
	add(func(a *arguments) { a.name, a.to, a.names = strings.Repeat("n", 25), "", []string{""} })
	for _, f := range faultsOf8() {
		add(f.spoil)
	}
	return all
}

func TestFetchingIsPure(t *testing.T) {
	for i, a := range pureArguments() {
		for _, f := range fetchingFunctions() {
			checkPure(t, numbered(f.name, i), f.function, f.pick(a)...)
		}
	}
}

// TestOneStoreInSeveralPlaces shows that the same memory may be in several places of arguments.
func TestOneStoreInSeveralPlaces(t *testing.T) {
	p, root := mapBlobs(countedMap(9))
	s := p.store()
	roots := []impl.Key{root}
	isTold(t, "IsPartOf", true)(impl.IsPartOf(s, s))
	isFilled(t, "TakeBlobs", p, 0)(impl.TakeBlobs(s, p.keys(), s.Blobs))
	areBlobs(t, "BlobsFor")(impl.BlobsFor(s, roots, roots))
	fetched, _, code := impl.FetchAll(s, s, roots, 8, 1000, 8)
	isStore(t, "FetchAll", p.store())(fetched, code)
	filled, n, code := impl.FillForName(s, s, root, "n03")
	isFilled(t, "FillForName", p, 0)(filled, n, code)
	pruned, code := impl.PruneToNames(s, root, []string{"n03"})
	same(t, "code of PruneToNames", code, impl.OK)
	for _, b := range s.Blobs {
		overwrite(b.Data, 0)
	}
	overwrite(roots, impl.Key{})
	p, root = mapBlobs(countedMap(9))
	sameStore(t, "what has been fetched", fetched, p.store())
	sameStore(t, "what has been filled", filled, p.store())
	sameStore(t, "what has been pruned", pruned, nodesOf(growMap(countedMap(9)).path("n03")).store())
}

// TestBytesOfChunksAreApart shows that the bytes of a chunk are those of no blob, and have no room behind them that is.
func TestBytesOfChunksAreApart(t *testing.T) {
	for _, text := range []string{"", "x", strings.Repeat("y", impl.MaxBlobData)} {
		p, root := listBlobs(text, "other")
		s := p.store()
		chunk, _, code := impl.ChunkPartial(s, root, 2, 0)
		same(t, "code", code, impl.OK)
		overwrite(chunk, 0)
		isChunk(t, "a second time", text, impl.Key{}, impl.OK)(impl.ChunkPartial(s, root, 2, 0))
		same(t, "the store is valid", impl.ValidStore(s), true)
	}
}

func TestLargeArgumentsOfFetchingReturn(t *testing.T) {
	many := impl.Store{Blobs: make([]impl.Blob, 300000)}
	long := impl.Store{Blobs: []impl.Blob{{Data: make([]byte, 900000)}}}
	keys := make([]impl.Key, 30000)
	text := strings.Repeat("n", 900000)
	p, root := mapBlobs(countedMap(9))
	s := p.store()
	for _, wrong := range []impl.Store{many, long} {
		isRefused(t, "IsPartOf", impl.ErrInvalid)(impl.IsPartOf(s, wrong))
		isError(t, "WantsOf", impl.ErrInvalid)(impl.WantsOf(wrong, keys, 1))
		isNotFetched(t, "FetchAll", impl.ErrInvalid)(impl.FetchAll(s, wrong, keys, 1, 1, 1))
		isNone[impl.Blob](t, "BlobsFor", impl.ErrInvalid)(impl.BlobsFor(wrong, keys, keys))
		isNotFilled(t, "FillForName", impl.ErrInvalid)(impl.FillForName(wrong, s, root, "n"))
		isKnown(t, "KnownNames", knownTo{}, impl.ErrInvalid)(impl.KnownNames(wrong, root))
		isNotFilled(t, "TakeBlobs", map[bool]int64{true: impl.ErrLimit, false: impl.ErrInvalid}[len(wrong.Blobs) > 1])(impl.TakeBlobs(s, nil, wrong.Blobs))
	}
	isError(t, "WantsOf", impl.ErrLimit)(impl.WantsOf(s, keys, 1))
	isNone[impl.Blob](t, "AnswerWants", impl.ErrLimit)(impl.AnswerWants(s, keys, 1))
	isNotFetched(t, "FetchAll", impl.ErrLimit)(impl.FetchAll(s, s, keys, 1, 1, 1))
	isNone[impl.Blob](t, "BlobsFor", impl.ErrLimit)(impl.BlobsFor(s, nil, keys))
	isAnswered(t, "GetPartial", answered[string]{code: impl.ErrInvalid})(impl.GetPartial(s, root, text))
	isListed(t, "RangePartial", answered[[]impl.Entry]{told: countedMap(9)})(impl.RangePartial(s, root, "", text))
	isListed(t, "RangePartial behind all", answered[[]impl.Entry]{})(impl.RangePartial(s, root, strings.Repeat("\xff", 900000), text))
	isNoStore(t, "PruneToNames", impl.ErrLimit)(impl.PruneToNames(s, root, slices.Repeat([]string{"n"}, 300000)))
	isNoStore(t, "PruneToNames of a long name", impl.ErrInvalid)(impl.PruneToNames(s, root, []string{"n", text}))
}

// TestEqualArgumentsOfFetchingGiveEqualResults calls each function many times: nothing that it tells may depend on the
// order in which it ranges over a map, or in which goroutines run.
func TestEqualArgumentsOfFetchingGiveEqualResults(t *testing.T) {
	for i, a := range pureArguments()[:20] {
		for _, f := range fetchingFunctions() {
			want := f.text(a)
			for range 20 {
				same(t, numbered(f.name, i), f.text(a), want)
			}
		}
	}
}
