package tests

import (
	"maps"
	"math/rand/v2"
	"slices"
	"testing"

	"loop.example/g01174/impl"
)

// These are second versions of the functions of chapter 8, as the document tells them.

// isPartOf is IsPartOf.
func (p plainStore) isPartOf(q plainStore) bool {
	for k := range p {
		if _, found := q[k]; !found {
			return false
		}
	}
	return true
}

// wants is WantsOf.
func (p plainStore) wants(roots []impl.Key, most int64) []impl.Key {
	_, missing := p.reached(roots)
	return missing[:min(len(missing), int(most))]
}

// answer is AnswerWants.
func (p plainStore) answer(wants []impl.Key, budget int64) []impl.Blob {
	var blobs []impl.Blob
	for _, k := range wants {
		if b, found := p[k]; found {
			blobs = append(blobs, b)
		}
		if bytesIn(blobs) > budget {
			return blobs[:len(blobs)-1]
		}
	}
	return blobs
}

// bytesIn returns the number of all bytes of data.
func bytesIn(blobs []impl.Blob) int64 {
	total := 0
	for _, b := range blobs {
		total += len(b.Data)
	}
	return int64(total)
}

// take is TakeBlobs.
func (p plainStore) take(wants []impl.Key, blobs []impl.Blob) (plainStore, int64, int64) {
	taken := maps.Clone(p)
	for _, b := range blobs {
		if k := plainBlobKey(b); slices.Contains(wants, k) {
			taken[k] = b
		}
	}
	if len(taken) > impl.MaxBlobs {
		return nil, 0, impl.ErrLimit
	}
	return taken, int64(len(taken) - len(p)), impl.OK
}

// fetch is FetchAll.
func (p plainStore) fetch(from plainStore, roots []impl.Key, most, budget, rounds int64) (plainStore, impl.Trip, int64) {
	var trip impl.Trip
	for {
		wants := p.wants(roots, most)
		if len(wants) == 0 {
			return p, trip, impl.OK
		}
		if trip.Rounds++; trip.Rounds > rounds {
			return nil, impl.Trip{}, impl.ErrBudget
		}
		blobs := from.answer(wants, budget)
		taken, n, code := p.take(wants, blobs)
		if code == impl.OK && n == 0 {
			code = impl.ErrNotFound
		}
		if code != impl.OK {
			return nil, impl.Trip{}, code
		}
		p = taken
		trip.Blobs += n
		trip.Bytes += bytesIn(blobs)
	}
}

// blobsFor is BlobsFor.
func (p plainStore) blobsFor(roots, haves []impl.Key) []impl.Blob {
	needed, _ := p.reached(roots)
	had, _ := p.reached(haves)
	var blobs []impl.Blob
	for _, k := range needed {
		if !slices.Contains(had, k) {
			blobs = append(blobs, p[k])
		}
	}
	return blobs
}

// answered is what a copy tells: something, or the key that is missing, and a code.
type answered[T any] struct {
	told    T
	missing impl.Key
	code    int64
}

// lost returns the answer of a copy that lacks a key.
func lost[T any](k impl.Key) answered[T] {
	return answered[T]{missing: k, code: impl.ErrState}
}

// unproved returns the answer of a copy in which something is not what it should be.
func unproved[T any]() answered[T] {
	return answered[T]{code: impl.ErrProof}
}

// nodeAt returns the node with a key, met nodes having been met before.
func (p plainStore) nodeAt(k impl.Key, met int) answered[impl.MapNode] {
	b, found := p[k]
	if !found {
		return lost[impl.MapNode](k)
	}
	n, isNode := plainNodeOf(b.Data)
	if b.Tag != 5 || !isNode || met >= impl.MaxEntries {
		return unproved[impl.MapNode]()
	}
	return answered[impl.MapNode]{told: n}
}

// pathTo is ProofFromCopy.
func (p plainStore) pathTo(root impl.Key, name string) answered[[]impl.MapNode] {
	var path []impl.MapNode
	for here := root; here != plainEmpty(); {
		n := p.nodeAt(here, len(path))
		if n.code != impl.OK {
			return answered[[]impl.MapNode]{missing: n.missing, code: n.code}
		}
		path = append(path, n.told)
		if n.told.Entry.Name == name {
			break
		}
		here = n.told.Right
		if name < n.told.Entry.Name {
			here = n.told.Left
		}
	}
	return answered[[]impl.MapNode]{told: path}
}

// valueOf is GetPartial.
func (p plainStore) valueOf(root impl.Key, name string) answered[string] {
	path := p.pathTo(root, name)
	if path.code != impl.OK {
		return answered[string]{missing: path.missing, code: path.code}
	}
	for _, n := range path.told {
		if n.Entry.Name == name {
			return answered[string]{told: n.Entry.Value}
		}
	}
	return answered[string]{code: impl.ErrNotFound}
}

// rangeIn is RangePartial.
func (p plainStore) rangeIn(root impl.Key, from, to string) answered[[]impl.Entry] {
	met := 0
	var walk func(impl.Key) answered[[]impl.Entry]
	walk = func(k impl.Key) answered[[]impl.Entry] {
		if k == plainEmpty() {
			return answered[[]impl.Entry]{}
		}
		n := p.nodeAt(k, met)
		if n.code != impl.OK {
			return answered[[]impl.Entry]{missing: n.missing, code: n.code}
		}
		met++
		name := n.told.Entry.Name
		var left, right answered[[]impl.Entry]
		if name > from {
			left = walk(n.told.Left)
		}
		if left.code == impl.OK && name < to {
			right = walk(n.told.Right)
		}
		for _, part := range []answered[[]impl.Entry]{left, right} {
			if part.code != impl.OK {
				return part
			}
		}
		return answered[[]impl.Entry]{told: slices.Concat(left.told, plainRange([]impl.Entry{n.told.Entry}, from, to), right.told)}
	}
	return walk(root)
}

// knownTo is what KnownNames tells: entries, and keys that are not found.
type knownTo struct {
	entries []impl.Entry
	gaps    []impl.Key
}

// known is KnownNames.
func (p plainStore) known(root impl.Key) (knownTo, int64) {
	met := 0
	var told knownTo
	var walk func(impl.Key) int64
	walk = func(k impl.Key) int64 {
		if k == plainEmpty() {
			return impl.OK
		}
		n := p.nodeAt(k, met)
		switch n.code {
		case impl.ErrState:
			told.gaps = append(told.gaps, k)
			return impl.OK
		case impl.ErrProof:
			return impl.ErrProof
		}
		met++
		if code := walk(n.told.Left); code != impl.OK {
			return code
		}
		told.entries = append(told.entries, n.told.Entry)
		return walk(n.told.Right)
	}
	if code := walk(root); code != impl.OK {
		return knownTo{}, code
	}
	return told, impl.OK
}

// chunkIn is what is met on the way to a chunk: its bytes, its proof, and the keys from the root down.
type chunkIn struct {
	bytes []byte
	proof []impl.Key
	keys  []impl.Key
}

// chunkAt is ChunkPartial and ListProofFromCopy.
func (p plainStore) chunkAt(root impl.Key, n, i int) answered[chunkIn] {
	b, found := p[root]
	switch {
	case !found:
		return lost[chunkIn](root)
	case n == 1 && b.Tag == 1:
		return answered[chunkIn]{told: chunkIn{bytes: b.Data, keys: []impl.Key{root}}}
	case n == 1 || b.Tag != 2 || len(b.Data) != 64:
		return unproved[chunkIn]()
	}
	m := 1
	for 2*m < n {
		m *= 2
	}
	keys := cutKeys(b.Data, 2)
	below, other := answered[chunkIn]{}, keys[1]
	if i < m {
		below = p.chunkAt(keys[0], m, i)
	} else {
		below, other = p.chunkAt(keys[1], n-m, i-m), keys[0]
	}
	if below.code == impl.OK {
		below.told.proof = append(below.told.proof, other)
		below.told.keys = append([]impl.Key{root}, below.told.keys...)
	}
	return below
}

// fill is FillForName and FillForChunk: look is what the copy tells.
func (p plainStore) fill(from plainStore, look func(plainStore) (impl.Key, int64)) (plainStore, int64, int64) {
	own := maps.Clone(p)
	for {
		k, code := look(own)
		b, found := from[k]
		switch {
		case code == impl.OK || code == impl.ErrNotFound:
			return own, int64(len(own) - len(p)), impl.OK
		case code == impl.ErrProof:
			return nil, 0, impl.ErrProof
		case !found:
			return nil, 0, impl.ErrNotFound
		case len(own) == impl.MaxBlobs:
			return nil, 0, impl.ErrLimit
		}
		own[k] = b
	}
}

// prune is PruneToNames.
func (p plainStore) prune(root impl.Key, names ...string) (plainStore, int64) {
	own := plainStore{}
	for _, name := range names {
		path := p.pathTo(root, name)
		if path.code != impl.OK {
			return nil, path.code
		}
		for _, n := range path.told {
			own[plainNodeKey(n)] = nodeBlob(n)
		}
	}
	return own, impl.OK
}

// only returns the blobs with some keys.
func (p plainStore) only(keys ...impl.Key) plainStore {
	some := plainStore{}
	for _, k := range keys {
		if b, found := p[k]; found {
			some[k] = b
		}
	}
	return some
}

// someCopy returns a copy that lacks most blobs of some store, one that lacks a few of them, and keys that they have or lack.
func someCopy(r *rand.Rand) (own, from plainStore, keys []impl.Key) {
	whole, keys := someStore(r)
	own, from = plainStore{}, plainStore{}
	for _, k := range whole.keys() {
		if r.IntN(3) == 0 {
			own[k] = whole[k]
		}
		if r.IntN(12) > 0 {
			from[k] = whole[k]
		}
	}
	return own, from, keys
}

// areBlobs fails the test if a function that returns blobs does not return some blobs and OK.
func areBlobs(t *testing.T, name string, want ...impl.Blob) func([]impl.Blob, int64) {
	return func(got []impl.Blob, code int64) {
		t.Helper()
		same(t, name+": code", code, impl.OK)
		if !equalStores(impl.Store{Blobs: got}, impl.Store{Blobs: want}) {
			t.Errorf("%s: got %v, want %v", name, got, want)
		}
	}
}

// isFilled fails the test if a function that puts blobs does not return a store, how many they are, and OK.
func isFilled(t *testing.T, name string, want plainStore, count int) func(impl.Store, int64, int64) {
	return func(got impl.Store, n, code int64) {
		t.Helper()
		isStore(t, name, want.store())(got, code)
		same(t, name+": number", n, int64(count))
	}
}

// isNotFilled fails the test if a function that puts blobs does not return an error and nothing else.
func isNotFilled(t *testing.T, name string, want int64) func(impl.Store, int64, int64) {
	return func(got impl.Store, n, code int64) {
		t.Helper()
		isNoStore(t, name, want)(got, code)
		same(t, name+": number", n, 0)
	}
}

// isAnswered fails the test if a copy does not tell something that can be compared.
func isAnswered[T comparable](t *testing.T, name string, want answered[T]) func(T, impl.Key, int64) {
	return func(got T, missing impl.Key, code int64) {
		t.Helper()
		same(t, name, answered[T]{got, missing, code}, want)
	}
}

// isListed fails the test if a copy does not tell some list.
func isListed[T comparable](t *testing.T, name string, want answered[[]T]) func([]T, impl.Key, int64) {
	return func(got []T, missing impl.Key, code int64) {
		t.Helper()
		same(t, name+": code", code, want.code)
		same(t, name+": key", missing, want.missing)
		sameList(t, name, got, want.told)
	}
}

// isKnown fails the test if KnownNames does not tell some entries and keys.
func isKnown(t *testing.T, name string, want knownTo, wanted int64) func([]impl.Entry, []impl.Key, int64) {
	return func(got []impl.Entry, gaps []impl.Key, code int64) {
		t.Helper()
		same(t, name+": code", code, wanted)
		sameList(t, name+": entries", got, want.entries)
		sameList(t, name+": keys", gaps, want.gaps)
	}
}
