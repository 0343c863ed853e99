package tests

import (
	"reflect"
	"slices"
	"testing"

	"loop.example/g01174/impl"
)

// arguments are those of the functions of chapter 8.
type arguments struct {
	s, from                    impl.Store
	root                       impl.Key
	roots, haves               []impl.Key
	blobs                      []impl.Blob
	name, to                   string
	names                      []string
	most, budget, rounds, n, i int64
}

// fault makes arguments wrong.
type fault struct {
	name  string
	code  int64
	spoil func(*arguments)
}

// fetching is a function of chapter 8, the arguments that it takes, and what may be wrong with them, in the order of the
// document. Last come the faults that are found where something is looked for, and that have no order among each other.
type fetching struct {
	name     string
	function any
	pick     func(arguments) []any
	faults   []fault
}

// results returns what a call returns.
func (f fetching) results(a arguments) []reflect.Value {
	var given []reflect.Value
	for _, argument := range f.pick(a) {
		given = append(given, reflect.ValueOf(argument))
	}
	return reflect.ValueOf(f.function).Call(given)
}

// text returns the text of what a call returns.
func (f fetching) text(a arguments) string {
	return textOf(f.results(a))
}

// call returns the code of a call, and fails the test if anything else is returned with an error.
func (f fetching) call(t *testing.T, name string, a arguments) int64 {
	t.Helper()
	results := f.results(a)
	last := len(results) - 1
	code := results[last].Int()
	for i, r := range results[:last] {
		switch {
		case code == impl.OK:
		case code == impl.ErrState && r.Type() == reflect.TypeFor[impl.Key]():
		case r.Kind() == reflect.Slice && r.Len() == 0:
		case r.Type() == reflect.TypeFor[impl.Store]() && r.Field(0).Len() == 0:
		case !r.IsZero():
			t.Errorf("%s: with the code %d, the result %d is %v", name, code, i, r)
		}
	}
	return code
}

// rightArguments returns arguments with which no function returns an error: a store with a map and a list of five chunks,
// and a copy of it that lacks some blobs. The root has to be told.
func rightArguments(root impl.Key) arguments {
	tree, key := mapBlobs(countedMap(5))
	list, top := listBlobs(countedChunks(5)...)
	both := tree.and(list)
	return arguments{
		s: both.store(), from: both.store(), root: root, roots: []impl.Key{key, top}, haves: []impl.Key{top}, blobs: list.store().Blobs,
		name: "n03", to: "n04", names: []string{"n00", "n02"}, most: 8, budget: 1000, rounds: 8, n: 5, i: 3,
	}
}

// faultsOf8 returns what may be wrong with arguments, by short names.
func faultsOf8() map[string]fault {
	list := []fault{
		{"s", impl.ErrInvalid, func(a *arguments) { a.s = wrongStores()[0] }},
		{"from", impl.ErrInvalid, func(a *arguments) { a.from = wrongStores()[10] }},
		{"blob", impl.ErrInvalid, func(a *arguments) { a.blobs = append(slices.Clone(a.blobs), wrongBlobs()[0]) }},
		{"name", impl.ErrInvalid, func(a *arguments) { a.name = "" }},
		{"names", impl.ErrInvalid, func(a *arguments) { a.names = append(slices.Clone(a.names), wrongNames()[1]) }},
		{"many roots", impl.ErrLimit, func(a *arguments) { a.roots = make([]impl.Key, impl.MaxKeys+1) }},
		{"many haves", impl.ErrLimit, func(a *arguments) { a.haves = make([]impl.Key, impl.MaxKeys+1) }},
		{"many blobs", impl.ErrLimit, func(a *arguments) { a.blobs = make([]impl.Blob, impl.MaxBlobs+1) }},
		{"many names", impl.ErrLimit, func(a *arguments) { a.names = slices.Repeat([]string{"n"}, impl.MaxEntries+1) }},
		{"most", impl.ErrRange, func(a *arguments) { a.most = impl.MaxKeys + 1 }},
		{"budget", impl.ErrRange, func(a *arguments) { a.budget = -1 }},
		{"rounds", impl.ErrRange, func(a *arguments) { a.rounds = impl.MaxRounds + 1 }},
		{"n", impl.ErrRange, func(a *arguments) { a.n = 0 }},
		{"i", impl.ErrRange, func(a *arguments) { a.i = 5 }},
		{"no rounds", impl.ErrBudget, func(a *arguments) { a.s, a.rounds = impl.Store{}, 0 }},
		{"nobody has it", impl.ErrNotFound, func(a *arguments) { a.s, a.from = impl.Store{}, impl.Store{} }},
		{"lacking", impl.ErrState, func(a *arguments) { a.s = impl.Store{} }},
		{"no room", impl.ErrLimit, func(a *arguments) { a.s = fullStore() }},
		{"another blob", impl.ErrProof, func(a *arguments) {
			b := folderOf()
			a.s, a.root = plainOf(b).store(), plainBlobKey(b)
		}},
		{"not there", impl.ErrNotFound, func(a *arguments) { a.name = "n03a" }},
	}
	faults := map[string]fault{}
	for _, f := range list {
		faults[f.name] = f
	}
	return faults
}

// fetchingFunctions returns the functions of chapter 8.
func fetchingFunctions() []fetching {
	all := faultsOf8()
	of := func(name string, function any, pick func(a arguments) []any, names ...string) fetching {
		f := fetching{name: name, function: function, pick: pick}
		for _, n := range names {
			f.faults = append(f.faults, all[n])
		}
		return f
	}
	named := func(a arguments) []any { return []any{a.s, a.root, a.name} }
	placed := func(a arguments) []any { return []any{a.s, a.root, a.n, a.i} }
	return []fetching{
		of("IsPartOf", impl.IsPartOf, func(a arguments) []any { return []any{a.s, a.from} }, "s", "from"),
		of("WantsOf", impl.WantsOf, func(a arguments) []any { return []any{a.s, a.roots, a.most} }, "s", "many roots", "most"),
		of("AnswerWants", impl.AnswerWants, func(a arguments) []any { return []any{a.s, a.roots, a.budget} }, "s", "many roots", "budget"),
		of("TakeBlobs", impl.TakeBlobs, func(a arguments) []any { return []any{a.s, a.roots, a.blobs} }, "s", "blob", "many roots", "many blobs", "no room"),
		of("FetchAll", impl.FetchAll, func(a arguments) []any { return []any{a.s, a.from, a.roots, a.most, a.budget, a.rounds} },
			"s", "from", "many roots", "most", "budget", "rounds", "no rounds", "nobody has it", "no room"),
		of("BlobsFor", impl.BlobsFor, func(a arguments) []any { return []any{a.s, a.roots, a.haves} }, "s", "many roots", "many haves"),
		of("GetPartial", impl.GetPartial, named, "s", "name", "lacking", "another blob", "not there"),
		of("ProofFromCopy", impl.ProofFromCopy, named, "s", "name", "lacking", "another blob"),
		of("RangePartial", impl.RangePartial, func(a arguments) []any { return []any{a.s, a.root, a.name, a.to} }, "s", "lacking", "another blob"),
		of("ChunkPartial", impl.ChunkPartial, placed, "s", "n", "i", "lacking", "another blob"),
		of("ListProofFromCopy", impl.ListProofFromCopy, placed, "s", "n", "i", "lacking", "another blob"),
		of("FillForName", impl.FillForName, func(a arguments) []any { return []any{a.s, a.from, a.root, a.name} },
			"s", "from", "name", "nobody has it", "another blob", "no room"),
		of("FillForChunk", impl.FillForChunk, func(a arguments) []any { return []any{a.s, a.from, a.root, a.n, a.i} },
			"s", "from", "n", "i", "nobody has it", "another blob", "no room"),
		of("PruneToNames", impl.PruneToNames, func(a arguments) []any { return []any{a.s, a.root, a.names} },
			"s", "names", "many names", "lacking", "another blob"),
		of("KnownNames", impl.KnownNames, func(a arguments) []any { return []any{a.s, a.root} }, "s", "another blob"),
	}
}

// isEarly reports whether a fault is found before anything is looked for.
func (f fault) isEarly() bool {
	return !slices.Contains([]string{"no rounds", "nobody has it", "lacking", "no room", "another blob", "not there"}, f.name)
}

// rootFor returns the root that a function looks for.
func (f fetching) rootFor() impl.Key {
	if f.name == "ChunkPartial" || f.name == "ListProofFromCopy" || f.name == "FillForChunk" {
		_, root := listBlobs(countedChunks(5)...)
		return root
	}
	return plainMapKey(countedMap(5))
}

func TestOfTwoErrorsTheFirstIsTold(t *testing.T) {
	for _, f := range fetchingFunctions() {
		right := rightArguments(f.rootFor())
		same(t, f.name+": code", f.call(t, f.name, right), impl.OK)
		for i, first := range f.faults {
			name := f.name + ", " + first.name
			one := right
			first.spoil(&one)
			same(t, name+": code", f.call(t, name, one), first.code)
			for _, second := range f.faults[i+1:] {
				if !first.isEarly() {
					continue
				}
				two := right
				second.spoil(&two)
				first.spoil(&two)
				same(t, name+" and "+second.name+": code", f.call(t, name, two), first.code)
			}
		}
	}
}

// TestOfManyErrorsTheFirstIsTold tries each fault with all behind it.
func TestOfManyErrorsTheFirstIsTold(t *testing.T) {
	for _, f := range fetchingFunctions() {
		all := rightArguments(f.rootFor())
		for _, one := range slices.Backward(f.faults) {
			one.spoil(&all)
			if one.isEarly() {
				same(t, f.name+", "+one.name+" and all behind it: code", f.call(t, f.name, all), one.code)
			}
		}
	}
}

func TestWrongStoresHaveNoAnswer(t *testing.T) {
	for _, f := range fetchingFunctions() {
		for i, s := range wrongStores() {
			a := rightArguments(f.rootFor())
			a.s = s
			same(t, numbered(f.name+", a wrong store", i), f.call(t, f.name, a), impl.ErrInvalid)
			if slices.ContainsFunc(f.faults, func(one fault) bool { return one.name == "from" }) {
				a = rightArguments(f.rootFor())
				a.from = s
				same(t, numbered(f.name+", a wrong store from which is taken", i), f.call(t, f.name, a), impl.ErrInvalid)
			}
		}
	}
}
