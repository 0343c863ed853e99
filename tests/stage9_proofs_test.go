package tests

import (
	"slices"
	"strings"
	"testing"

	"loop.example/g01174/impl"
)

// headOf returns the commit that is the head of a replica, and its map. There is none if the replica has no head.
func headOf(t *testing.T, name string, at impl.Replica) (impl.Commit, []impl.Entry, bool) {
	t.Helper()
	if at.Head == (impl.Key{}) {
		return impl.Commit{}, nil, false
	}
	place, code := impl.FindCommit(at.Book, at.Head)
	same(t, name+": code of FindCommit", code, impl.OK)
	return at.Book.Commits[place], at.Book.Maps[place], true
}

// isProved fails the test if not each name of a map is proved for its key, with its value, or a name is that is not there.
func isProved(t *testing.T, name string, root impl.Key, list []impl.Entry) {
	t.Helper()
	values := valuesOf(list)
	for _, n := range namesTried(list) {
		path, code := impl.ProveName(list, n)
		same(t, name+": code of ProveName", code, impl.OK)
		there, value, code := impl.CheckName(root, n, path)
		_, want := values[n]
		same(t, name+": code of CheckName of "+n, code, impl.OK)
		same(t, name+": CheckName of "+n, there, want)
		same(t, name+": the value of "+n, value, values[n])
		for i := range path {
			wrong := slices.Clone(path)
			wrong[i].Entry.Value = "x" + wrong[i].Entry.Value[min(1, len(wrong[i].Entry.Value)):]
			_, _, code := impl.CheckName(root, n, wrong)
			same(t, name+": a path with another value", code, impl.ErrProof)
		}
	}
	nodes, code := impl.ProveRange(list, "", "\xff")
	same(t, name+": code of ProveRange", code, impl.OK)
	isMap(t, name+": CheckRangeOfMap", list)(impl.CheckRangeOfMap(root, "", "\xff", nodes))
}

// checkProofs checks that behind the planned deeds each name of the map of the head is proved at each replica.
func checkProofs(t *testing.T, name string, v impl.Setup, deeds []impl.Deed) []impl.Entry {
	t.Helper()
	plan, code := impl.FinishDeeds(v, deeds)
	same(t, name+": code of FinishDeeds", code, impl.OK)
	all := slices.Concat(deeds, plan)
	g, _, _ := impl.GroupAfter(v, all)
	isFinished(t, name, v, all, g)
	var list []impl.Entry
	for r, at := range g.Replicas {
		c, own, found := headOf(t, name, at)
		if !found {
			continue
		}
		same(t, name+": one key", c.Root, mapKey(t, own))
		isMap(t, numbered(name+": MapAt", r), own)(impl.MapAt(v, all, int64(r)))
		isProved(t, numbered(name+": replica", r), c.Root, own)
		if r > 0 {
			sameList(t, name+": one map", own, list)
		}
		list = own
	}
	return list
}

func TestNamesAreProvedInTheEnd(t *testing.T) {
	v := setup(3, put(0, "x", "1"), put(1, "y", "2"), put(2, "x", "3"), gone(2, "z"), put(0, "z", ""), put(1, "zz", "9"))
	for text, want := range map[string][]impl.Entry{
		"":                                       nil,
		"write 0":                                entries("x", "1"),
		"write 0, write 1":                       entries("x", "1", "y", "2"),
		"write 0, write 1, write 2":              entries("x", "3", "y", "2"),
		"write 0, write 1, write 2, write 5":     entries("x", "3", "y", "2", "zz", "9"),
		"write 4, write 5, send 0 2 0":           entries("z", "", "zz", "9"),
		"write 4, send 0 2 0, copy 0, merge 2 0": entries("z", ""),
		"write 4, send 0 2 0, copy 0, merge 2 0, write 3, write 2, write 1": entries("x", "3", "y", "2"),
		"write 0, write 1, crash 0":                                         entries("y", "2"),
		// whoever writes a name anew has not seen what the others have, and the greatest value is taken
		"write 0, save 0, send 0 2 0, deliver 0, write 2, crash 0": entries("x", "3"),
	} {
		sameList(t, "the map behind "+text, checkProofs(t, text, v, deedsIn(text)), want)
	}
}

func TestNamesAreProvedBehindAnyDeeds(t *testing.T) {
	r := chance(941)
	for i := range 60 {
		n := 1 + int64(i)%3
		v := setup(n, someEdits(r, n)...)
		deeds, _, _ := someDeeds(r, v, r.IntN(60))
		checkProofs(t, numbered("deeds", i), v, deeds)
	}
}

// TestOneMapWhateverIsLost: if all have written other names, the map does not depend on what is lost, comes twice, or
// comes in another order.
func TestOneMapWhateverIsLost(t *testing.T) {
	v := setup(3, put(0, "a", "1"), put(1, "b", "2"), put(2, "c", "3"), put(0, "a", "4"), gone(1, "b"), put(1, "d", "5"))
	writes := "write 0, write 1, write 2, write 3, write 4, write 5"
	want := entries("a", "4", "c", "3", "d", "5")
	r := chance(942)
	for i := range 60 {
		g := begin(v)
		deeds := deedsIn(writes)
		for _, d := range deeds {
			g.do(d)
		}
		for range r.IntN(60) {
			d := someDeed(r, g)
			if d.Kind == impl.DdWrite || d.Kind == impl.DdSave || d.Kind == impl.DdCrash {
				continue
			}
			deeds = append(deeds, d)
			g.do(d)
		}
		sameList(t, numbered("the map", i), checkProofs(t, numbered("deeds", i), v, deeds), want)
	}
}

// checkData checks that data are proved chunk by chunk for the key of the list of their chunks, and joined again.
func checkData(t *testing.T, name string, rule impl.CutRule, data []byte, root impl.Key, chunks [][]byte) {
	t.Helper()
	keys := checkedKeys(t, chunks)
	n := int64(len(keys))
	for i, k := range keys {
		proof, code := impl.ProofOf(keys, int64(i))
		same(t, name+": code of ProofOf", code, impl.OK)
		isTold(t, name+": CheckProof", true)(impl.CheckProof(root, n, int64(i), k, proof))
		isTold(t, name+": CheckProof of another chunk", false)(impl.CheckProof(root, n, int64(i), flipped(k, 9), proof))
		if next := (int64(i) + 1) % n; keys[next] != k {
			isTold(t, name+": CheckProof at another place", false)(impl.CheckProof(root, n, next, k, proof))
		}
	}
	joined, code := impl.JoinChunks(chunks)
	same(t, name+": code of JoinChunks", code, impl.OK)
	sameBytes(t, name+": JoinChunks", joined, data)
	recipe, code := impl.RecipeOf(rule, data)
	same(t, name+": code of RecipeOf", code, impl.OK)
	again, code := impl.BuildFrom(recipe, chunks)
	same(t, name+": code of BuildFrom", code, impl.OK)
	sameBytes(t, name+": BuildFrom", again, data)
}

// checkedKeys returns the keys of chunks.
func checkedKeys(t *testing.T, chunks [][]byte) []impl.Key {
	t.Helper()
	var keys []impl.Key
	for _, chunk := range chunks {
		k, code := impl.ChunkKey(chunk)
		same(t, "code of ChunkKey", code, impl.OK)
		keys = append(keys, k)
	}
	return keys
}

// TestDataAreProvedInTheEnd: each replica writes the key of a list of chunks, and in the end each chunk is proved for the
// map of the head at each replica.
func TestDataAreProvedInTheEnd(t *testing.T) {
	r := chance(943)
	rule := impl.CutRule{Least: 8, Most: 40, Bits: 4}
	for i := range 12 {
		data := map[string][]byte{}
		var v impl.Setup
		v.Replicas = 3
		for replica, name := range []string{"one", "two", "three"} {
			data[name] = append([]byte(strings.Repeat(name, 3)), fewBytes(r, 1+i*90)...)
			chunks, code := impl.ChunksOf(rule, data[name])
			same(t, "code of ChunksOf", code, impl.OK)
			root, code := impl.ListKey(checkedKeys(t, chunks))
			same(t, "code of ListKey", code, impl.OK)
			v.Edits = append(v.Edits, put(int64(replica), name, impl.KeyText(root)))
		}
		deeds := deedsIn("write 0, write 1, write 2, send 0 1 0, send 2 1 0, copy 1, copy 0, merge 1 1, crash 2, write 2, save 2, drop 0")
		name := numbered("data", i)
		list := checkProofs(t, name, v, deeds)
		same(t, name+": names", len(list), 3)
		for _, e := range list {
			root, code := impl.ReadKey(e.Value)
			same(t, name+": code of ReadKey", code, impl.OK)
			chunks, _ := impl.ChunksOf(rule, data[e.Name])
			checkData(t, name+" "+e.Name, rule, data[e.Name], root, chunks)
		}
	}
}

// TestAnyDataAreProved tries data and rules of all kinds.
func TestAnyDataAreProved(t *testing.T) {
	for i, data := range dataTried(944) {
		for k, rule := range rules() {
			chunks, code := impl.ChunksOf(rule, data)
			if code != impl.OK || len(chunks) == 0 || len(chunks) > 64 {
				continue
			}
			root, code := impl.ListKey(checkedKeys(t, chunks))
			same(t, "code of ListKey", code, impl.OK)
			checkData(t, numbered("data", i, k), rule, data, root, chunks)
		}
	}
}

// TestAllLayersTogether: what two replicas have written is stored, packed, fetched and proved.
func TestAllLayersTogether(t *testing.T) {
	rule := impl.CutRule{Least: 16, Most: 64, Bits: 5}
	data := someBytes(chance(945), 900)
	chunks, code := impl.ChunksOf(rule, data)
	same(t, "code of ChunksOf", code, impl.OK)
	store, root, code := impl.StoreList(impl.Store{}, chunks)
	same(t, "code of StoreList", code, impl.OK)
	v := setup(2, put(0, "file", impl.KeyText(root)), put(1, "x", "1"))
	list := checkProofs(t, "all layers", v, deedsIn("write 0, write 1, send 0 1 0, crash 1, write 1"))
	store, top, code := impl.StoreMap(store, list)
	same(t, "code of StoreMap", code, impl.OK)
	same(t, "the key of the map", top, mapKey(t, list))
	pack, code := impl.PackStore(store)
	same(t, "code of PackStore", code, impl.OK)
	read, code := impl.ReadPack(pack)
	same(t, "code of ReadPack", code, impl.OK)
	fetched, _, code := impl.FetchAll(impl.Store{}, read, []impl.Key{top, root}, 4, 500, 64)
	isStore(t, "FetchAll", store)(fetched, code)
	path, _, code := impl.ProofFromCopy(fetched, top, "file")
	same(t, "code of ProofFromCopy", code, impl.OK)
	there, value, code := impl.CheckName(top, "file", path)
	same(t, "CheckName", there, true)
	same(t, "the value", value, impl.KeyText(root))
	same(t, "code of CheckName", code, impl.OK)
	var all [][]byte
	for i := range chunks {
		chunk, _, code := impl.ChunkPartial(fetched, root, int64(len(chunks)), int64(i))
		same(t, "code of ChunkPartial", code, impl.OK)
		all = append(all, chunk)
	}
	checkData(t, "fetched", rule, data, root, all)
}
