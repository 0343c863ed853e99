package tests

import (
	"slices"
	"strings"
	"testing"

	"loop.example/g01174/impl"
)

func TestExampleOfChapter4(t *testing.T) {
	a, b := entries("a", "1"), entries("b", "2")
	none, code := impl.MapKey(nil)
	same(t, "code of no entries", code, impl.OK)
	same(t, "no entries", none, impl.EmptyMapKey())
	path := proveName(t, a, "b")
	same(t, "nodes of the path", len(path), 1)
	there, value, code := impl.CheckName(mapKey(t, a), "b", path)
	same(t, "code of the check", code, impl.OK)
	same(t, "b is there", there, false)
	same(t, "value of b", value, "")
	changes, code := impl.ChangesOf(a, b)
	same(t, "code of the changes", code, impl.OK)
	sameList(t, "changes", changes, []impl.Change{{Name: "a", HadOld: true, Old: "1"}, {Name: "b", HasNew: true, New: "2"}})
	depth, code := impl.DepthOfName(a, "a")
	same(t, "code of the depth", code, impl.OK)
	same(t, "depth of a", depth, 1)
}

func TestLimitsOfMaps(t *testing.T) {
	same(t, "MaxEntries", impl.MaxEntries, 64)
	same(t, "MaxName", impl.MaxName, 24)
	same(t, "MaxValue", impl.MaxValue, 64)
}

func TestEntriesAreValid(t *testing.T) {
	for name := range impl.MaxName + 3 {
		for value := range impl.MaxValue + 3 {
			e := impl.Entry{Name: strings.Repeat("\x00", name), Value: strings.Repeat("\xff", value)}
			want := name >= 1 && name <= 24 && value <= 64
			same(t, numbered("entry", name, value), impl.ValidEntry(e), want)
			same(t, numbered("map of an entry", name, value), impl.ValidEntries([]impl.Entry{e}), want)
		}
	}
	for b := range 256 {
		e := impl.Entry{Name: string([]byte{byte(b)}), Value: string([]byte{byte(b)})}
		same(t, numbered("entry of the byte", b), impl.ValidEntry(e), true)
	}
	for _, e := range wrongEntries() {
		same(t, "wrong entry", impl.ValidEntry(e), false)
	}
}

func TestMapsAreValid(t *testing.T) {
	for _, list := range mapsTried(401) {
		same(t, numbered("map", len(list)), impl.ValidEntries(list), true)
		for i := 1; i < len(list); i++ {
			turned := slices.Clone(list)
			turned[i-1], turned[i] = turned[i], turned[i-1]
			same(t, numbered("turned", len(list), i), impl.ValidEntries(turned), false)
			twice := slices.Clone(list)
			twice[i].Name = twice[i-1].Name
			same(t, numbered("twice", len(list), i), impl.ValidEntries(twice), false)
		}
		for i := range list {
			for _, e := range wrongEntries() {
				wrong := slices.Clone(list)
				wrong[i] = e
				same(t, numbered("wrong entry", len(list), i), impl.ValidEntries(wrong), false)
			}
		}
	}
	for i, list := range wrongMaps() {
		same(t, numbered("wrong map", i), impl.ValidEntries(list), false)
	}
	same(t, "MaxEntries", impl.ValidEntries(countedMap(impl.MaxEntries)), true)
	same(t, "more than MaxEntries", impl.ValidEntries(countedMap(impl.MaxEntries+1)), false)
}

func TestMapsAreTheSame(t *testing.T) {
	lists := append(mapsTried(402), wrongMaps()...)
	for i, a := range lists {
		same(t, "with itself", impl.SameEntries(a, a), true)
		same(t, "with a copy", impl.SameEntries(a, slices.Clone(a)), true)
		for j, b := range lists {
			same(t, numbered("same", i, j), impl.SameEntries(a, b), slices.Equal(a, b))
		}
		for k := range a {
			changed := slices.Clone(a)
			changed[k].Value += "x"
			same(t, "another value", impl.SameEntries(a, changed), false)
			changed = slices.Clone(a)
			changed[k].Name += "x"
			same(t, "another name", impl.SameEntries(a, changed), false)
			same(t, "an entry less", impl.SameEntries(a, without(a, k)), false)
			same(t, "an entry less in the first list", impl.SameEntries(without(a, k), a), false)
		}
	}
	same(t, "nil and empty", impl.SameEntries(nil, []impl.Entry{}), true)
	same(t, "too many", impl.SameEntries(countedMap(99), countedMap(99)), true)
}

func TestNamesAreGot(t *testing.T) {
	for _, list := range mapsTried(403) {
		values := valuesOf(list)
		for _, name := range namesTried(list) {
			got, code := impl.GetEntry(list, name)
			want, there := values[name]
			same(t, "value of "+name, got, want)
			same(t, "code of "+name, code, map[bool]int64{true: impl.OK, false: impl.ErrNotFound}[there])
		}
	}
}

func TestEntriesArePut(t *testing.T) {
	for _, list := range mapsTried(404) {
		for _, name := range namesTried(list) {
			for _, value := range []string{"", "new", strings.Repeat("\xff", impl.MaxValue)} {
				values := valuesOf(list)
				values[name] = value
				put := func() ([]impl.Entry, int64) { return impl.PutEntry(list, impl.Entry{Name: name, Value: value}) }
				if len(values) > impl.MaxEntries {
					isNone[impl.Entry](t, "too many with "+name, impl.ErrLimit)(put())
				} else {
					isMap(t, "with "+name, mapOf(values))(put())
				}
			}
		}
	}
}

func TestMapsHaveALimit(t *testing.T) {
	full := countedMap(impl.MaxEntries)
	last, _ := impl.PutEntry(full[:impl.MaxEntries-1], full[impl.MaxEntries-1])
	sameList(t, "the last one", last, full)
	for _, name := range []string{"a", "n055", "n63\x00", "z"} {
		isNone[impl.Entry](t, "one more: "+name, impl.ErrLimit)(impl.PutEntry(full, impl.Entry{Name: name}))
		isNone[impl.Entry](t, "one not there: "+name, impl.ErrNotFound)(impl.DeleteEntry(full, name))
	}
	for _, e := range full {
		changed, code := impl.PutEntry(full, impl.Entry{Name: e.Name, Value: "other"})
		same(t, "code of one changed", code, impl.OK)
		same(t, "entries of one changed", len(changed), impl.MaxEntries)
	}
}

func TestEntriesAreDeleted(t *testing.T) {
	for _, list := range mapsTried(405) {
		for _, name := range namesTried(list) {
			values := valuesOf(list)
			_, there := values[name]
			delete(values, name)
			if there {
				isMap(t, "without "+name, mapOf(values))(impl.DeleteEntry(list, name))
			} else {
				isNone[impl.Entry](t, "not there: "+name, impl.ErrNotFound)(impl.DeleteEntry(list, name))
			}
		}
	}
}

func TestRangesOfEntries(t *testing.T) {
	for _, list := range mapsTried(406) {
		texts := textsTried(list)
		for _, from := range texts {
			for _, to := range texts {
				isMap(t, "from "+from+" to "+to, plainRange(list, from, to))(impl.RangeOfEntries(list, from, to))
			}
		}
	}
	list := entries("a", "1", "b", "2", "c", "3")
	isMap(t, "from is in it, to is not", list[:2])(impl.RangeOfEntries(list, "a", "c"))
	isMap(t, "one name", nil)(impl.RangeOfEntries(list, "b", "b"))
	isMap(t, "one name alone", list[1:2])(impl.RangeOfEntries(list, "b", "b\x00"))
	isMap(t, "turned round", nil)(impl.RangeOfEntries(list, "c", "a"))
	isMap(t, "no bytes", nil)(impl.RangeOfEntries(list, "", ""))
	isMap(t, "all", list)(impl.RangeOfEntries(list, "", strings.Repeat("z", 1000)))
}

func TestMapsAreBuiltInAnyOrder(t *testing.T) {
	r := chance(407)
	for _, list := range mapsTried(408) {
		key, nodes := mapKey(t, list), nodesOfMap(t, list)
		for range 3 {
			var built []impl.Entry
			for _, i := range r.Perm(len(list)) {
				for _, value := range []string{"before", list[i].Value, list[i].Value} {
					built, _ = impl.PutEntry(built, impl.Entry{Name: list[i].Name, Value: value})
				}
			}
			sameList(t, "built", built, list)
			same(t, "key", mapKey(t, built), key)
			sameList(t, "nodes", nodesOfMap(t, built), nodes)
		}
	}
}

func TestMapsDoNotTellTheirHistory(t *testing.T) {
	r := chance(409)
	names := namesTried(someMap(r, 12))
	for range 20 {
		var list []impl.Entry
		values := map[string]string{}
		for range 150 {
			name := names[r.IntN(len(names))]
			if _, there := values[name]; there && r.IntN(2) == 0 {
				delete(values, name)
				list, _ = impl.DeleteEntry(list, name)
				isCode[string](t, "deleted", impl.ErrNotFound)(impl.GetEntry(list, name))
			} else if there || len(values) < impl.MaxEntries {
				values[name] = someValue(r)
				list, _ = impl.PutEntry(list, impl.Entry{Name: name, Value: values[name]})
				got, code := impl.GetEntry(list, name)
				same(t, "code of what is put", code, impl.OK)
				same(t, "what is put", got, values[name])
			}
			sameList(t, "list", list, mapOf(values))
		}
		same(t, "key", mapKey(t, list), plainMapKey(mapOf(values)))
		sameList(t, "nodes", nodesOfMap(t, list), growMap(mapOf(values)).nodes())
	}
}

func TestEveryEntryMattersForTheKey(t *testing.T) {
	for _, list := range mapsTried(410) {
		key := mapKey(t, list)
		for i := range list {
			others := [][]impl.Entry{without(list, i)}
			for _, changed := range changedNodes(impl.MapNode{Entry: list[i]}) {
				other := slices.Clone(list)
				other[i] = changed.Entry
				if changed.Entry != list[i] && impl.ValidEntries(other) {
					others = append(others, other)
				}
			}
			for _, other := range others {
				if mapKey(t, other) == key {
					t.Errorf("%v and %v have one key", list, other)
				}
			}
		}
	}
}

func TestWrongMapsAreRefused(t *testing.T) {
	for _, list := range wrongMaps() {
		isCode[string](t, "GetEntry", impl.ErrInvalid)(impl.GetEntry(list, "a"))
		isNone[impl.Entry](t, "PutEntry", impl.ErrInvalid)(impl.PutEntry(list, impl.Entry{Name: "q"}))
		isNone[impl.Entry](t, "DeleteEntry", impl.ErrInvalid)(impl.DeleteEntry(list, "a"))
		isNone[impl.Entry](t, "DeleteEntry of no name there", impl.ErrInvalid)(impl.DeleteEntry(list, "q"))
		isNone[impl.Entry](t, "RangeOfEntries", impl.ErrInvalid)(impl.RangeOfEntries(list, "", "z"))
		isCode[impl.Key](t, "MapKey", impl.ErrInvalid)(impl.MapKey(list))
		isNone[impl.MapNode](t, "NodesOfMap", impl.ErrInvalid)(impl.NodesOfMap(list))
		isCode[int64](t, "DepthOfName", impl.ErrInvalid)(impl.DepthOfName(list, "a"))
		isCode[int64](t, "DepthOfName of no name there", impl.ErrInvalid)(impl.DepthOfName(list, "q"))
		isNone[impl.MapNode](t, "ProveName", impl.ErrInvalid)(impl.ProveName(list, "a"))
		isNone[impl.MapNode](t, "ProveRange", impl.ErrInvalid)(impl.ProveRange(list, "", "z"))
	}
}

func TestWrongNamesAreRefused(t *testing.T) {
	for _, list := range [][]impl.Entry{nil, entries("a", "1"), countedMap(impl.MaxEntries)} {
		for _, name := range wrongNames() {
			isCode[string](t, "GetEntry", impl.ErrInvalid)(impl.GetEntry(list, name))
			isNone[impl.Entry](t, "DeleteEntry", impl.ErrInvalid)(impl.DeleteEntry(list, name))
			isCode[impl.Key](t, "PriorityOf", impl.ErrInvalid)(impl.PriorityOf(name))
			isCode[int64](t, "DepthOfName", impl.ErrInvalid)(impl.DepthOfName(list, name))
			isNone[impl.MapNode](t, "ProveName", impl.ErrInvalid)(impl.ProveName(list, name))
		}
		for _, e := range wrongEntries() {
			isNone[impl.Entry](t, "PutEntry", impl.ErrInvalid)(impl.PutEntry(list, e))
		}
	}
}
