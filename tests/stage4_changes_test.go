package tests

import (
	"slices"
	"strings"
	"testing"

	"loop.example/g01174/impl"
)

// plainChanges is ChangesOf as the document tells it.
func plainChanges(a, b []impl.Entry) []impl.Change {
	was, is := valuesOf(a), valuesOf(b)
	var changes []impl.Change
	for _, name := range namesTried(append(slices.Clone(a), b...)) {
		old, hadOld := was[name]
		now, hasNew := is[name]
		if hadOld != hasNew || old != now {
			changes = append(changes, impl.Change{Name: name, HadOld: hadOld, Old: old, HasNew: hasNew, New: now})
		}
	}
	return changes
}

// turnedChanges returns changes that lead back.
func turnedChanges(changes []impl.Change) []impl.Change {
	var turned []impl.Change
	for _, c := range changes {
		turned = append(turned, impl.Change{Name: c.Name, HadOld: c.HasNew, Old: c.New, HasNew: c.HadOld, New: c.Old})
	}
	return turned
}

// changesOf returns the changes that make b of a.
func changesOf(t *testing.T, a, b []impl.Entry) []impl.Change {
	t.Helper()
	changes, code := impl.ChangesOf(a, b)
	same(t, "code of ChangesOf", code, impl.OK)
	return changes
}

// pairsTried returns pairs of maps of which some have much in common.
func pairsTried(seed uint64) [][2][]impl.Entry {
	r := chance(seed)
	var pairs [][2][]impl.Entry
	maps := mapsTried(seed)
	for _, a := range maps {
		near := valuesOf(a)
		for _, e := range a {
			switch r.IntN(4) {
			case 0:
				delete(near, e.Name)
				near[someName(r)] = e.Value
			case 1:
				near[e.Name] = someValue(r)
			}
		}
		pairs = append(pairs, [2][]impl.Entry{a, a}, [2][]impl.Entry{a, mapOf(near)}, [2][]impl.Entry{mapOf(near), a})
		for range 4 {
			pairs = append(pairs, [2][]impl.Entry{a, maps[r.IntN(len(maps))]})
		}
	}
	return pairs
}

func TestChangesLeadThereAndBack(t *testing.T) {
	for _, p := range pairsTried(451) {
		a, b := p[0], p[1]
		changes := changesOf(t, a, b)
		sameList(t, "changes", changes, plainChanges(a, b))
		sameList(t, "changes back", changesOf(t, b, a), turnedChanges(changes))
		counts := len(a)
		for _, c := range changes {
			if counts > impl.MaxEntries {
				break
			}
			counts += map[bool]int{true: 1}[c.HasNew] - map[bool]int{true: 1}[c.HadOld]
		}
		if counts > impl.MaxEntries {
			isNone[impl.Entry](t, "too many on the way", impl.ErrLimit)(impl.ApplyChanges(a, changes))
			continue
		}
		isMap(t, "there", b)(impl.ApplyChanges(a, changes))
	}
}

func TestChangesOfSmallMapsLeadBack(t *testing.T) {
	r := chance(452)
	for range 300 {
		a, b := someMap(r, r.IntN(12)), someMap(r, r.IntN(12))
		there := changesOf(t, a, b)
		isMap(t, "there", b)(impl.ApplyChanges(a, there))
		isMap(t, "back", a)(impl.ApplyChanges(b, turnedChanges(there)))
		back := turnedChanges(there)
		slices.Reverse(back)
		isMap(t, "there and back", a)(impl.ApplyChanges(a, append(there, back...)))
	}
}

func TestChangesOfEqualMaps(t *testing.T) {
	for _, list := range mapsTried(453) {
		same(t, "changes", len(changesOf(t, list, slices.Clone(list))), 0)
		isMap(t, "no changes", list)(impl.ApplyChanges(list, nil))
		isMap(t, "no changes, not nil", list)(impl.ApplyChanges(list, []impl.Change{}))
		sameList(t, "from nothing", changesOf(t, nil, list), plainChanges(nil, list))
		isMap(t, "to nothing", nil)(impl.ApplyChanges(list, changesOf(t, list, nil)))
	}
}

func TestChangesTellEmptyValues(t *testing.T) {
	a, b := entries("a", "", "b", "", "c", "1"), entries("b", "", "c", "", "d", "")
	sameList(t, "changes", changesOf(t, a, b), []impl.Change{
		{Name: "a", HadOld: true},
		{Name: "c", HadOld: true, Old: "1", HasNew: true},
		{Name: "d", HasNew: true},
	})
	isMap(t, "there", b)(impl.ApplyChanges(a, changesOf(t, a, b)))
}

// added, dropped and given are changes of each kind.
func added(name, value string) impl.Change {
	return impl.Change{Name: name, HasNew: true, New: value}
}

func dropped(name, value string) impl.Change {
	return impl.Change{Name: name, HadOld: true, Old: value}
}

func given(name, old, value string) impl.Change {
	return impl.Change{Name: name, HadOld: true, Old: old, HasNew: true, New: value}
}

func TestChangesAreMadeOneAfterTheOther(t *testing.T) {
	a := entries("a", "1")
	for _, try := range []struct {
		changes []impl.Change
		want    []impl.Entry
	}{
		{[]impl.Change{given("a", "1", "2"), given("a", "2", "3")}, entries("a", "3")},
		{[]impl.Change{dropped("a", "1"), added("a", "2")}, entries("a", "2")},
		{[]impl.Change{dropped("a", "1"), added("a", "1")}, a},
		{[]impl.Change{added("c", "3"), added("b", "2"), dropped("a", "1")}, entries("b", "2", "c", "3")},
		{[]impl.Change{added("b", "2"), given("b", "2", ""), dropped("b", "")}, a},
		{[]impl.Change{given("a", "1", ""), given("a", "", "1")}, a},
	} {
		isMap(t, "changed", try.want)(impl.ApplyChanges(a, try.changes))
	}
}

func TestChangesHaveToFit(t *testing.T) {
	list := entries("a", "1", "b", "")
	for i, wrong := range [][]impl.Change{
		{added("a", "2")},
		{added("a", "1")},
		{added("b", "2")},
		{added("b", "")},
		{dropped("a", "2")},
		{dropped("a", "")},
		{dropped("b", "1")},
		{dropped("c", "")},
		{dropped("c", "1")},
		{given("a", "2", "1")},
		{given("a", "", "1")},
		{given("b", "1", "")},
		{given("c", "", "1")},
		{given("c", "1", "")},
		{dropped("a", "1"), dropped("a", "1")},
		{dropped("a", "1"), given("a", "1", "2")},
		{added("c", "1"), added("c", "1")},
		{added("c", "1"), added("a", "2"), dropped("b", "")},
		{given("a", "1", "2"), given("a", "1", "2")},
	} {
		isNone[impl.Entry](t, numbered("changes", i), impl.ErrState)(impl.ApplyChanges(list, wrong))
	}
	isNone[impl.Entry](t, "of no entries", impl.ErrState)(impl.ApplyChanges(nil, []impl.Change{dropped("a", "")}))
}

func TestChangesHaveALimit(t *testing.T) {
	full := countedMap(impl.MaxEntries)
	apply := func(changes ...impl.Change) ([]impl.Entry, int64) { return impl.ApplyChanges(full, changes) }
	isNone[impl.Entry](t, "one more", impl.ErrLimit)(apply(added("z", "")))
	isNone[impl.Entry](t, "one more, and one less behind it", impl.ErrLimit)(apply(added("z", ""), dropped("n00", "")))
	isMap(t, "one less, and one more behind it", append(full[1:], entries("z", "")...))(apply(dropped("n00", ""), added("z", "")))
	isNone[impl.Entry](t, "one less, and two more", impl.ErrLimit)(apply(dropped("n00", ""), added("z", ""), added("a", "")))
	isNone[impl.Entry](t, "one more before one that does not fit", impl.ErrLimit)(apply(added("z", ""), dropped("a", "")))
	isNone[impl.Entry](t, "one more behind one that does not fit", impl.ErrState)(apply(dropped("a", ""), added("z", "")))
	isNone[impl.Entry](t, "one that is there", impl.ErrState)(apply(added("n00", "")))
	isMap(t, "the last one", full)(impl.ApplyChanges(full[1:], []impl.Change{added("n00", "")}))
}

// wrongChanges returns changes that are not valid.
func wrongChanges() []impl.Change {
	longName, longValue := strings.Repeat("a", impl.MaxName+1), strings.Repeat("1", impl.MaxValue+1)
	return []impl.Change{
		{},
		{Name: "a"},
		{Name: "a", HadOld: true, HasNew: true},
		{Name: "a", HadOld: true, Old: "1", HasNew: true, New: "1"},
		{Name: "a", Old: "1"},
		{Name: "a", New: "1"},
		{Name: "a", Old: "1", New: "2"},
		{Name: "a", HadOld: true, Old: "1", New: "2"},
		{Name: "a", Old: "1", HasNew: true, New: "2"},
		{Name: "a", HadOld: true, New: "1"},
		{Name: "a", Old: "1", HasNew: true},
		{Name: "", HadOld: true},
		{Name: "", HasNew: true, New: "1"},
		{Name: longName, HasNew: true},
		{Name: longName, HadOld: true, Old: "1"},
		{Name: "a", HadOld: true, Old: longValue},
		{Name: "a", HasNew: true, New: longValue},
		{Name: "a", HadOld: true, Old: "1", HasNew: true, New: longValue},
		{Name: "a", HadOld: true, Old: longValue, HasNew: true, New: "1"},
	}
}

func TestWrongChangesComeFirst(t *testing.T) {
	full := countedMap(impl.MaxEntries)
	for i, wrong := range wrongChanges() {
		for _, list := range [][]impl.Entry{nil, entries("a", "1"), entries("a", ""), full} {
			for _, changes := range [][]impl.Change{
				{wrong},
				{added("z", ""), wrong},
				{wrong, added("z", "")},
				{dropped("y", ""), wrong},
				{added("x", ""), dropped("x", ""), wrong, added("x", "")},
			} {
				isNone[impl.Entry](t, numbered("wrong change", i), impl.ErrInvalid)(impl.ApplyChanges(list, changes))
			}
		}
	}
	long := strings.Repeat("a", impl.MaxName)
	value := strings.Repeat("1", impl.MaxValue)
	isMap(t, "the longest", entries(long, value))(impl.ApplyChanges(nil, []impl.Change{added(long, "x"), given(long, "x", value)}))
	isMap(t, "the longest is dropped", nil)(impl.ApplyChanges(entries(long, value), []impl.Change{dropped(long, value)}))
}

func TestMapsAreRefusedForChanges(t *testing.T) {
	right := entries("a", "1")
	for _, list := range wrongMaps() {
		isNone[impl.Change](t, "the first map", impl.ErrInvalid)(impl.ChangesOf(list, right))
		isNone[impl.Change](t, "the second map", impl.ErrInvalid)(impl.ChangesOf(right, list))
		isNone[impl.Change](t, "both maps", impl.ErrInvalid)(impl.ChangesOf(list, list))
		isNone[impl.Entry](t, "no changes", impl.ErrInvalid)(impl.ApplyChanges(list, nil))
		isNone[impl.Entry](t, "changes", impl.ErrInvalid)(impl.ApplyChanges(list, []impl.Change{added("q", ""), dropped("qq", "")}))
		isCode[int64](t, "nodes of the first map", impl.ErrInvalid)(impl.SharedNodes(list, right))
		isCode[int64](t, "nodes of the second map", impl.ErrInvalid)(impl.SharedNodes(right, list))
	}
}

// plainShared is SharedNodes as the document tells it.
func plainShared(a, b []impl.Entry) int64 {
	own := growMap(a).nodes()
	shared := int64(0)
	for _, n := range growMap(b).nodes() {
		if slices.Contains(own, n) {
			shared++
		}
	}
	return shared
}

// isShared fails the test if two maps do not share as many nodes as they should.
func isShared(t *testing.T, name string, a, b []impl.Entry, want int64) {
	t.Helper()
	got, code := impl.SharedNodes(a, b)
	same(t, name+": code", code, impl.OK)
	same(t, name, got, want)
}

func TestNodesAreShared(t *testing.T) {
	for _, p := range pairsTried(454) {
		isShared(t, "nodes", p[0], p[1], plainShared(p[0], p[1]))
	}
	for _, list := range mapsTried(455) {
		n := int64(len(list))
		isShared(t, "with itself", list, list, n)
		isShared(t, "with an equal map", list, slices.Clone(list), n)
		isShared(t, "with the empty map", list, nil, 0)
		isShared(t, "of the empty map", nil, list, 0)
	}
}

func TestNodesAreSharedWithAMapThatHasAnEntryMore(t *testing.T) {
	for _, n := range []int{1, 2, 5, 20, impl.MaxEntries - 1} {
		list := countedMap(n)
		for _, name := range namesTried(list) {
			more, _ := impl.PutEntry(list, impl.Entry{Name: name, Value: "other"})
			if len(more) == n {
				continue // it has changed a value
			}
			depth, _ := impl.DepthOfName(more, name)
			shared := plainShared(list, more)
			isShared(t, "with an entry more", list, more, shared)
			isShared(t, "with an entry less", more, list, shared)
			if shared > int64(len(more))-depth {
				t.Errorf("%d of %d nodes are shared, but %d lead to the new name", shared, len(more), depth)
			}
		}
	}
	list := countedMap(20)
	last := growMap(list).path("n07")
	changed, _ := impl.PutEntry(list, impl.Entry{Name: "n07", Value: "other"})
	isShared(t, "with another value", list, changed, 20-int64(len(last))) // the shape is the same
}
