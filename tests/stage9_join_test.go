package tests

import (
	"slices"
	"strings"
	"testing"

	"loop.example/g01174/impl"
)

// checkJoined checks what JoinMaps returns, with both sides exchanged, too, and returns its error.
func checkJoined(t *testing.T, name string, base, ours, theirs []impl.Entry) int64 {
	t.Helper()
	want := plainJoin(base, ours, theirs)
	if len(want) > impl.MaxEntries {
		isNone[impl.Entry](t, name, impl.ErrLimit)(impl.JoinMaps(base, ours, theirs))
		isNone[impl.Entry](t, name+" exchanged", impl.ErrLimit)(impl.JoinMaps(base, theirs, ours))
		return impl.ErrLimit
	}
	isMap(t, name, want)(impl.JoinMaps(base, ours, theirs))
	isMap(t, name+" exchanged", want)(impl.JoinMaps(base, theirs, ours))
	return impl.OK
}

func TestSidesAreJoined(t *testing.T) {
	none, empty, one, two := []impl.Entry(nil), entries("k", ""), entries("k", "1"), entries("k", "2")
	for _, try := range []struct {
		name               string
		base, ours, theirs []impl.Entry
		want               []impl.Entry
	}{
		{"nothing anywhere", none, none, none, none},
		{"nothing has changed", one, one, one, one},
		{"put by one", none, one, none, one},
		{"put by one, without a value", none, empty, none, empty},
		{"put by both alike", none, one, one, one},
		{"put by both otherwise", none, one, two, two},
		{"put by both otherwise, by one without a value", none, empty, one, one},
		{"changed by one", one, two, one, two},
		{"changed by one to a lesser value", two, one, two, one},
		{"changed by one to no bytes", two, empty, two, empty},
		{"changed by both alike", one, two, two, two},
		{"changed by both to a lesser value alike", two, one, one, one},
		{"changed by both otherwise", empty, one, two, two},
		{"changed by both otherwise, to less than before", entries("k", "3"), one, two, two},
		{"changed by both otherwise, between them what was before", one, empty, two, two},
		{"deleted by one", one, none, one, none},
		{"deleted by both", one, none, none, none},
		{"deleted by one, changed by the other one", one, none, two, two},
		{"deleted by one, changed by the other one to a lesser value", two, none, one, one},
		{"deleted by one, changed by the other one to no bytes", one, none, empty, empty},
		{"the beginning of the other value", none, entries("k", "ab"), entries("k", "abc"), entries("k", "abc")},
		{"the first byte that differs decides", none, entries("k", "b"), entries("k", "az"), entries("k", "b")},
		{"bytes have no sign", none, entries("k", "\x7f"), entries("k", "\x80"), entries("k", "\x80")},
		{"a byte 0 is more than none", none, entries("k", "a"), entries("k", "a\x00"), entries("k", "a\x00")},
		{"numbers are no numbers", none, entries("k", "9"), entries("k", "10"), entries("k", "9")},
		{"capital letters come first", none, entries("k", "Z"), entries("k", "a"), entries("k", "a")},
	} {
		for _, around := range [][]impl.Entry{nil, entries("a", "1", "j\xff", ""), entries("k\x00", "k", "z", "2")} {
			whole := func(list []impl.Entry) []impl.Entry { return mapOf(valuesOf(slices.Concat(around, list))) }
			isMap(t, try.name, whole(try.want))(impl.JoinMaps(whole(try.base), whole(try.ours), whole(try.theirs)))
			isMap(t, try.name+", exchanged", whole(try.want))(impl.JoinMaps(whole(try.base), whole(try.theirs), whole(try.ours)))
		}
	}
}

func TestEachWayToHoldANameIsJoined(t *testing.T) {
	for i, base := range waysToHold() {
		for k, ours := range waysToHold() {
			for m, theirs := range waysToHold() {
				name := numbered("held", i, k, m)
				want := waysToHold()[max(k, m)] // the ways are in the order of their values
				switch i {
				case k:
					want = theirs
				case m:
					want = ours
				}
				isMap(t, name, want)(impl.JoinMaps(base, ours, theirs))
				checkJoined(t, name, base, ours, theirs)
			}
		}
	}
}

func TestSeveralNamesAreJoined(t *testing.T) {
	isMap(t, "several names", entries("a", "2", "b", "2", "c", "2", "d", "9", "f", "", "z", "8"))(impl.JoinMaps(
		entries("b", "1", "c", "1", "d", "1", "e", "1", "g", "1"),
		entries("a", "1", "b", "2", "d", "9", "e", "1", "f", "", "z", "7"),
		entries("a", "2", "c", "2", "d", "1", "g", "1", "z", "8"),
	))
}

// TestJoinsWithoutConflictsAreMerges compares JoinMaps with MergeMaps, which differ only where there are conflicts.
func TestJoinsWithoutConflictsAreMerges(t *testing.T) {
	r := chance(911)
	for range 400 {
		base := someMap(r, r.IntN(12))
		ours, theirs := valuesOf(base), valuesOf(base)
		for _, e := range base {
			side := []map[string]string{ours, theirs}[r.IntN(2)]
			switch r.IntN(3) {
			case 0:
				side[e.Name] = someValue(r)
			case 1:
				delete(side, e.Name)
			}
		}
		merged, conflicts, code := impl.MergeMaps(base, mapOf(ours), mapOf(theirs))
		same(t, "conflicts", len(conflicts), 0)
		same(t, "code of MergeMaps", code, impl.OK)
		isMap(t, "JoinMaps", merged)(impl.JoinMaps(base, mapOf(ours), mapOf(theirs)))
		isMap(t, "JoinMaps exchanged", merged)(impl.JoinMaps(base, mapOf(theirs), mapOf(ours)))
	}
}

func TestAnyMapsAreJoined(t *testing.T) {
	r := chance(912)
	some := func() []impl.Entry {
		values := map[string]string{}
		for range r.IntN(8) {
			values[string(rune('a'+r.IntN(6)))] = string(fewBytes(r, r.IntN(3)))
		}
		return mapOf(values)
	}
	for range 600 {
		checkJoined(t, "few names", some(), some(), some())
	}
	tried := mapsTried(913)
	for i := range tried {
		for range 6 {
			checkJoined(t, numbered("maps", i), tried[i], tried[r.IntN(len(tried))], tried[r.IntN(len(tried))])
		}
		checkJoined(t, numbered("the same as base", i), tried[i], tried[i], tried[r.IntN(len(tried))])
		checkJoined(t, numbered("both alike", i), tried[r.IntN(len(tried))], tried[i], tried[i])
	}
}

func TestJoinsOfFullMaps(t *testing.T) {
	full := countedMap(impl.MaxEntries)
	other := otherCountedMap("m", impl.MaxEntries)
	longer := func(list []impl.Entry) []impl.Entry {
		var own []impl.Entry
		for _, e := range list {
			own = append(own, impl.Entry{Name: e.Name, Value: "w"})
		}
		return own
	}
	for _, try := range []struct {
		name               string
		base, ours, theirs []impl.Entry
		want               int64
	}{
		{"three times one map", full, full, full, impl.OK},
		{"one side has it alone", nil, full, nil, impl.OK},
		{"both have put it", nil, full, full, impl.OK},
		{"both have put it otherwise", nil, full, longer(full), impl.OK},
		{"both have changed all otherwise", full, longer(full), otherValues(full), impl.OK},
		{"one has deleted all", full, nil, full, impl.OK},
		{"one has deleted all, the other one changed all", full, nil, longer(full), impl.OK},
		{"all others", full, full, other, impl.OK},
		{"all have other names", full, other, otherCountedMap("k", impl.MaxEntries), impl.ErrLimit},
		{"just as many as may be", nil, full[:40], other[40:], impl.OK},
		{"one too many", nil, full[:40], other[39:], impl.ErrLimit},
		{"one too many in conflict", full[:10], longer(full[:41]), append(other[40:], longer(full[40:])...), impl.ErrLimit},
		{"one more, which the other one has deleted", full, full[1:], slices.Concat(other[:1], full[1:]), impl.OK},
		{"one more than all", full[1:], full, slices.Concat(other[:1], full[1:]), impl.ErrLimit},
		{"one deleted, which the other one has changed, and one more", full, slices.Concat(other[:1], full[1:]), longer(full), impl.ErrLimit},
		{"twice as many", nil, full, other, impl.ErrLimit},
	} {
		same(t, try.name, checkJoined(t, try.name, try.base, try.ours, try.theirs), try.want)
	}
	// MergeMaps has no entry for what both have put otherwise, so that it has room where JoinMaps has none
	ours, theirs := slices.Concat(full[:63], entries("p", "1")), slices.Concat(full[:62], entries("p", "2", "q", "1"))
	_, _, code := impl.MergeMaps(full[:62], ours, theirs)
	same(t, "code of MergeMaps", code, impl.OK)
	isNone[impl.Entry](t, "room for MergeMaps alone", impl.ErrLimit)(impl.JoinMaps(full[:62], ours, theirs))
}

// otherValues returns a map with other values.
func otherValues(list []impl.Entry) []impl.Entry {
	var own []impl.Entry
	for i, e := range list {
		own = append(own, impl.Entry{Name: e.Name, Value: strings.Repeat("x", i%3)})
	}
	return own
}

func TestWrongMapsAreNotJoined(t *testing.T) {
	full, other := countedMap(impl.MaxEntries), otherCountedMap("m", impl.MaxEntries)
	for i, wrong := range wrongMaps() {
		name := numbered("a wrong map", i)
		for _, right := range [][]impl.Entry{nil, entries("a", "1"), full} {
			isNone[impl.Entry](t, name+" as base", impl.ErrInvalid)(impl.JoinMaps(wrong, right, right))
			isNone[impl.Entry](t, name+" as ours", impl.ErrInvalid)(impl.JoinMaps(right, wrong, right))
			isNone[impl.Entry](t, name+" as theirs", impl.ErrInvalid)(impl.JoinMaps(right, right, wrong))
			isNone[impl.Entry](t, name+" everywhere", impl.ErrInvalid)(impl.JoinMaps(wrong, wrong, wrong))
		}
		isNone[impl.Entry](t, name+" as base ahead of the limit", impl.ErrInvalid)(impl.JoinMaps(wrong, full, other))
	}
}
