package tests

import (
	"math"
	"slices"
	"strings"
	"testing"

	"loop.example/g01174/impl"
)

// wrongDeeds returns deeds that are not valid.
func wrongDeeds() []impl.Deed {
	return []impl.Deed{
		{}, {Kind: -1}, {Kind: 9}, {Kind: math.MinInt64}, {Kind: 1<<32 + 1},
		{Kind: impl.DdWrite, A: -1}, {Kind: impl.DdWrite, A: 1000}, {Kind: impl.DdWrite, B: 1}, {Kind: impl.DdWrite, C: 1},
		{Kind: impl.DdSend, B: -1}, {Kind: impl.DdSend, C: 1000}, {Kind: impl.DdDeliver, B: 1}, {Kind: impl.DdCopy, C: -1}, {Kind: impl.DdDrop, A: math.MaxInt64},
		{Kind: impl.DdMerge, C: 1}, {Kind: impl.DdMerge, B: 1000}, {Kind: impl.DdSave, B: 999}, {Kind: impl.DdCrash, A: math.MinInt64},
	}
}

// refuseAll fails the test if the functions that take a setup and deeds do not all return an error and nothing else.
func refuseAll(t *testing.T, name string, v impl.Setup, deeds []impl.Deed, replica int64, want int64) {
	t.Helper()
	isNoGroup(t, name, want)(impl.GroupAfter(v, deeds))
	isNoRefusedDeed(t, name, want)(impl.RefusedDeed(v, deeds))
	isNone[impl.Entry](t, name+": MapAt", want)(impl.MapAt(v, deeds, replica))
	isRefused(t, name+": AreJoined", want)(impl.AreJoined(v, deeds))
	isNone[impl.Deed](t, name+": FinishDeeds", want)(impl.FinishDeeds(v, deeds))
}

func TestWrongSetupsHaveNoGroup(t *testing.T) {
	for i, v := range wrongSetups() {
		name := numbered("wrong setup", i)
		for _, deeds := range [][]impl.Deed{nil, deedsIn("write 0, save 0"), repeated(301, "save 0"), wrongDeeds()} {
			refuseAll(t, name, v, deeds, 0, impl.ErrInvalid)
			refuseAll(t, name+" and a replica that does not exist", v, deeds, 999, impl.ErrInvalid)
		}
	}
}

func TestWrongDeedsHaveNoGroup(t *testing.T) {
	v := exampleSetup()
	for i, d := range wrongDeeds() {
		name := numbered("wrong deed", i)
		same(t, name+": ValidDeed", impl.ValidDeed(d), false)
		same(t, name+": DeedText", impl.DeedText(d), "")
		right := deedsIn("write 0, write 0, write 1, save 1, drop 3")
		refuseAll(t, name+" alone", v, []impl.Deed{d}, 0, impl.ErrInvalid)
		for place := range len(right) + 1 {
			refuseAll(t, numbered(name+" at the place", place), v, with(right, place, d), 1, impl.ErrInvalid)
		}
		many := repeated(301, "save 0")
		refuseAll(t, name+" ahead of too many", v, with(many, 0, d), 0, impl.ErrInvalid)
		refuseAll(t, name+" behind too many", v, with(many, 301, d), 0, impl.ErrInvalid)
		refuseAll(t, name+" behind a full plan", v, with(many[:300], 300, d), 5, impl.ErrInvalid)
		isNone[impl.Entry](t, name+": MapAt of no replica", impl.ErrInvalid)(impl.MapAt(v, with(right, 2, d), -1))
	}
}

func TestTooManyDeedsHaveNoGroup(t *testing.T) {
	v := exampleSetup()
	refuseAll(t, "too many", v, repeated(301, "save 0"), 0, impl.ErrRange)
	refuseAll(t, "too many, and no replica", v, repeated(301, "save 0"), 2, impl.ErrRange)
	isNone[impl.Entry](t, "no replica", impl.ErrRange)(impl.MapAt(v, repeated(300, "save 0"), 2))
	// ErrRange comes ahead of what the deeds are refused for, and of a plan for which there is no room
	refuseAll(t, "too many that are left out", v, repeated(301, "write 9"), 0, impl.ErrRange)
	full := append(repeated(261, "save 0"), repeated(40, "write 0, crash 0")...)
	refuseAll(t, "too many in front of a plan", v, full, 0, impl.ErrRange)
	isNone[impl.Deed](t, "just no room", impl.ErrLimit)(impl.FinishDeeds(v, full[:300]))
}

// TestOfTwoThingsWrongWithADeed tries deeds for which two errors of the table could be told.
func TestOfTwoThingsWrongWithADeed(t *testing.T) {
	v := setup(2, put(0, "x", "1"), put(0, "x", "2"), put(1, "y", "1"), gone(0, "y"))
	full := times(20, "write 0, write 1")
	for _, try := range []struct {
		before, deed string
		want         int64
	}{
		{full, "write 4", impl.ErrRange},                                     // a full book, and no such edit
		{full, "write 1", impl.ErrState},                                     // a full book, and the same map
		{full, "write 3", impl.ErrState},                                     // a full book, and nothing to delete
		{full, "write 0", impl.ErrLimit},                                     // a full book alone
		{full, "merge 0 40", impl.ErrRange},                                  // a full book, and no such commit
		{full, "merge 0 0", impl.ErrState},                                   // a full book, and an ancestor
		{full, "merge 0 39", impl.ErrState},                                  // a full book, and the head
		{"write 0, " + times(12, "send 0 1 0"), "send 0 0 0", impl.ErrRange}, // a full wire, and one replica
		{"write 0, " + times(12, "send 0 1 0"), "send 0 1 1", impl.ErrRange}, // a full wire, and no such commit
		{"write 0, " + times(12, "send 0 1 0"), "send 0 2 0", impl.ErrRange}, // a full wire, and no such replica
		{"write 0, " + times(12, "send 0 1 0"), "send 0 1 0", impl.ErrLimit}, // a full wire alone
	} {
		leavesOut(t, v, try.before, try.deed, try.want)
	}
}

// TestOfTwoThingsWrongWithAScript tries texts that are too long, in one way or both, with setups that are not valid.
func TestOfTwoThingsWrongWithAScript(t *testing.T) {
	long, many := strings.Repeat("x", impl.MaxScriptText+1), strings.Repeat("\n", impl.MaxScriptLines+1)
	both := strings.Repeat(strings.Repeat("x", 200)+"\n", 121)
	for _, text := range []string{long, many, both} {
		isCode[string](t, "a long text", impl.ErrRange)(impl.RunScript(exampleSetup(), text))
		for _, v := range wrongSetups() {
			isCode[string](t, "a long text and a wrong setup", impl.ErrInvalid)(impl.RunScript(v, text))
		}
	}
}

// TestErrorsHaveNothingElse: all that FinishDeeds has found is left out if it fails.
func TestErrorsHaveNothingElse(t *testing.T) {
	v := exampleSetup()
	for n := 288; n <= 300; n++ {
		deeds := slices.Concat(deedsIn("write 0, write 1"), repeated(n-2, "save 0"))
		plan, code := impl.FinishDeeds(v, deeds)
		if n <= 290 {
			same(t, "code", code, impl.OK)
			same(t, "deeds", len(plan), 10)
			continue
		}
		isNone[impl.Deed](t, numbered("deeds before", n), impl.ErrLimit)(plan, code)
	}
}
