package tests

import (
	"math/rand/v2"
	"slices"
	"strings"
	"testing"

	"loop.example/g01174/impl"
)

// exampleSetup is that of the example at the end of chapter 9.
func exampleSetup() impl.Setup {
	return setup(2, put(0, "x", "1"), put(1, "y", "2"))
}

func TestExampleOfReplicas(t *testing.T) {
	v, deeds := exampleSetup(), deedsIn("write 0, write 1")
	plan := checkFinish(t, "example", v, deeds, checkDeeds(t, "example", v, deeds), 2)
	same(t, "FinishDeeds", story(plan), "send 1 0 0, deliver 0, merge 0 1, send 0 1 0, deliver 0, send 0 1 2, deliver 0, merge 1 2, save 0, save 1")
	for r := range int64(2) {
		isMap(t, "MapAt", entries("x", "1", "y", "2"))(impl.MapAt(v, slices.Concat(deeds, plan), r))
	}
}

// finishOf returns the planned deeds behind a story as texts.
func finishOf(t *testing.T, v impl.Setup, text string) string {
	t.Helper()
	deeds := deedsIn(text)
	g := checkDeeds(t, text, v, deeds)
	done := 0
	for again, i := begin(v), 0; i < len(deeds); i++ {
		if again.do(deeds[i]) == impl.OK {
			done++
		}
	}
	return story(checkFinish(t, text, v, deeds, g, done))
}

func TestPlannedDeeds(t *testing.T) {
	v := setup(3, put(0, "x", "1"), put(1, "y", "2"), put(2, "x", "3"), put(1, "z", "4"))
	for before, want := range map[string]string{
		"":                            "save 0, save 1, save 2",
		"save 1, crash 1, save 0":     "save 0, save 1, save 2",
		"write 0":                     "send 0 1 0, deliver 0, merge 1 0, send 0 2 0, deliver 0, merge 2 0, save 0, save 1, save 2",
		"write 1":                     "send 1 0 0, deliver 0, merge 0 0, send 0 2 0, deliver 0, merge 2 0, save 0, save 1, save 2",
		"write 2":                     "send 2 0 0, deliver 0, merge 0 0, send 0 1 0, deliver 0, merge 1 0, save 0, save 1, save 2",
		"write 1, crash 1":            "save 0, save 1, save 2",
		"write 0, write 0, write 399": "send 0 1 0, deliver 0, merge 1 0, send 0 2 0, deliver 0, merge 2 0, save 0, save 1, save 2",
		"write 0, send 0 1 0":         "drop 0, send 0 1 0, deliver 0, merge 1 0, send 0 2 0, deliver 0, merge 2 0, save 0, save 1, save 2",
		"write 0, send 0 1 0, copy 0, send 0 2 0": "drop 0, drop 0, merge 1 0, send 0 2 0, deliver 0, merge 2 0, save 0, save 1, save 2",
		// commits are there, but no head: nobody wants them, but they are carried to all
		"write 0, send 0 1 0, deliver 0, crash 0": "send 1 0 0, deliver 0, send 0 2 0, deliver 0, save 0, save 1, save 2",
		"write 1, write 3":                        "send 1 0 0, deliver 0, send 1 0 1, deliver 0, merge 0 1, send 0 2 0, deliver 0, send 0 2 1, deliver 0, merge 2 1, save 0, save 1, save 2",
		"write 1, send 1 0 0, deliver 0":          "merge 0 0, send 0 2 0, deliver 0, merge 2 0, save 0, save 1, save 2",
		"write 1, send 1 0 0, deliver 0, write 3": "send 1 0 1, deliver 0, merge 0 1, send 0 2 0, deliver 0, send 0 2 1, deliver 0, merge 2 1, save 0, save 1, save 2",
		// the replica 1 is behind the replica 2, which is behind it in the plan, too
		"write 1, send 1 2 0, deliver 0, merge 2 0, write 2": "send 1 0 0, deliver 0, send 2 0 1, deliver 0, merge 0 0, merge 0 1, send 0 1 1, deliver 0, merge 1 1, save 0, save 1, save 2",
		"write 0, write 1, write 2": "send 1 0 0, deliver 0, send 2 0 0, deliver 0, merge 0 1, merge 0 2, " +
			"send 0 1 0, deliver 0, send 0 1 2, deliver 0, send 0 1 3, deliver 0, send 0 1 4, deliver 0, merge 1 4, " +
			"send 0 2 0, deliver 0, send 0 2 1, deliver 0, send 0 2 3, deliver 0, send 0 2 4, deliver 0, merge 2 4, save 0, save 1, save 2",
	} {
		same(t, "FinishDeeds behind "+before, finishOf(t, v, before), want)
	}
	one := setup(1, put(0, "x", "1"))
	same(t, "one replica", finishOf(t, one, ""), "save 0")
	same(t, "one replica with commits", finishOf(t, one, "write 0, send 0 0 0, save 0, crash 0, save 1"), "save 0")
	two := setup(2, put(0, "x", "1"))
	same(t, "a full wire", finishOf(t, two, "write 0, "+times(12, "send 0 1 0")), times(12, "drop 0")+", send 0 1 0, deliver 0, merge 1 0, save 0, save 1")
}

// TestPlansBehindPlans: when the planned deeds are done, there is nothing left but to save.
func TestPlansBehindPlans(t *testing.T) {
	v := setup(3, put(0, "x", "1"), put(1, "y", "2"), put(2, "x", "3"), put(1, "z", "4"), gone(0, "x"))
	for _, before := range []string{"", "write 0", "write 1, write 2", "write 0, write 1, write 2, write 3, send 1 2 0, copy 0", "write 2, send 2 0 0, deliver 0, merge 0 0, write 4"} {
		plan := finishOf(t, v, before)
		whole := plan
		if before != "" {
			whole = before + ", " + plan
		}
		same(t, "FinishDeeds behind those of "+before, finishOf(t, v, whole), "save 0, save 1, save 2")
		// a crash loses nothing, as all has been saved
		same(t, "FinishDeeds behind crashes behind those of "+before, finishOf(t, v, whole+", crash 0, crash 1, crash 2"), "save 0, save 1, save 2")
	}
}

// walkDeeds checks all lists of deeds of an alphabet that are done, behind some deeds, and those of each of them behind
// which one more is left out. It returns how many lists it has checked.
func walkDeeds(t *testing.T, v impl.Setup, alphabet, before []impl.Deed, g *plainGroup, depth int) int {
	t.Helper()
	name := story(before)
	checkDeeds(t, name, v, before)
	checkFinish(t, name, v, before, g, len(before))
	count := 1
	if depth == 0 {
		return count
	}
	for _, d := range alphabet {
		next := g.clone()
		all := slices.Concat(before, []impl.Deed{d})
		if code := next.do(d); code != impl.OK {
			isRefusedDeed(t, story(all), len(before), code)(impl.RefusedDeed(v, all))
			continue
		}
		count += walkDeeds(t, v, alphabet, all, next, depth-1)
	}
	return count
}

// walkFrom does the same behind a story.
func walkFrom(t *testing.T, v impl.Setup, alphabet, before string, depth int) int {
	t.Helper()
	g := begin(v)
	for _, d := range deedsIn(before) {
		same(t, "a deed of "+before, g.do(d), impl.OK)
	}
	return walkDeeds(t, v, deedsIn(alphabet), deedsIn(before), g, depth)
}

func TestAllShortListsOfOneReplica(t *testing.T) {
	v := setup(1, put(0, "x", "1"), put(0, "x", "2"), gone(0, "x"))
	count := walkFrom(t, v, "write 0, write 1, write 2, send 0 0 0, deliver 0, merge 0 0, merge 0 1, save 0, crash 0, save 1", "", 5)
	same(t, "many lists are tried", count > 800, true)
}

func TestAllShortListsOfTwoReplicas(t *testing.T) {
	v := setup(2, put(0, "x", "1"), put(1, "x", "2"), gone(1, "x"), put(0, "y", "1"))
	alphabet := "write 0, write 1, write 2, write 3, send 0 1 0, send 1 0 0, send 0 1 1, deliver 0, copy 0, drop 0, deliver 1, merge 0 0, merge 0 1, merge 1 0, merge 1 1, save 0, save 1, crash 0, crash 1"
	count := walkFrom(t, v, alphabet, "", 5)
	sent := "write 0, write 1, send 0 1 0, send 1 0 0"
	count += walkFrom(t, v, alphabet, sent, 3)
	count += walkFrom(t, v, alphabet+", merge 0 2, merge 1 2, send 1 0 2, send 0 1 2", sent+", deliver 0, deliver 0, merge 0 1", 3)
	count += walkFrom(t, v, alphabet, "write 0, save 0, write 3, send 0 1 0, send 0 1 1, crash 0", 3)
	same(t, "many lists are tried", count > 30000, true)
}

func TestAllShortListsOfThreeReplicas(t *testing.T) {
	v := setup(3, put(0, "x", "1"), put(1, "x", "2"), put(2, "y", "1"), gone(2, "x"))
	alphabet := "write 0, write 1, write 2, write 3, send 0 1 0, send 1 2 0, send 2 0 0, send 0 2 0, deliver 0, copy 0, drop 0, deliver 1, merge 0 1, merge 1 0, merge 1 1, merge 2 1, merge 2 0, save 2, crash 0, crash 2"
	count := walkFrom(t, v, alphabet, "", 4)
	count += walkFrom(t, v, alphabet, "write 0, write 1, write 2, send 0 1 0, send 1 2 0, send 2 0 0", 3)
	count += walkFrom(t, v, alphabet+", send 1 2 2, merge 2 2, merge 2 3, deliver 2", "write 0, write 1, write 2, send 0 1 0, deliver 0, merge 1 1, send 1 2 0, send 1 2 1", 3)
	same(t, "many lists are tried", count > 5000, true)
}

// someEdits returns edits that look random, of few names and values.
func someEdits(r *rand.Rand, replicas int64) []impl.Edit {
	var edits []impl.Edit
	for range r.IntN(impl.MaxEdits + 1) {
		at, name := r.Int64N(replicas), string(rune('x'+r.IntN(3)))
		if r.IntN(4) == 0 {
			edits = append(edits, gone(at, name))
		} else {
			edits = append(edits, put(at, name, string(fewBytes(r, r.IntN(3)))))
		}
	}
	return edits
}

// someDeed returns a deed that looks random and may be done behind others, or nearly.
func someDeed(r *rand.Rand, g *plainGroup) impl.Deed {
	n := int64(len(g.replicas))
	at := func(limit int) int64 { return r.Int64N(int64(max(limit, 1)) + r.Int64N(12)/11) }
	from := r.Int64N(n)
	commits := len(g.replicas[from].keys)
	switch kind := r.IntN(20); {
	case kind < 5:
		return impl.Deed{Kind: impl.DdWrite, A: at(len(g.edits))}
	case kind < 10:
		return impl.Deed{Kind: impl.DdSend, A: from, B: (from + 1 + r.Int64N(n)) % n, C: at(commits)}
	case kind < 13:
		return impl.Deed{Kind: impl.DdDeliver, A: at(len(g.wire))}
	case kind < 14:
		return impl.Deed{Kind: impl.DdCopy, A: at(len(g.wire))}
	case kind < 15:
		return impl.Deed{Kind: impl.DdDrop, A: at(len(g.wire))}
	case kind < 18:
		return impl.Deed{Kind: impl.DdMerge, A: from, B: at(commits)}
	case kind < 19:
		return impl.Deed{Kind: impl.DdSave, A: at(int(n))}
	}
	return impl.Deed{Kind: impl.DdCrash, A: at(int(n))}
}

// someDeeds returns deeds that look random, the group after them, and how many of them are done.
func someDeeds(r *rand.Rand, v impl.Setup, n int) ([]impl.Deed, *plainGroup, int) {
	g, done := begin(v), 0
	var deeds []impl.Deed
	for range n {
		d := someDeed(r, g)
		deeds = append(deeds, d)
		if g.do(d) == impl.OK {
			done++
		}
	}
	return deeds, g, done
}

func TestAnyDeeds(t *testing.T) {
	r := chance(921)
	planned, merged := 0, 0
	for i := range 240 {
		v := setup(1+int64(i)%3, someEdits(r, 1+int64(i)%3)...)
		deeds, g, done := someDeeds(r, v, r.IntN(120))
		name := numbered("deeds", i)
		checkDeeds(t, name, v, deeds)
		plan := checkFinish(t, name, v, deeds, g, done)
		if len(plan) > 0 {
			planned++
		}
		if strings.Contains(story(plan), "merge") {
			merged++
		}
	}
	same(t, "many lists are planned for", planned > 200, true)
	same(t, "many of these are merged", merged > 80, true)
}

// TestManyDeeds: books get full, so that there are plans that fail.
func TestManyDeeds(t *testing.T) {
	r := chance(922)
	failed := 0
	for i := range 24 {
		v := setup(3, put(0, "x", "1"), put(0, "x", "2"), put(1, "x", "3"), put(1, "y", "1"), gone(1, "y"), put(2, "y", "2"), gone(2, "x"), put(2, "x", ""))
		deeds, g, done := someDeeds(r, v, 120+r.IntN(181))
		name := numbered("many deeds", i)
		checkDeeds(t, name, v, deeds)
		if plan := checkFinish(t, name, v, deeds, g, done); plan == nil {
			failed++
		}
	}
	same(t, "some plans fail", failed > 2 && failed < 22, true)
}

// TestTwiceIsOnce: a parcel that comes in twice does what it does once.
func TestTwiceIsOnce(t *testing.T) {
	r := chance(923)
	for i := range 60 {
		v := setup(3, someEdits(r, 3)...)
		deeds, g, _ := someDeeds(r, v, 60)
		var twice []impl.Deed
		for _, d := range deeds {
			if d.Kind == impl.DdDeliver {
				twice = append(twice, impl.Deed{Kind: impl.DdCopy, A: d.A})
			}
			twice = append(twice, d)
			if d.Kind == impl.DdCopy {
				twice = append(twice, d)
			}
		}
		after, _, code := impl.GroupAfter(v, twice)
		same(t, "code", code, impl.OK)
		sameGroup(t, numbered("twice", i), after, g.group())
	}
}

// TestDeedsThatAreLeftOutDoNothing compares deeds with those of them that are done.
func TestDeedsThatAreLeftOutDoNothing(t *testing.T) {
	r := chance(924)
	for i := range 60 {
		v := setup(2, someEdits(r, 2)...)
		deeds, _, done := someDeeds(r, v, 60)
		g := begin(v)
		rest := slices.DeleteFunc(slices.Clone(deeds), func(d impl.Deed) bool { return g.do(d) != impl.OK })
		name := numbered("deeds", i)
		same(t, name+": done", len(rest), done)
		isNoRefusedDeed(t, name, impl.ErrNotFound)(impl.RefusedDeed(v, rest))
		sameGroup(t, name, groupAfter(t, name, v, rest, done), groupAfter(t, name, v, deeds, done))
		one, _ := impl.FinishDeeds(v, rest)
		two, _ := impl.FinishDeeds(v, deeds)
		same(t, name+": FinishDeeds", story(one), story(two))
	}
}

func TestRefusedDeeds(t *testing.T) {
	v := exampleSetup()
	isNoRefusedDeed(t, "no deeds", impl.ErrNotFound)(impl.RefusedDeed(v, nil))
	isNoRefusedDeed(t, "all are done", impl.ErrNotFound)(impl.RefusedDeed(v, deedsIn("write 0, write 1, save 0, crash 1")))
	isRefusedDeed(t, "the first one", 0, impl.ErrRange)(impl.RefusedDeed(v, deedsIn("write 2, write 0, write 0")))
	isRefusedDeed(t, "the second one", 1, impl.ErrState)(impl.RefusedDeed(v, deedsIn("write 0, write 0, write 2")))
	isRefusedDeed(t, "the last one", 3, impl.ErrRange)(impl.RefusedDeed(v, deedsIn("write 0, write 1, save 1, deliver 0")))
	isRefusedDeed(t, "the thirteenth parcel", 13, impl.ErrLimit)(impl.RefusedDeed(v, deedsIn("write 0, "+times(14, "send 0 1 0"))))
}

func TestJoinedHeads(t *testing.T) {
	v := setup(3, put(0, "x", "1"), put(1, "x", "1"), put(1, "y", "1"))
	for text, want := range map[string]bool{
		"":                            true,
		"write 0":                     false,
		"write 0, crash 0":            true,
		"write 0, write 1":            false,
		"write 1":                     false,
		"write 0, send 0 1 0, copy 0": false,
		"write 0, send 0 1 0, send 0 2 0, deliver 0, deliver 0, merge 1 0":                                         false,
		"write 0, send 0 1 0, send 0 2 0, deliver 0, deliver 0, merge 1 0, merge 2 0":                              true,
		"write 0, send 0 1 0, send 0 2 0, deliver 0, deliver 0, merge 1 0, merge 2 0, write 2":                     false,
		"write 0, save 0, send 0 1 0, send 0 2 0, deliver 0, deliver 0, merge 1 0, merge 2 0, crash 0":             true,
		"write 0, save 0, send 0 1 0, send 0 2 0, deliver 0, deliver 0, merge 1 0, merge 2 0, crash 1":             false,
		"write 0, send 0 1 0, send 0 2 0, deliver 0, deliver 0, merge 1 0, merge 2 0, crash 0, crash 1, crash 2":   true,
		"write 0, send 0 1 0, send 0 2 0, deliver 0, deliver 0, merge 1 0, merge 2 0, crash 0, crash 2":            false,
		"write 0, send 0 1 0, send 0 2 0, deliver 0, deliver 0, merge 1 0, merge 2 0, write 2, send 1 0 1, copy 0": false,
	} {
		isTold(t, "AreJoined behind "+text, want)(impl.AreJoined(v, deedsIn(text)))
	}
	isTold(t, "one replica", true)(impl.AreJoined(setup(1, put(0, "x", "1")), deedsIn("write 0")))
	// equal maps are no equal heads
	isTold(t, "equal maps", false)(impl.AreJoined(setup(2, put(0, "x", "1"), put(1, "x", "1")), deedsIn("write 0, write 1")))
}

func TestMapsOfHeads(t *testing.T) {
	v := setup(2, put(0, "x", "1"), put(1, "y", "2"), gone(0, "x"))
	isMap(t, "no head", nil)(impl.MapAt(v, nil, 0))
	isMap(t, "one entry", entries("x", "1"))(impl.MapAt(v, deedsIn("write 0"), 0))
	isMap(t, "the other one", nil)(impl.MapAt(v, deedsIn("write 0"), 1))
	isMap(t, "the other one's own", entries("y", "2"))(impl.MapAt(v, deedsIn("write 0, write 1"), 1))
	isMap(t, "a deed that is left out", entries("x", "1"))(impl.MapAt(v, deedsIn("write 2, write 0, write 0, write 3"), 0))
	isMap(t, "nothing left", nil)(impl.MapAt(v, deedsIn("write 0, write 2"), 0))
	for n := range int64(3) {
		for _, replica := range append(farNumbers(), -1, n+1, n+2, 256, 1<<32) {
			if replica < 0 || replica > n {
				isNone[impl.Entry](t, numbered("MapAt of the replica", int(replica)), impl.ErrRange)(impl.MapAt(setup(n+1), nil, replica))
			}
		}
		isMap(t, "the last one", nil)(impl.MapAt(setup(n+1), nil, n))
	}
}

// repeated returns n deeds, which are those of a story over and over.
func repeated(n int, text string) []impl.Deed {
	deeds := deedsIn(text)
	return slices.Repeat(deeds, n/len(deeds)+1)[:n]
}

func TestNumbersOfDeeds(t *testing.T) {
	v := setup(3, put(0, "x", "1"))
	for _, text := range []string{"save 0", "write 0", "write 5", "write 0, crash 0", "crash 2, write 9, drop 3"} {
		deeds := repeated(impl.MaxDeeds, text)
		checkDeeds(t, "as many deeds as may be", v, deeds)
		isNone[impl.Deed](t, "no room for a plan", impl.ErrLimit)(impl.FinishDeeds(v, deeds))
		for _, n := range []int{impl.MaxDeeds + 1, impl.MaxDeeds + 2, 2 * impl.MaxDeeds, 100000} {
			many := repeated(n, text)
			isNoGroup(t, "too many deeds", impl.ErrRange)(impl.GroupAfter(v, many))
			isNoRefusedDeed(t, "too many deeds", impl.ErrRange)(impl.RefusedDeed(v, many))
			isNone[impl.Entry](t, "MapAt behind too many deeds", impl.ErrRange)(impl.MapAt(v, many, 0))
			isRefused(t, "AreJoined behind too many deeds", impl.ErrRange)(impl.AreJoined(v, many))
			isNone[impl.Deed](t, "FinishDeeds behind too many deeds", impl.ErrRange)(impl.FinishDeeds(v, many))
		}
	}
}

// TestPlansHaveRoom: there may be as many planned deeds as make MaxDeeds with those before, whether these are done or not.
func TestPlansHaveRoom(t *testing.T) {
	for _, try := range []struct {
		v     impl.Setup
		first string
		fill  string
		plan  int
	}{
		{setup(1), "", "write 0", 1},
		{setup(2), "", "deliver 0", 2},
		{setup(3), "", "crash 0", 3},
		{setup(3), "", "save 3", 3},
		{exampleSetup(), "write 0, write 1", "save 0", 10},
		{exampleSetup(), "write 0, write 1", "write 0", 10},
		{exampleSetup(), "write 0, send 0 1 0", "copy 0", 4},
		{exampleSetup(), "write 0, " + times(12, "send 0 1 0"), "send 0 1 0", 17},
	} {
		for n := impl.MaxDeeds - try.plan - 2; n <= impl.MaxDeeds; n++ {
			deeds := deedsIn(try.first)
			deeds = append(deeds, repeated(n-len(deeds), try.fill)...)
			name := numbered(try.first+", "+try.fill, n)
			g := begin(try.v)
			done := len(slices.DeleteFunc(slices.Clone(deeds), func(d impl.Deed) bool { return g.do(d) != impl.OK }))
			plan := checkFinish(t, name, try.v, deeds, g, done)
			same(t, name+": there is a plan", len(plan) > 0, n+len(plan) <= impl.MaxDeeds && n <= impl.MaxDeeds-try.plan)
		}
	}
}

// TestPlansInFullBooks: there is no plan where a merge finds no room, or a head does not come in.
func TestPlansInFullBooks(t *testing.T) {
	v := setup(2, put(0, "x", "1"), put(0, "x", "2"), put(1, "y", "1"), put(1, "y", "2"))
	for n, want := range map[int]int64{37: impl.OK, 38: impl.OK, 39: impl.ErrLimit, 40: impl.ErrLimit} {
		deeds := append(repeated(n, "write 0, write 1"), deedsIn("write 2")...)
		name := numbered("commits of the replica 0", n)
		plan := checkFinish(t, name, v, deeds, checkDeeds(t, name, v, deeds), n+1)
		same(t, name, plan != nil, want == impl.OK)
		_, code := impl.FinishDeeds(v, deeds)
		same(t, name+": code", code, want)
		deeds = append(repeated(n, "write 2, write 3"), deedsIn("write 0")...)
		name = numbered("commits of the replica 1", n)
		plan = checkFinish(t, name, v, deeds, checkDeeds(t, name, v, deeds), n+1)
		same(t, name, plan != nil, want == impl.OK)
	}
	// the head of the replica 0 is an ancestor of that of the replica 1, so that nothing has to be committed
	taken := "write 0, " + carried("0", "1", 0) + ", merge 1 0, " + times(19, "write 2, write 3") + ", write 2"
	same(t, "a full book is taken", strings.Contains(finishOf(t, v, taken), "merge 0 39"), true)
	same(t, "a full book is given", strings.Contains(finishOf(t, v, times(20, "write 0, write 1")), "merge 1 39"), true)
}

// junk returns the story in which the replica 2 writes n commits, which come to another replica, and then crashes.
func junk(to string, n int) string {
	var texts []string
	for i := range n {
		texts = append(texts, numbered("write", 2+i%2)+numbered(", send 2 "+to, i)+", deliver 0")
	}
	return strings.Join(texts, ", ") + ", crash 2"
}

// TestPlansWhereBooksAreFullOfOthers: a book is full of commits of the replica 2 which nobody needs, so that a head that
// is wanted there does not come in.
func TestPlansWhereBooksAreFullOfOthers(t *testing.T) {
	v := setup(3, put(0, "x", "1"), put(1, "y", "1"), put(2, "z", "1"), put(2, "z", "2"))
	for _, try := range []struct {
		name    string
		before  string
		to      string
		commits int
		most    int
	}{
		{"the head behind that of the replica 1", "write 1, " + carried("1", "0", 0) + ", merge 0 0, write 0, ", "1", 1, 38},
		{"a head where the replica 1 has none", "write 0, ", "1", 0, 39},
		{"a head where the replica 0 has none", "write 1, ", "0", 0, 39},
	} {
		for n := try.most - 1; n <= impl.MaxCommits-try.commits; n++ {
			text := try.before + junk(try.to, n)
			name := numbered(try.name, n)
			at := behind(t, v, text).Replicas[map[string]int{"0": 0, "1": 1}[try.to]]
			same(t, name+": commits", len(at.Book.Commits), n+try.commits)
			finishOf(t, v, text)
			_, code := impl.FinishDeeds(v, deedsIn(text))
			same(t, name+": there is a plan", code == impl.OK, n <= try.most)
		}
	}
}

// TestPlansOfManyCommits: the deeds that carry commits are many.
func TestPlansOfManyCommits(t *testing.T) {
	v := setup(3, put(1, "x", "1"), put(1, "x", "2"), put(2, "y", "1"))
	for n := 20; n <= impl.MaxCommits; n++ {
		deeds := repeated(n, "write 0, write 1")
		name := numbered("commits", n)
		plan := checkFinish(t, name, v, deeds, checkDeeds(t, name, v, deeds), n)
		same(t, name+": deeds", len(plan), 2*n+1+2*n+1+3)
	}
}
