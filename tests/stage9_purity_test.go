package tests

import (
	"reflect"
	"slices"
	"strings"
	"sync"
	"testing"

	"loop.example/g01174/impl"
)

// doing is a call of a function of chapter 9.
type doing struct {
	name      string
	function  any
	arguments []any
}

// text returns the text of what the call returns.
func (d doing) text() string {
	var given []reflect.Value
	for i, a := range d.arguments {
		if a == nil {
			given = append(given, reflect.Zero(reflect.TypeOf(d.function).In(i)))
			continue
		}
		given = append(given, reflect.ValueOf(a))
	}
	return textOf(reflect.ValueOf(d.function).Call(given))
}

// doingsOf returns calls of all functions that take a setup and deeds.
func doingsOf(name string, v impl.Setup, deeds []impl.Deed) []doing {
	text := strings.ReplaceAll(story(slices.DeleteFunc(slices.Clone(deeds), func(d impl.Deed) bool { return !plainDeed(d) })), ", ", "\nmap 0\nhead 1\n")
	return []doing{
		{"ValidSetup" + name, impl.ValidSetup, []any{v}},
		{"GroupAfter" + name, impl.GroupAfter, []any{v, deeds}},
		{"RefusedDeed" + name, impl.RefusedDeed, []any{v, deeds}},
		{"MapAt" + name, impl.MapAt, []any{v, deeds, int64(0)}},
		{"MapAt of another one" + name, impl.MapAt, []any{v, deeds, int64(1)}},
		{"MapAt of none" + name, impl.MapAt, []any{v, deeds, int64(-1)}},
		{"AreJoined" + name, impl.AreJoined, []any{v, deeds}},
		{"FinishDeeds" + name, impl.FinishDeeds, []any{v, deeds}},
		{"RunScript" + name, impl.RunScript, []any{v, text + "\njoined\n"}},
	}
}

// pureDoings returns calls of all functions, some with wrong arguments.
func pureDoings() []doing {
	v := setup(3, put(0, "x", "1"), put(1, "y", "2"), put(2, "x", "3"), gone(2, "x"), put(0, "z", ""), put(1, "y", "4"))
	var all []doing
	for i, text := range []string{
		"",
		"write 0, write 1",
		"write 0, write 4, save 0, send 0 1 0, copy 0, send 0 2 1, copy 0, save 1, merge 1 0, write 1",
		"write 0, write 1, write 2, send 0 1 0, deliver 0, merge 1 1, send 1 2 2, copy 0, send 1 2 1, copy 1, save 1, save 2, crash 0",
		"write 0, save 0, write 4, crash 0, crash 0, write 4, send 0 1 0, send 0 1 1, deliver 0, deliver 0, merge 1 1, save 1",
		"write 3, write 9, send 0 0 0, deliver 0, merge 3 0, crash 9, write 0, write 0",
		"write 0, " + times(13, "send 0 1 0"),
		times(30, "write 1, write 5"),
		times(150, "save 0, crash 1"),
		times(301, "save 0"),
	} {
		all = append(all, doingsOf(numbered(" of the story", i), v, deedsIn(text))...)
	}
	wrong := append(deedsIn("write 0, send 0 1 0"), impl.Deed{Kind: impl.DdSave, B: 1})
	all = append(all, doingsOf(" of a wrong deed", v, wrong)...)
	all = append(all, doingsOf(" of no deeds", setup(1), nil)...)
	for i, w := range wrongSetups()[:12] {
		all = append(all, doingsOf(numbered(" of a wrong setup", i), w, deedsIn("write 0"))...)
	}
	for _, d := range []impl.Deed{{}, {Kind: impl.DdSend, A: 1, B: 2, C: 999}, {Kind: impl.DdSave, B: 1}, {Kind: 9}} {
		all = append(all, doing{"ValidDeed", impl.ValidDeed, []any{d}}, doing{"DeedText", impl.DeedText, []any{d}})
	}
	for _, text := range []string{"", "write 0", "send 1 2 3", "send 1 2", "crash 01"} {
		all = append(all, doing{"ReadDeed", impl.ReadDeed, []any{text}})
	}
	maps := append(waysToHold(), countedMap(5), countedMap(impl.MaxEntries), otherCountedMap("m", 30), slices.Concat(entries("n00", "x"), countedMap(3)[1:]), wrongMaps()[0])
	for i, base := range maps {
		for k, ours := range maps {
			for n, theirs := range maps {
				all = append(all, doing{numbered("JoinMaps", i, k, n), impl.JoinMaps, []any{base, ours, theirs}})
			}
		}
	}
	return all
}

func TestReplicasAreApart(t *testing.T) {
	for _, d := range pureDoings() {
		checkPure(t, d.name, d.function, d.arguments...)
	}
}

func TestEqualDeedsGiveEqualResults(t *testing.T) {
	for i, d := range pureDoings() {
		want := d.text()
		for range map[bool]int{true: 12, false: 2}[i < 120] {
			same(t, d.name, d.text(), want)
		}
	}
}

// TestReplicasAtOnce calls all functions with the same arguments at once.
func TestReplicasAtOnce(t *testing.T) {
	doings := pureDoings()[:120]
	texts := make([][]string, 4)
	var group sync.WaitGroup
	for i := range texts {
		group.Go(func() {
			for _, d := range doings {
				texts[i] = append(texts[i], d.text())
			}
		})
	}
	group.Wait()
	for i, d := range doings {
		for _, own := range texts {
			same(t, d.name+" at once", own[i], d.text())
		}
	}
}

// TestPartsOfGroupsAreApart: one commit is in books of several replicas, in what they have saved, and on the wire, and each
// time with memory of its own.
func TestPartsOfGroupsAreApart(t *testing.T) {
	v := setup(2, put(0, "x", "1"), put(0, "y", "2"))
	text := "write 0, write 1, save 0, send 0 1 0, send 0 1 1, copy 0, copy 1, merge 1 1, save 1, send 0 1 1, send 1 0 1"
	deeds := deedsIn(text)
	g := behind(t, v, text)
	lists := [][]impl.Entry{}
	parents := [][]impl.Key{}
	for _, at := range slices.Concat(g.Replicas, g.Saved) {
		same(t, "commits", len(at.Book.Commits), 2)
		lists = append(lists, at.Book.Maps...)
		for _, c := range at.Book.Commits {
			parents = append(parents, c.Parents)
		}
	}
	for _, p := range g.Wire {
		lists = append(lists, p.Map)
		parents = append(parents, p.Commit.Parents)
	}
	same(t, "maps", len(lists), 12)
	for i, list := range lists {
		overwrite(list, impl.Entry{Name: numbered("own", i)})
	}
	for i, keys := range parents {
		overwrite(keys, impl.Key{byte(i + 1)})
	}
	for i, list := range lists {
		same(t, "a map of its own", list[0].Name, numbered("own", i))
	}
	for i, keys := range parents {
		same(t, "parents of their own", len(keys) == 0 || keys[0] == impl.Key{byte(i + 1)}, true)
	}
	sameGroup(t, "a second time", groupAfter(t, text, v, deeds, len(deeds)), begin(v).after(deeds).group())
}

// after returns a group behind deeds.
func (g *plainGroup) after(deeds []impl.Deed) *plainGroup {
	for _, d := range deeds {
		g.do(d)
	}
	return g
}

// TestOneMapInSeveralPlacesIsJoined shows that the same memory may be in several places of arguments.
func TestOneMapInSeveralPlacesIsJoined(t *testing.T) {
	list := countedMap(3)
	got, code := impl.JoinMaps(list, list, list)
	isMap(t, "JoinMaps", list)(got, code)
	overwrite(list, impl.Entry{})
	sameList(t, "behind another argument", got, countedMap(3))
	deeds := deedsIn("write 0, save 0, save 1")
	v := exampleSetup()
	plan, code := impl.FinishDeeds(v, deeds[:1])
	same(t, "code", code, impl.OK)
	again, code := impl.FinishDeeds(v, append(deeds[:1:1], plan...))
	same(t, "code", code, impl.OK)
	overwrite(plan, impl.Deed{})
	same(t, "behind another plan", story(again), "save 0, save 1")
	same(t, "the deeds", story(deeds), "write 0, save 0, save 1")
}

func TestLargeArgumentsOfReplicasReturn(t *testing.T) {
	long := strings.Repeat("n", 900000)
	v := exampleSetup()
	many := slices.Repeat(deedsIn("write 0"), 200000)
	same(t, "many edits", impl.ValidSetup(setup(1, make([]impl.Edit, 100000)...)), false)
	same(t, "a long name", impl.ValidSetup(setup(1, put(0, long, ""))), false)
	same(t, "a long value", impl.ValidSetup(setup(1, put(0, "n", long))), false)
	for _, text := range []string{long, "write " + long, "write " + strings.Repeat("1", 900000), strings.Repeat(" ", 900000), strings.Repeat("write 0 ", 100000), "send " + strings.Repeat("0 ", 400000), strings.Repeat("\n", 900000)} {
		isNoDeed(t, text)
		isCode[string](t, "RunScript", impl.ErrRange)(impl.RunScript(v, text))
	}
	isNoGroup(t, "many deeds", impl.ErrRange)(impl.GroupAfter(v, many))
	isNoRefusedDeed(t, "many deeds", impl.ErrRange)(impl.RefusedDeed(v, many))
	isNone[impl.Entry](t, "MapAt", impl.ErrRange)(impl.MapAt(v, many, 0))
	isRefused(t, "AreJoined", impl.ErrRange)(impl.AreJoined(v, many))
	isNone[impl.Deed](t, "FinishDeeds", impl.ErrRange)(impl.FinishDeeds(v, many))
	isNone[impl.Deed](t, "a wrong one of many", impl.ErrInvalid)(impl.FinishDeeds(v, append(many, impl.Deed{})))
	isNone[impl.Entry](t, "JoinMaps", impl.ErrInvalid)(impl.JoinMaps(make([]impl.Entry, 300000), nil, nil))
	isNone[impl.Entry](t, "JoinMaps of a long name", impl.ErrInvalid)(impl.JoinMaps(nil, entries(long, ""), nil))
}
