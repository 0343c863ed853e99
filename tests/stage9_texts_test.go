package tests

import (
	"math"
	"slices"
	"strings"
	"testing"

	"loop.example/g01174/impl"
)

// plainDeed is ValidDeed as the document tells it.
func plainDeed(d impl.Deed) bool {
	if d.Kind < 1 || d.Kind > 8 {
		return false
	}
	for i, n := range []int64{d.A, d.B, d.C} {
		if n < 0 || n > 999 || i >= mentioned[d.Kind] && n != 0 {
			return false
		}
	}
	return true
}

// numbersTried returns numbers that deeds may have, and others.
func numbersTried() []int64 {
	return []int64{-1000, -999, -1, 0, 1, 2, 9, 10, 11, 99, 100, 101, 998, 999, 1000, 1001, 1 << 32, 1<<32 + 1, 1<<32 + 5, math.MaxInt64, math.MinInt64}
}

// deedsTried returns deeds of all kinds with several numbers, many of them not valid.
func deedsTried() []impl.Deed {
	var deeds []impl.Deed
	for _, kind := range append(numbersTried(), 3, 4, 5, 6, 7, 8) {
		for _, a := range numbersTried() {
			for _, b := range []int64{0, 1, 12, 999, 1000, -1, math.MinInt64} {
				for _, c := range []int64{0, 7, 999, 1000, -1, math.MaxInt64} {
					deeds = append(deeds, impl.Deed{Kind: kind, A: a, B: b, C: c})
				}
			}
		}
	}
	return deeds
}

// isDeed fails the test if ReadDeed does not return a deed and OK.
func isDeed(t *testing.T, text string, want impl.Deed) {
	t.Helper()
	isNumber(t, "ReadDeed of "+text, want)(impl.ReadDeed(text))
}

// isNoDeed fails the test if ReadDeed does not return ErrSyntax and nothing else.
func isNoDeed(t *testing.T, text string) {
	t.Helper()
	isCode[impl.Deed](t, "ReadDeed of "+text[:min(len(text), 40)], impl.ErrSyntax)(impl.ReadDeed(text))
}

func TestConstantsOfReplicas(t *testing.T) {
	sameList(t, "kinds", []int64{impl.DdWrite, impl.DdSend, impl.DdDeliver, impl.DdCopy, impl.DdDrop, impl.DdMerge, impl.DdSave, impl.DdCrash}, []int64{1, 2, 3, 4, 5, 6, 7, 8})
	sameList(t, "limits", []int64{impl.MaxReplicas, impl.MaxEdits, impl.MaxWire, impl.MaxDeeds, impl.MaxScriptText, impl.MaxScriptLines}, []int64{3, 8, 12, 300, 20000, 120})
}

func TestSetupsAreValid(t *testing.T) {
	long := impl.Entry{Name: strings.Repeat("n", impl.MaxName), Value: strings.Repeat("v", impl.MaxValue)}
	for _, v := range []impl.Setup{
		setup(1),
		setup(2),
		setup(impl.MaxReplicas),
		{Replicas: 1, Edits: []impl.Edit{}},
		setup(1, put(0, "x", "")),
		setup(1, gone(0, "x")),
		setup(3, put(2, "x", "1"), put(1, "x", "1"), gone(0, "x"), put(0, "\x00", "\n")),
		setup(2, impl.Edit{Replica: 1, Entry: long}),
		setup(2, impl.Edit{Entry: impl.Entry{Name: long.Name}, Gone: true}),
		setup(1, slices.Repeat([]impl.Edit{put(0, "x", "1")}, impl.MaxEdits)...),
	} {
		same(t, "ValidSetup of "+textOfSetup(v), impl.ValidSetup(v), true)
	}
}

// textOfSetup returns what tells setups apart in messages.
func textOfSetup(v impl.Setup) string {
	text := numbered("replicas", int(v.Replicas)) + numbered(", edits", len(v.Edits))
	for _, e := range v.Edits[:min(len(v.Edits), 3)] {
		text += numbered(", at", int(e.Replica)) + " " + e.Entry.Name[:min(len(e.Entry.Name), 30)]
	}
	return text
}

// wrongEdits returns edits that may not be made, whatever replicas there are, and for fewer replicas than 3.
func wrongEdits() []impl.Edit {
	edits := []impl.Edit{
		put(-1, "x", "1"), put(3, "x", "1"), put(1<<32, "x", "1"), put(math.MinInt64, "x", "1"), gone(-1, "x"), gone(3, "x"),
		{Entry: impl.Entry{Name: "x", Value: "1"}, Gone: true},
		{Entry: impl.Entry{Name: "x", Value: "\x00"}, Gone: true},
		{Gone: true},
		{},
	}
	for _, e := range wrongEntries() {
		edits = append(edits, impl.Edit{Entry: e}, impl.Edit{Entry: e, Gone: true})
	}
	return edits
}

// wrongSetups returns setups that are not valid.
func wrongSetups() []impl.Setup {
	setups := []impl.Setup{{}, setup(-1), setup(impl.MaxReplicas + 1), setup(1 << 32), setup(math.MinInt64), setup(math.MaxInt64), setup(0, put(0, "x", "1"))}
	for _, n := range []int{impl.MaxEdits + 1, 2 * impl.MaxEdits, 256 + 1} {
		setups = append(setups, setup(1, slices.Repeat([]impl.Edit{put(0, "x", "1")}, n)...))
	}
	for _, e := range wrongEdits() {
		setups = append(setups, setup(3, e), setup(3, put(0, "x", "1"), e), setup(3, e, put(0, "x", "1")))
	}
	return append(setups, setup(1, put(1, "x", "1")), setup(2, put(1, "x", "1"), gone(2, "x")))
}

func TestSetupsAreNotValid(t *testing.T) {
	for i, v := range wrongSetups() {
		same(t, numbered("ValidSetup of the wrong setup", i)+": "+textOfSetup(v), impl.ValidSetup(v), false)
	}
}

func TestDeedsAndTheirTexts(t *testing.T) {
	for _, try := range []struct {
		text string
		deed impl.Deed
	}{
		{"write 0", impl.Deed{Kind: impl.DdWrite}},
		{"write 7", impl.Deed{Kind: impl.DdWrite, A: 7}},
		{"write 999", impl.Deed{Kind: impl.DdWrite, A: 999}},
		{"send 0 1 0", impl.Deed{Kind: impl.DdSend, B: 1}},
		{"send 2 0 39", impl.Deed{Kind: impl.DdSend, A: 2, C: 39}},
		{"send 0 0 0", impl.Deed{Kind: impl.DdSend}},
		{"send 999 999 999", impl.Deed{Kind: impl.DdSend, A: 999, B: 999, C: 999}},
		{"deliver 0", impl.Deed{Kind: impl.DdDeliver}},
		{"deliver 11", impl.Deed{Kind: impl.DdDeliver, A: 11}},
		{"copy 10", impl.Deed{Kind: impl.DdCopy, A: 10}},
		{"drop 100", impl.Deed{Kind: impl.DdDrop, A: 100}},
		{"merge 1 20", impl.Deed{Kind: impl.DdMerge, A: 1, B: 20}},
		{"merge 0 0", impl.Deed{Kind: impl.DdMerge}},
		{"save 2", impl.Deed{Kind: impl.DdSave, A: 2}},
		{"crash 101", impl.Deed{Kind: impl.DdCrash, A: 101}},
	} {
		same(t, "DeedText of "+try.text, impl.DeedText(try.deed), try.text)
		same(t, "ValidDeed of "+try.text, impl.ValidDeed(try.deed), true)
		isDeed(t, try.text, try.deed)
	}
}

func TestAnyDeedsAndTheirTexts(t *testing.T) {
	for _, d := range deedsTried() {
		want := ""
		if plainDeed(d) {
			want = plainDeedText(d)
			isDeed(t, want, d)
		}
		same(t, numbered("ValidDeed", int(d.Kind), int(d.A), int(d.B), int(d.C)), impl.ValidDeed(d), want != "")
		same(t, numbered("DeedText", int(d.Kind), int(d.A), int(d.B), int(d.C)), impl.DeedText(d), want)
	}
}

// TestAllNumbersAreRead tries each number of each place of deeds.
func TestAllNumbersAreRead(t *testing.T) {
	for n := range int64(1000) {
		for kind := range int64(9) {
			for place := range mentioned[kind] {
				d := impl.Deed{Kind: kind}
				*[]*int64{&d.A, &d.B, &d.C}[place] = n
				same(t, "DeedText", impl.DeedText(d), plainDeedText(d))
				isDeed(t, plainDeedText(d), d)
			}
		}
	}
}

func TestTextsThatAreNoDeeds(t *testing.T) {
	for _, text := range []string{
		"", " ", "  ", "\n", "\x00", "0", "0 0", " 0", "1 0", "what", "what 0", "map 0", "head 0", "joined", "=", "wri te 0", "write0", "send010",
		"write 0 send 0 1 0", "write 0\nwrite 0", "write 0,write 0", "write 0;", "writ 0", "writes 0", "write\x00 0", "write 0\x00", "write \x000",
		"write -0", "write +0", "write 1e1", "write 0x1", "write 1_0", "write 1.0", "write a", "write \xff", "write \xd9\xa1", "write \xc2\xa01", "write\xc2\xa01",
		"write 18446744073709551616", "write 18446744073709551617", "write 9223372036854775807", "write 9223372036854775808", "write 4294967297", "write -1", "write -999",
		"send 0 1 1000", "send 0 1000 1", "send 1000 0 1", "send 0 -1 0", "send 0 1 -1", "send 0 1 01", "send 0 01 1", "send 0,1,0", "send 0 1\t0", "send 0\n1 0",
		"merge 0 1000", "merge 0 -1", "merge 0 00", "merge 00 0", "merge 1\n1", "merge 1 1\r",
	} {
		isNoDeed(t, text)
	}
}

// TestTextsThatAreNearlyDeeds spoils the text of a deed of each kind.
func TestTextsThatAreNearlyDeeds(t *testing.T) {
	for kind := int64(1); kind <= 8; kind++ {
		d := impl.Deed{Kind: kind}
		for i, place := range []*int64{&d.A, &d.B, &d.C}[:mentioned[kind]] {
			*place = int64(12 + i)
		}
		text := plainDeedText(d)
		isDeed(t, text, d)
		word := words[kind]
		fields := strings.Fields(text)
		fewer := strings.Join(fields[:len(fields)-1], " ")
		for _, wrong := range []string{
			word, word + " ", fewer, fewer + " ", text + " 0", text + " 1", text + " 0 0", text + " 0 0 0", text + " 0 0 0 0",
			" " + text, text + " ", text + "\n", "\n" + text, "\t" + text, text + "\t", text + "\r\n",
			strings.ToUpper(text), strings.ToUpper(text[:1]) + text[1:], text[1:], word[1:], strings.Replace(text, " ", "  ", 1), strings.Replace(text, " ", "\t", 1),
			strings.Replace(text, " ", "", 1), fewer + "  " + fields[len(fields)-1], strings.Replace(text, " ", " 0", 1), strings.Replace(text, " ", " +", 1),
			strings.Replace(text, " ", " -", 1), strings.Replace(text, " 1", " 01", 1), strings.Replace(text, " 12", " 1000", 1), strings.Replace(text, " 12", " -1", 1),
			strings.Replace(text, " 12", " 12a", 1), strings.Replace(text, " 12", " a12", 1), text + "0000", text + text, text + " " + text,
		} {
			isNoDeed(t, wrong)
		}
		for i := range text {
			isNoDeed(t, text[:i]+"\x00"+text[i:])
			isNoDeed(t, text[:i]+"x"+text[i:])
			isNoDeed(t, text[:i]+"\xff"+text[i+1:])
		}
	}
}

// TestOnlyTextsOfDeedsAreRead tries texts that look random: one that is read is the text of what is read.
func TestOnlyTextsOfDeedsAreRead(t *testing.T) {
	r := chance(901)
	parts := append(slices.Clone(words), "0", "1", "12", "999", "1000", "00", "-1", "", " ", "a")
	read := 0
	for range 60000 {
		var some []string
		for range r.IntN(5) {
			some = append(some, parts[r.IntN(len(parts))])
		}
		text := strings.Join(some, " ")
		d, code := impl.ReadDeed(text)
		if code == impl.OK {
			read++
			same(t, "the text of a deed that has been read", plainDeedText(d), text)
			same(t, "a deed that has been read is valid", plainDeed(d), true)
			continue
		}
		isNoDeed(t, text)
		if len(some) > 0 && slices.Index(words, some[0]) > 0 && len(some) == 1+mentioned[slices.Index(words, some[0])] {
			plain := func(part string) bool { return slices.Contains([]string{"0", "1", "12", "999"}, part) }
			same(t, "a text that is not read: "+text, slices.ContainsFunc(some[1:], func(part string) bool { return !plain(part) }), true)
		}
	}
	same(t, "many texts are read", read > 300, true)
}
