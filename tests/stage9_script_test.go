package tests

import (
	"math/rand/v2"
	"slices"
	"strings"
	"testing"

	"loop.example/g01174/impl"
)

// answersTo is RunScript as the document tells it, of valid arguments. The lines are told one by one.
func answersTo(v impl.Setup, lines []string) string {
	g := begin(v)
	text := ""
	for _, line := range lines {
		text += g.answer(line) + "\n"
	}
	return text
}

// answer is the answer to a line as the document tells it.
func (g *plainGroup) answer(line string) string {
	names := []string{"ok", "error invalid", "error range", "error limit", "error state", "error syntax", "error notfound", "error budget", "error proof"}
	if deeds := deedsIn(line); len(deeds) == 1 && deeds[0].Kind > 0 && plainDeed(deeds[0]) && plainDeedText(deeds[0]) == line {
		return names[g.do(deeds[0])]
	}
	if line == "joined" && g.isJoined() {
		return "yes"
	}
	if line == "joined" {
		return "no"
	}
	for r, at := range g.replicas {
		switch line {
		case numbered("map", r):
			var texts []string
			for _, e := range at.mapOfHead() {
				texts = append(texts, e.Name+"="+e.Value)
			}
			if len(texts) == 0 {
				return "empty"
			}
			return strings.Join(texts, " ")
		case numbered("head", r):
			return hexOf(at.head)
		}
	}
	return "what"
}

// hexOf returns the text of a key.
func hexOf(k impl.Key) string {
	text := ""
	for _, b := range k {
		text += string("0123456789abcdef"[b/16]) + string("0123456789abcdef"[b%16])
	}
	return text
}

// answers fails the test if RunScript does not return some lines and OK.
func answers(t *testing.T, v impl.Setup, text string, want ...string) {
	t.Helper()
	whole := ""
	for _, line := range want {
		whole += line + "\n"
	}
	isNumber(t, "RunScript of "+text[:min(len(text), 200)], whole)(impl.RunScript(v, text))
}

func TestEachKindOfLine(t *testing.T) {
	v := setup(2, put(0, "x", "1"), put(1, "x", "3"), put(0, "y", ""), gone(0, "x"))
	answers(t, v, "write 0", "ok")
	answers(t, v, "write 4", "error range")
	answers(t, v, "write 3", "error state")
	answers(t, v, times(1, "write 0")+strings.Repeat("\nsend 0 1 0", 13), slices.Concat(slices.Repeat([]string{"ok"}, 13), []string{"error limit"})...)
	answers(t, v, "map 0\nwrite 0\nmap 0\nmap 1\nwrite 2\nmap 0\nwrite 3\nmap 0", "empty", "ok", "x=1", "empty", "ok", "x=1 y=", "ok", "y=")
	zeros := strings.Repeat("0", 64)
	head := hexOf(behind(t, v, "write 0").Replicas[0].Head)
	answers(t, v, "head 0\nhead 1\nwrite 0\nhead 0\nhead 1", zeros, zeros, "ok", head, zeros)
	answers(t, v, "joined\nwrite 0\njoined\nsend 0 1 0\ndeliver 0\njoined\nmerge 1 0\njoined\nhead 1\ncrash 1\njoined\ncrash 0\njoined",
		"yes", "ok", "no", "ok", "ok", "no", "ok", "yes", head, "ok", "no", "ok", "yes")
	answers(t, v, "write 0\ndeliver 0\ncopy 0\ndrop 0\nsend 0 0 0\nmerge 0 1\nmerge 0 0\nsave 2\ncrash 2\nsave 0\ncrash 1",
		"ok", "error range", "error range", "error range", "error range", "error range", "error state", "error range", "error range", "ok", "ok")
	answers(t, v, "write 0\nwrite 1\nsend 1 0 0\ndrop 0\nsend 1 0 0\ncopy 0\ndeliver 0\ndeliver 0\nmerge 0 1\nmap 0\nmerge 0 1\njoined",
		"ok", "ok", "ok", "ok", "ok", "ok", "ok", "error range", "ok", "x=3", "error state", "no")
}

func TestErrorsOfFullBooksAreAnswered(t *testing.T) {
	v := setup(1, put(0, "x", "1"), put(0, "x", "2"))
	lines := slices.Repeat([]string{"write 0", "write 1"}, 21)
	answers(t, v, strings.Join(lines, "\n"), slices.Concat(slices.Repeat([]string{"ok"}, 40), []string{"error limit", "error state"})...)
}

func TestLinesThatAreNone(t *testing.T) {
	v := setup(3, put(0, "x", "1"))
	for _, line := range []string{
		"", " ", "what", "ok", "x", "x=1", "hello", "empty", "yes", "no", "write", "write 00", "write -1", "write 1000", "write  0", " write 0", "write 0 ", "write 0\r", "WRITE 0",
		"map", "map ", "map 3", "map 999", "map 1000", "map -1", "map -0", "map +0", "map 00", "map 01", "map 0 0", "map 0 ", " map 0", "map  0", "map\t0", "map a", "map 0x0", "Map 0", "MAP 0", "map0", "maps 0", "ma 0",
		"map 4294967296", "map 18446744073709551616", "map 9223372036854775807", "map 9223372036854775808", "map -9223372036854775808", "map \x00", "map 0\x00", "map \xd9\xa0", "0 map", "map zero", "map.0", "map,0",
		"head", "head ", "head 3", "head -1", "head 00", "head 0 ", "head  0", " head 0", "heads 0", "Head 0", "head 0 1", "head0", "head +1", "head 1.0", "head 1_0",
		"joined ", " joined", "joined 0", "Joined", "join", "joinedd", "joined\x00", "joined joined", "joined\t",
		"send 0 1", "send 0 1 0 0", "deliver", "copy 0 0", "drop a", "merge 0", "save", "crash", "crash 0 0", strings.Repeat("x", 19000), "\xff\xfe", "map\xa00",
	} {
		answers(t, v, line+"\n", "what")
		answers(t, v, "write 0\n"+line+"\nmap 0", "ok", "what", "x=1")
		answers(t, v, line+"\njoined", "what", "yes")
	}
	for n := range 3 {
		for r := range 5 {
			want := "what"
			if r <= n {
				want = "empty"
			}
			answers(t, setup(int64(n)+1), numbered("map", r), want)
			if r <= n {
				want = strings.Repeat("0", 64)
			}
			answers(t, setup(int64(n)+1), numbered("head", r), want)
		}
	}
}

func TestLinesOfTexts(t *testing.T) {
	v := setup(1, put(0, "x", "1"))
	answers(t, v, "")
	answers(t, v, "\n", "what")
	answers(t, v, "\n\n", "what", "what")
	answers(t, v, "\n\n\n", "what", "what", "what")
	answers(t, v, "write 0", "ok")
	answers(t, v, "write 0\n", "ok")
	answers(t, v, "write 0\n\n", "ok", "what")
	answers(t, v, "\nwrite 0", "what", "ok")
	answers(t, v, "\nwrite 0\n", "what", "ok")
	answers(t, v, "write 0\n\nmap 0", "ok", "what", "x=1")
	answers(t, v, "write 0\n\nmap 0\n", "ok", "what", "x=1")
	answers(t, v, "write 0\r\nmap 0\r\n", "what", "what")
	answers(t, v, "joined\n \njoined", "yes", "what", "yes")
	answers(t, v, "write 0; map 0", "what")
}

// TestAnswersHaveAnyBytes: names and values are answered as they are, even if they have blanks and newlines.
func TestAnswersHaveAnyBytes(t *testing.T) {
	v := setup(1, put(0, "a b", "c=d"), put(0, "\n", "\n\n"), put(0, "\x00", "\xff"), put(0, "empty", "empty"))
	isNumber(t, "RunScript", "ok\nok\nok\nok\n\x00=\xff \n=\n\n a b=c=d empty=empty\n")(impl.RunScript(v, "write 0\nwrite 1\nwrite 2\nwrite 3\nmap 0"))
	long := setup(1, slices.Repeat([]impl.Edit{put(0, "n", "v")}, impl.MaxEdits)...)
	text, want := "", ""
	for i := range long.Edits {
		name, value := strings.Repeat(string(rune('a'+i)), impl.MaxName), strings.Repeat(string(rune('A'+i)), impl.MaxValue)
		long.Edits[i] = put(0, name, value)
		text += numbered("write", i) + "\n"
		want += " " + name + "=" + value
	}
	isNumber(t, "RunScript of the longest map", strings.Repeat("ok\n", 8)+want[1:]+"\n")(impl.RunScript(long, text+"map 0\n"))
}

func TestLimitsOfScripts(t *testing.T) {
	v := setup(1, put(0, "x", "1"))
	for _, n := range []int{impl.MaxScriptLines - 1, impl.MaxScriptLines} {
		lines := strings.Repeat("joined\n", n)
		answers(t, v, lines, slices.Repeat([]string{"yes"}, n)...)
		answers(t, v, lines[:len(lines)-1], slices.Repeat([]string{"yes"}, n)...)
		answers(t, v, strings.Repeat("\n", n), slices.Repeat([]string{"what"}, n)...)
	}
	for _, n := range []int{impl.MaxScriptLines + 1, impl.MaxScriptLines + 2, 1000, 200000} {
		isCode[string](t, numbered("lines", n), impl.ErrRange)(impl.RunScript(v, strings.Repeat("\n", n)))
		isCode[string](t, numbered("lines without a newline at the end", n), impl.ErrRange)(impl.RunScript(v, strings.Repeat("\n", n-1)+"x"))
		isCode[string](t, numbered("lines of a deed", n), impl.ErrRange)(impl.RunScript(v, strings.Repeat("write 0\n", n)))
	}
	one := strings.Repeat("x", impl.MaxScriptText)
	answers(t, v, one, "what")
	answers(t, v, one[1:]+"\n", "what")
	answers(t, v, "write 0\n"+one[8:], "ok", "what")
	for _, text := range []string{one + "x", one + "\n", "write 0\n" + one, strings.Repeat(one, 40)} {
		isCode[string](t, numbered("bytes", len(text)), impl.ErrRange)(impl.RunScript(v, text))
	}
	many := strings.Repeat(strings.Repeat("x", 165)+"\n", 120)
	answers(t, v, many, slices.Repeat([]string{"what"}, 120)...)
	isCode[string](t, "a line more", impl.ErrRange)(impl.RunScript(v, many+"y"))
}

func TestScriptsOfWrongSetups(t *testing.T) {
	for i, v := range wrongSetups() {
		for _, text := range []string{"", "joined", strings.Repeat("\n", 121), strings.Repeat("x", 20001)} {
			isCode[string](t, numbered("wrong setup", i), impl.ErrInvalid)(impl.RunScript(v, text))
		}
	}
}

// someLine returns a line that looks random.
func someLine(r *rand.Rand, g *plainGroup) string {
	switch r.IntN(12) {
	case 0, 1:
		return numbered("map", r.IntN(4))
	case 2:
		return numbered("head", r.IntN(4))
	case 3:
		return "joined"
	case 4:
		return []string{"", "x", "map", "write", "send 0 1", "merge 00 1"}[r.IntN(6)]
	}
	return plainDeedText(someDeed(r, g))
}

func TestAnyScripts(t *testing.T) {
	r := chance(931)
	for i := range 150 {
		n := 1 + int64(i)%3
		v := setup(n, someEdits(r, n)...)
		g := begin(v)
		var lines []string
		for range r.IntN(impl.MaxScriptLines + 1) {
			line := someLine(r, g)
			g.answer(line)
			lines = append(lines, line)
		}
		text := strings.Join(lines, "\n")
		if len(lines) > 0 && (lines[len(lines)-1] == "" || i%2 == 0) {
			text += "\n"
		}
		isNumber(t, numbered("script", i), answersTo(v, lines))(impl.RunScript(v, text))
	}
}

// TestScriptsTellWhatOtherFunctionsTell compares the answers behind the planned deeds with the maps and heads told by the
// other functions.
func TestScriptsTellWhatOtherFunctionsTell(t *testing.T) {
	r := chance(932)
	for i := range 40 {
		v := setup(3, someEdits(r, 3)...)
		deeds, _, _ := someDeeds(r, v, 20)
		plan, code := impl.FinishDeeds(v, deeds)
		same(t, "code of FinishDeeds", code, impl.OK)
		all := slices.Concat(deeds, plan)
		if len(all) > impl.MaxScriptLines-3 {
			continue
		}
		text := strings.ReplaceAll(story(all), ", ", "\n") + "\njoined\nhead 2\nhead 0"
		g, _, _ := impl.GroupAfter(v, all)
		got, code := impl.RunScript(v, text)
		same(t, "code of RunScript", code, impl.OK)
		lines := strings.Split(got, "\n")
		head := impl.KeyText(g.Replicas[0].Head)
		sameList(t, numbered("script", i), lines[len(all):], []string{"yes", head, head, ""})
		for k, d := range all {
			at, refused, code := impl.RefusedDeed(v, all[:k+1])
			want := "ok"
			if code == impl.OK && at == int64(k) {
				want = "error " + impl.CodeName(refused)
			}
			if code != impl.OK || at == int64(k) {
				same(t, numbered("script", i)+": "+plainDeedText(d), lines[k], want)
			}
		}
	}
}
