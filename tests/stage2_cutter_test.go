package tests

import (
	"bytes"
	"slices"
	"testing"

	"loop.example/g01174/impl"
)

// startCutter begins a cutter, and fails the test if there is an error.
func startCutter(t *testing.T, r impl.CutRule) impl.Cutter {
	t.Helper()
	c, code := impl.StartCutter(r)
	same(t, "code of StartCutter", code, impl.OK)
	return c
}

// feedCutter feeds a cutter, and fails the test if there is an error.
func feedCutter(t *testing.T, c impl.Cutter, data []byte) (impl.Cutter, [][]byte) {
	t.Helper()
	c, ended, code := impl.FeedCutter(c, data)
	same(t, "code of FeedCutter", code, impl.OK)
	return c, ended
}

// checkCutter fails the test if c, and the chunks that it has told, are not those of a cutter that has got data.
func checkCutter(t *testing.T, c impl.Cutter, told [][]byte, r impl.CutRule, data []byte) {
	t.Helper()
	ended, left := plainChunks(r, data)
	sameChunks(t, "chunks that have ended", told, ended)
	same(t, "rule", c.Rule, r)
	sameBytes(t, "held", c.Held, left)
	same(t, "rolling value", c.Roll, plainRoll(left))
	same(t, "valid", impl.ValidCutter(c), true)
	last, code := impl.EndCutter(c)
	same(t, "code of EndCutter", code, impl.OK)
	sameBytes(t, "last chunk", last, left)
}

// noCutter fails the test if a cutter or chunks come with an error.
func noCutter(t *testing.T, c impl.Cutter, ended [][]byte) {
	t.Helper()
	same(t, "no cutter", impl.SameCutter(c, impl.Cutter{}), true)
	same(t, "no chunks", len(ended), 0)
}

func TestCuttersBegin(t *testing.T) {
	for _, r := range rules() {
		checkCutter(t, startCutter(t, r), nil, r, nil)
	}
	for _, r := range wrongRules() {
		c, code := impl.StartCutter(r)
		same(t, "code", code, impl.ErrInvalid)
		noCutter(t, c, nil)
	}
}

func TestCuttersGetAllAtOnce(t *testing.T) {
	for _, r := range rules() {
		for _, data := range append(dataTried(50), someBytes(chance(51), impl.MaxData)) {
			c, told := feedCutter(t, startCutter(t, r), data)
			checkCutter(t, c, told, r, data)
			if len(c.Held) > 0 {
				told = append(told, c.Held)
			}
			chunks, _ := impl.ChunksOf(r, data)
			sameChunks(t, "chunks of ChunksOf", told, chunks)
		}
	}
}

func TestCuttersGetTwoPieces(t *testing.T) {
	data := someBytes(chance(52), 150)
	for _, r := range rules() {
		for cut := range len(data) + 1 {
			c, told := feedCutter(t, startCutter(t, r), data[:cut])
			c, more := feedCutter(t, c, data[cut:])
			checkCutter(t, c, append(told, more...), r, data)
		}
	}
}

func TestCuttersGetByteByByte(t *testing.T) {
	for _, r := range rules() {
		for _, data := range [][]byte{someBytes(chance(53), 300), make([]byte, 270), fewBytes(chance(54), 100)} {
			c := startCutter(t, r)
			var told [][]byte
			for i := range data {
				var ended [][]byte
				c, ended = feedCutter(t, c, data[i:i+1])
				told = append(told, ended...)
				if i%50 == 0 || i == len(data)-1 {
					checkCutter(t, c, told, r, data[:i+1])
				}
			}
		}
	}
}

func TestCuttersGetPiecesOfAnyCut(t *testing.T) {
	r := chance(55)
	for _, rule := range rules() {
		for range 5 {
			c := startCutter(t, rule)
			var told [][]byte
			var data []byte
			for range r.IntN(12) {
				piece := someBytes(r, r.IntN(1+1<<r.IntN(10)))
				var ended [][]byte
				c, ended = feedCutter(t, c, piece)
				told = append(told, ended...)
				data = append(data, piece...)
				checkCutter(t, c, told, rule, data)
			}
		}
	}
}

func TestCuttersGetNothing(t *testing.T) {
	for _, r := range rules() {
		c, _ := feedCutter(t, startCutter(t, r), squares(100))
		for _, none := range [][]byte{nil, {}} {
			d, ended := feedCutter(t, c, none)
			same(t, "cutter", impl.SameCutter(c, d), true)
			same(t, "chunks", len(ended), 0)
		}
	}
}

func TestLastChunksMayHaveNoBytes(t *testing.T) {
	c, ended := feedCutter(t, startCutter(t, impl.CutRule{Least: 2, Most: 2}), []byte("abcd"))
	sameChunks(t, "ended", ended, [][]byte{[]byte("ab"), []byte("cd")})
	last, code := impl.EndCutter(c)
	same(t, "code", code, impl.OK)
	same(t, "bytes", len(last), 0)
	same(t, "rolling value", c.Roll, 0) // it begins anew behind each chunk
	d := startCutter(t, c.Rule)
	same(t, "as in the beginning", impl.SameCutter(c, d), true)
}

func TestLimitOfWhatCuttersGet(t *testing.T) {
	r := impl.CutRule{Least: impl.MaxLeast, Most: impl.MaxMost, Bits: impl.MaxBits}
	held := squares(40)
	full, over := someBytes(chance(56), impl.MaxData), make([]byte, impl.MaxData+1)
	c, _ := feedCutter(t, startCutter(t, r), held)
	d, told := feedCutter(t, c, full) // more than MaxData bytes with those that are held
	checkCutter(t, d, told, r, slices.Concat(held, full))
	e, more := feedCutter(t, d, full)
	checkCutter(t, e, append(told, more...), r, slices.Concat(held, full, full))
	for _, data := range [][]byte{over, make([]byte, 1000000)} {
		for _, before := range []impl.Cutter{startCutter(t, r), c, d} {
			f, ended, code := impl.FeedCutter(before, data)
			same(t, "code over MaxData", code, impl.ErrLimit)
			noCutter(t, f, ended)
		}
	}
}

// wrongCutters returns cutters that are not valid.
func wrongCutters() []impl.Cutter {
	four := impl.CutRule{Least: 4, Most: 4, Bits: 8}
	cutter := func(r impl.CutRule, held []byte) impl.Cutter {
		return impl.Cutter{Rule: r, Roll: plainRoll(held), Held: held}
	}
	list := []impl.Cutter{
		{Rule: four, Roll: 1},             // the value of nothing is 0
		{Rule: four, Held: []byte("abc")}, // that of bytes is not
		{Rule: four, Roll: plainRoll([]byte("abc")) + 1, Held: []byte("abc")},
		{Rule: four, Roll: plainRoll([]byte("xabc")), Held: []byte("abc")},
		{Rule: four, Roll: plainRoll([]byte("abd")), Held: []byte("abc")},
		{Rule: four, Roll: plainRoll([]byte("ab")), Held: []byte("abc")},
		{Rule: four, Roll: plainRoll([]byte("abc")) ^ 1<<31, Held: []byte("abc")},
		cutter(four, []byte("abcd")),  // it ends behind the last byte
		cutter(four, []byte("abcde")), // it ends before it
		cutter(four, make([]byte, 100000)),
		cutter(impl.CutRule{Least: 2, Most: 100}, []byte("ab")),
		cutter(impl.CutRule{Least: 2, Most: 100}, []byte("abc")),
		cutter(impl.CutRule{Least: 1, Most: 1}, []byte("a")),
		cutter(impl.CutRule{Least: impl.MaxLeast, Most: impl.MaxMost, Bits: 0}, squares(impl.MaxLeast)),
	}
	for _, r := range rules() {
		list = append(list, cutter(r, squares(int(r.Most))), cutter(r, squares(int(r.Most)+1)))
	}
	for _, r := range wrongRules() {
		list = append(list, impl.Cutter{Rule: r}, cutter(r, []byte("a")))
	}
	// A chunk ends where the value says so, and further bytes that would not end one do not help.
	r := impl.CutRule{Least: 4, Most: 64, Bits: 4}
	chunk := plainAll(r, squares(100))[0]
	for more := range 5 {
		list = append(list, cutter(r, slices.Concat(chunk, squares(more))))
	}
	return list
}

func TestCuttersThatAreNotValid(t *testing.T) {
	for _, c := range wrongCutters() {
		same(t, "valid", impl.ValidCutter(c), false)
		for _, data := range [][]byte{nil, []byte("abc"), make([]byte, impl.MaxData+1)} {
			d, ended, code := impl.FeedCutter(c, data)
			same(t, "code of FeedCutter", code, impl.ErrInvalid)
			noCutter(t, d, ended)
		}
		last, code := impl.EndCutter(c)
		same(t, "code of EndCutter", code, impl.ErrInvalid)
		same(t, "no chunk", len(last), 0)
		same(t, "same", impl.SameCutter(c, c), true)
	}
}

func TestCuttersAreValidAsLongAsNoChunkEnds(t *testing.T) {
	for _, r := range rules() {
		for _, data := range [][]byte{squares(300), make([]byte, 300), someBytes(chance(57), 300)} {
			first := len(plainAll(r, data)[0])
			for n := range first + 3 {
				c := impl.Cutter{Rule: r, Roll: plainRoll(data[:n]), Held: data[:n]}
				same(t, "valid", impl.ValidCutter(c), n < first)
			}
		}
	}
}

func TestCuttersThatAreTheSame(t *testing.T) {
	c := impl.Cutter{Rule: impl.CutRule{Least: 1, Most: 2, Bits: 3}, Roll: 4, Held: []byte("abc")}
	d := c
	d.Held = bytes.Clone(c.Held)
	same(t, "copy", impl.SameCutter(c, d), true)
	changes := []func(*impl.Cutter){
		func(c *impl.Cutter) { c.Rule.Least++ },
		func(c *impl.Cutter) { c.Rule.Most++ },
		func(c *impl.Cutter) { c.Rule.Bits++ },
		func(c *impl.Cutter) { c.Roll++ },
		func(c *impl.Cutter) { c.Held = nil },
		func(c *impl.Cutter) { c.Held = []byte("ab") },
		func(c *impl.Cutter) { c.Held = []byte("abd") },
		func(c *impl.Cutter) { c.Held = []byte("xbc") },
		func(c *impl.Cutter) { c.Held = []byte("abcd") },
	}
	for _, change := range changes {
		d := c
		change(&d)
		same(t, "other", impl.SameCutter(c, d), false)
		same(t, "other, turned around", impl.SameCutter(d, c), false)
	}
	same(t, "nil and empty", impl.SameCutter(impl.Cutter{Held: nil}, impl.Cutter{Held: []byte{}}), true)
}
