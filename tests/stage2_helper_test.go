package tests

import (
	"bytes"
	"math/rand/v2"
	"sync"
	"testing"

	"loop.example/g01174/impl"
)

// plainTable is the table of the rolling value as the document tells it.
var plainTable = sync.OnceValue(func() [256]uint64 {
	var table [256]uint64
	for b := range table {
		block := make([]byte, 32)
		block[0] = byte(b)
		table[b] = uint64(plainMix(plainState(7), block)[0])
	}
	return table
})

// plainRoll is RollOf as the document tells it, with numbers of 64 bits.
func plainRoll(data []byte) uint32 {
	table := plainTable()
	roll := uint64(0)
	for _, b := range data {
		roll = (2*roll + table[b]) % (1 << 32)
	}
	return uint32(roll)
}

// plainEnds reports whether a chunk with just these bytes ends.
func plainEnds(r impl.CutRule, chunk []byte) bool {
	n := int64(len(chunk))
	if n == r.Most {
		return true
	}
	return n >= r.Least && plainRoll(chunk)%(1<<r.Bits) == 0
}

// plainChunks cuts data: the chunks that have ended, and what is left.
func plainChunks(r impl.CutRule, data []byte) ([][]byte, []byte) {
	var ended [][]byte
	begin := 0
	for end := 1; end <= len(data); end++ {
		if plainEnds(r, data[begin:end]) {
			ended = append(ended, bytes.Clone(data[begin:end]))
			begin = end
		}
	}
	return ended, bytes.Clone(data[begin:])
}

// plainAll returns all chunks of data, the last one among them if it has bytes.
func plainAll(r impl.CutRule, data []byte) [][]byte {
	list, left := plainChunks(r, data)
	if len(left) > 0 {
		list = append(list, left)
	}
	return list
}

// plainPlaces returns the ends of chunks.
func plainPlaces(chunks [][]byte) []int64 {
	var ends []int64
	end := 0
	for _, chunk := range chunks {
		end += len(chunk)
		ends = append(ends, int64(end))
	}
	return ends
}

// rules returns valid rules, those at all edges among them.
func rules() []impl.CutRule {
	list := []impl.CutRule{
		{Least: 2, Most: 3}, {Least: 4, Most: 4, Bits: 8}, {Least: 4, Most: 64, Bits: 4},
		{Least: 1, Most: 16, Bits: 2}, {Least: 10, Most: 11, Bits: 1}, {Least: 16, Most: 100, Bits: 5},
	}
	for _, least := range []int64{1, impl.MaxLeast} {
		for _, most := range []int64{least, least + 1, impl.MaxMost} {
			for _, bits := range []int64{0, 1, impl.MaxBits} {
				list = append(list, impl.CutRule{Least: least, Most: most, Bits: bits})
			}
		}
	}
	return list
}

// wrongRules returns rules that are just not valid, and others that are not.
func wrongRules() []impl.CutRule {
	const least, most = -1 << 63, 1<<63 - 1
	return []impl.CutRule{
		{},
		{Least: 0, Most: 5, Bits: 1},
		{Least: -1, Most: 5, Bits: 1},
		{Least: impl.MaxLeast + 1, Most: impl.MaxMost, Bits: 1},
		{Least: 2, Most: 1, Bits: 1},
		{Least: impl.MaxLeast, Most: impl.MaxLeast - 1},
		{Least: 1, Most: 0},
		{Least: 1, Most: impl.MaxMost + 1, Bits: 1},
		{Least: 1, Most: 5, Bits: -1},
		{Least: 1, Most: 5, Bits: impl.MaxBits + 1},
		{Least: least, Most: most, Bits: least},
		{Least: most, Most: most, Bits: most},
		{Least: 1, Most: most, Bits: 0},
		{Least: 1, Most: 1, Bits: most},
		{Least: 1, Most: 1, Bits: least},
		{Least: least, Most: 1},
	}
}

// fewBytes returns n bytes, of which there are few different ones.
func fewBytes(r *rand.Rand, n int) []byte {
	data := make([]byte, n)
	for i := range data {
		data[i] = byte('a' + r.IntN(2))
	}
	return data
}

// dataTried returns data of several kinds and lengths.
func dataTried(seed uint64) [][]byte {
	r := chance(seed)
	list := [][]byte{nil, {}, {0}, {255}}
	for _, n := range []int{2, 3, 31, 32, 33, 63, 64, 65, 127, 255, 256, 257, 700} {
		list = append(list, someBytes(r, n), fewBytes(r, n))
	}
	return append(list, make([]byte, 600), bytes.Repeat([]byte("abc"), 300))
}

// sameBytes fails the test if got is not want.
func sameBytes(t *testing.T, name string, got, want []byte) {
	t.Helper()
	if !bytes.Equal(got, want) {
		t.Errorf("%s: got %q, want %q", name, got, want)
	}
}

// equalChunks reports whether two lists of chunks are equal.
func equalChunks(a, b [][]byte) bool {
	if len(a) != len(b) {
		return false
	}
	for i := range a {
		if !bytes.Equal(a[i], b[i]) {
			return false
		}
	}
	return true
}

// sameChunks fails the test if got are not the chunks of want.
func sameChunks(t *testing.T, name string, got, want [][]byte) {
	t.Helper()
	if !equalChunks(got, want) {
		t.Errorf("%s: got %q, want %q", name, got, want)
	}
}

// copyChunks returns chunks that share nothing with others.
func copyChunks(chunks [][]byte) [][]byte {
	list := make([][]byte, len(chunks))
	for i, chunk := range chunks {
		list[i] = bytes.Clone(chunk)
	}
	return list
}
