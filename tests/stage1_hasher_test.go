package tests

import (
	"bytes"
	"testing"

	"loop.example/g01174/impl"
)

// feed feeds a hasher, and fails the test if there is an error.
func feed(t *testing.T, h impl.Hasher, data []byte) impl.Hasher {
	t.Helper()
	h, code := impl.FeedHasher(h, data)
	same(t, "code of FeedHasher", code, impl.OK)
	return h
}

// checkFed fails the test if h is not the hasher of a tag that has been fed with data.
func checkFed(t *testing.T, h impl.Hasher, tag byte, data []byte) {
	t.Helper()
	full := len(data) / 32 * 32
	same(t, "state", h.State, plainMixAll(plainState(tag), data[:full]))
	sameList(t, "held", h.Held, data[full:])
	same(t, "count", h.Count, int64(len(data)))
	same(t, "valid", impl.ValidHasher(h), true)
	key, code := impl.KeyOf(h)
	same(t, "code of KeyOf", code, impl.OK)
	same(t, "key", key, plainHash(tag, data))
}

// invalidHashers returns hashers that are not valid.
func invalidHashers() []impl.Hasher {
	return []impl.Hasher{
		{Count: -1},
		{Count: -1, Held: make([]byte, 31)},
		{Count: -32},
		{Count: -1 << 63},
		{Count: impl.MaxFed + 1, Held: make([]byte, 1)},
		{Count: impl.MaxFed + 32},
		{Count: 1<<63 - 1, Held: make([]byte, 31)},
		{Count: 1},
		{Count: 0, Held: make([]byte, 1)},
		{Count: 0, Held: make([]byte, 32)},
		{Count: 32, Held: make([]byte, 32)},
		{Count: 33, Held: make([]byte, 33)},
		{Count: 5, Held: make([]byte, 4)},
		{Count: 5, Held: make([]byte, 6)},
	}
}

func TestHashersBegin(t *testing.T) {
	for tag := range 256 {
		checkFed(t, impl.StartHasher(byte(tag)), byte(tag), nil)
	}
}

func TestHashersAreFedInTwoPieces(t *testing.T) {
	data := someBytes(chance(5), 130)
	want, _ := impl.HashOf(6, data)
	for cut := range len(data) + 1 {
		h := feed(t, impl.StartHasher(6), data[:cut])
		checkFed(t, h, 6, data[:cut])
		h = feed(t, h, data[cut:])
		checkFed(t, h, 6, data)
		key, _ := impl.KeyOf(h)
		same(t, "key of the whole", key, want)
	}
}

func TestHashersAreFedInPiecesOfAnyCut(t *testing.T) {
	r := chance(6)
	for range 60 {
		tag := byte(r.Uint32())
		h := impl.StartHasher(tag)
		var data []byte
		for range r.IntN(12) {
			piece := someBytes(r, r.IntN(70))
			h = feed(t, h, piece)
			data = append(data, piece...)
			checkFed(t, h, tag, data)
		}
	}
}

func TestHashersAreFedByteByByte(t *testing.T) {
	data := someBytes(chance(7), 200)
	h := impl.StartHasher(8)
	for i := range data {
		h = feed(t, h, data[i:i+1])
		h = feed(t, h, nil)
		checkFed(t, h, 8, data[:i+1])
	}
}

func TestHashersTakeMoreThanMaxData(t *testing.T) {
	data := someBytes(chance(8), 3*impl.MaxData+5)
	h := impl.StartHasher(9)
	for at := 0; at < len(data); at += impl.MaxData {
		h = feed(t, h, data[at:min(at+impl.MaxData, len(data))])
	}
	checkFed(t, h, 9, data)
}

func TestHashersHaveALimitOfData(t *testing.T) {
	most := make([]byte, impl.MaxData)
	checkFed(t, feed(t, impl.StartHasher(1), most), 1, most)
	for _, n := range []int{impl.MaxData + 1, 100000} {
		h, code := impl.FeedHasher(impl.StartHasher(1), make([]byte, n))
		same(t, "code over MaxData", code, impl.ErrLimit)
		same(t, "no hasher", impl.SameHasher(h, impl.Hasher{}), true)
	}
}

func TestHashersAtMaxFed(t *testing.T) {
	state := [8]uint32{1, 2, 3}
	end := impl.Hasher{State: state, Count: impl.MaxFed}
	same(t, "valid", impl.ValidHasher(end), true)
	same(t, "fed with nothing", impl.SameHasher(feed(t, end, nil), end), true)
	h, code := impl.FeedHasher(end, []byte{0})
	same(t, "code over MaxFed", code, impl.ErrLimit)
	same(t, "no hasher", impl.SameHasher(h, impl.Hasher{}), true)

	key, code := impl.KeyOf(end)
	same(t, "code of KeyOf", code, impl.OK)
	last := [32]byte{0: 128, 24: 0x00, 25: 0xca, 26: 0x9a, 27: 0x3b}
	same(t, "key", key, plainKey(plainMix(state, last[:])))
}

func TestHashersBeforeMaxFed(t *testing.T) {
	held := someBytes(chance(9), 28)
	before := impl.Hasher{State: [8]uint32{4}, Held: held, Count: impl.MaxFed - 4}
	same(t, "valid", impl.ValidHasher(before), true)
	for n := range 5 {
		h := feed(t, before, make([]byte, n))
		same(t, "count", h.Count, impl.MaxFed-4+int64(n))
		same(t, "valid", impl.ValidHasher(h), true)
	}
	for _, n := range []int{5, impl.MaxData, impl.MaxData + 1} {
		h, code := impl.FeedHasher(before, make([]byte, n))
		same(t, "code over MaxFed", code, impl.ErrLimit)
		same(t, "no hasher", impl.SameHasher(h, impl.Hasher{}), true)
	}
}

func TestHashersThatAreNotValid(t *testing.T) {
	for _, h := range invalidHashers() {
		same(t, "valid", impl.ValidHasher(h), false)
		for _, n := range []int{0, 1, impl.MaxData + 1} {
			g, code := impl.FeedHasher(h, make([]byte, n))
			same(t, "code of FeedHasher", code, impl.ErrInvalid)
			same(t, "no hasher", impl.SameHasher(g, impl.Hasher{}), true)
		}
		key, code := impl.KeyOf(h)
		same(t, "code of KeyOf", code, impl.ErrInvalid)
		same(t, "no key", key, impl.Key{})
		same(t, "same", impl.SameHasher(h, h), true)
	}
}

func TestHashersOfAnyStateAreValid(t *testing.T) {
	same(t, "zero", impl.ValidHasher(impl.Hasher{}), true)
	for n := range int64(32) {
		for _, full := range []int64{0, 32, 320, impl.MaxFed - 32} {
			h := impl.Hasher{State: [8]uint32{7: 1}, Held: make([]byte, n), Count: full + n}
			same(t, "valid", impl.ValidHasher(h), true)
		}
	}
}

func TestHashersThatAreTheSame(t *testing.T) {
	h := impl.Hasher{State: [8]uint32{1, 2, 3, 4, 5, 6, 7, 8}, Held: []byte("abc"), Count: 35}
	g := h
	g.Held = bytes.Clone(h.Held)
	same(t, "copy", impl.SameHasher(h, g), true)
	for i := range h.State {
		g := h
		g.State[i]++
		same(t, "another state", impl.SameHasher(h, g), false)
	}
	for _, held := range [][]byte{nil, []byte("ab"), []byte("abd"), []byte("abcd"), []byte("xbc")} {
		g := h
		g.Held = held
		same(t, "other bytes", impl.SameHasher(h, g), false)
		same(t, "other bytes, turned around", impl.SameHasher(g, h), false)
	}
	g = h
	g.Count = 67
	same(t, "another count", impl.SameHasher(h, g), false)
	same(t, "nil and empty", impl.SameHasher(impl.Hasher{Held: nil}, impl.Hasher{Held: []byte{}}), true)
}
