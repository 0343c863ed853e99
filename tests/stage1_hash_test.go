package tests

import (
	"bytes"
	"strings"
	"testing"

	"loop.example/g01174/impl"
)

// plainMix is MixBlock as the document tells it, with numbers of 64 bits that are cut to 32.
func plainMix(state [8]uint32, block []byte) [8]uint32 {
	const low = 1<<32 - 1
	var m, s [8]uint64
	for i := range 8 {
		for j := range 4 {
			m[i] += uint64(block[4*i+j]) << (8 * j)
		}
		s[i] = uint64(state[i])
	}
	turn := func(x uint64, n int) uint64 { return (x<<n | x>>(32-n)) & low }
	for r := 0; r <= 11; r++ {
		for i := 0; i <= 7; i++ {
			t := (s[i] + m[(i+3*r)%8] + 2654435769*uint64(8*r+i+1)) & low
			u := turn(t, 7) ^ s[(i+1)%8]
			s[i] = (u + turn(s[(i+5)%8], 13)) & low
		}
	}
	for i := range state {
		state[i] ^= uint32(s[i])
	}
	return state
}

// plainPad returns data with the padding behind them.
func plainPad(data []byte) []byte {
	n := len(data)
	zeros := (24 - (n+1)%32 + 32) % 32
	padded := append([]byte{}, data...)
	padded = append(padded, 128)
	padded = append(padded, make([]byte, zeros)...)
	for range 8 {
		padded = append(padded, byte(n%256))
		n /= 256
	}
	return padded
}

// plainMixAll mixes all blocks of padded bytes.
func plainMixAll(state [8]uint32, padded []byte) [8]uint32 {
	for len(padded) > 0 {
		state = plainMix(state, padded[:32])
		padded = padded[32:]
	}
	return state
}

// plainState is StartState as the document tells it.
func plainState(tag byte) [8]uint32 {
	var s [8]uint32
	for i := range 8 {
		s[i] = uint32((16777619*uint64(i+1) + uint64(tag)) % (1 << 32))
	}
	return s
}

// plainKey returns the key with the words of a state.
func plainKey(s [8]uint32) impl.Key {
	var k impl.Key
	for i, word := range s {
		for j := range 4 {
			k[4*i+j] = byte(word % 256)
			word /= 256
		}
	}
	return k
}

// plainHash is HashOf as the document tells it, without its limit.
func plainHash(tag byte, data []byte) impl.Key {
	return plainKey(plainMixAll(plainState(tag), plainPad(data)))
}

func TestCodesHaveNames(t *testing.T) {
	names := strings.Fields("ok invalid range limit state syntax notfound budget proof")
	for i, name := range names {
		same(t, name, impl.CodeName(int64(i)), name)
	}
	codes := []int64{impl.OK, impl.ErrInvalid, impl.ErrRange, impl.ErrLimit, impl.ErrState, impl.ErrSyntax, impl.ErrNotFound, impl.ErrBudget, impl.ErrProof}
	sameList(t, "codes", codes, []int64{0, 1, 2, 3, 4, 5, 6, 7, 8})
	for _, code := range []int64{-1, 9, 256, 1 << 32, 1<<63 - 1, -1 << 63} {
		same(t, "no code", impl.CodeName(code), "")
	}
}

func TestLimitsOfKeys(t *testing.T) {
	sameList(t, "limits", []int64{impl.MaxData, impl.MaxKeys, impl.MaxFed}, []int64{4096, 256, 1000000000})
}

func TestExampleOfChapter1(t *testing.T) {
	none, code := impl.PadBlocks(nil)
	same(t, "code", code, impl.OK)
	same(t, "blocks of no data", len(none), 1)
	same(t, "its first byte", none[0][0], 128)
	two, code := impl.PadBlocks(make([]byte, 24))
	same(t, "code", code, impl.OK)
	same(t, "blocks of 24 bytes", len(two), 2)
	same(t, "text of zeros", impl.KeyText(impl.Key{}), strings.Repeat("0", 64))
	same(t, "bits in common", impl.CommonBits(impl.Key{}, impl.Key{1}), 7)
}

func TestMixingOfZeros(t *testing.T) {
	// Found by another program that follows the document.
	want := [8]uint32{0x678e91c6, 0x02dbc774, 0x63b44529, 0xd1965748, 0x2f0d5a0f, 0xe1be0a91, 0x82ae7316, 0xb23e448a}
	same(t, "zeros", impl.MixBlock([8]uint32{}, [32]byte{}), want)
}

func TestMixingOfBlocks(t *testing.T) {
	var block [32]byte
	for i := range block {
		block[i] = byte(i)
	}
	want := [8]uint32{0x1569a95b, 0x220a1cef, 0xd944b082, 0x94874f2e, 0x3a40cc5d, 0x1ffffbe4, 0x5442fde5, 0x5e8edf1c}
	same(t, "0 to 31", impl.MixBlock(impl.StartState(7), block), want)

	r := chance(1)
	for range 200 {
		data := someBytes(r, 32)
		var state [8]uint32
		for i := range state {
			state[i] = r.Uint32()
		}
		same(t, "some block", impl.MixBlock(state, [32]byte(data)), plainMix(state, data))
	}
	high := bytes.Repeat([]byte{255}, 32)
	same(t, "high bytes", impl.MixBlock(impl.StartState(255), [32]byte(high)), plainMix(plainState(255), high))
}

func TestStatesOfTags(t *testing.T) {
	first := [8]uint32{16777619, 33555238, 50332857, 67110476, 83888095, 100665714, 117443333, 134220952}
	same(t, "tag 0", impl.StartState(0), first)
	for tag := range 256 {
		want := first
		for i := range want {
			want[i] += uint32(tag)
		}
		same(t, "tag", impl.StartState(byte(tag)), want)
	}
}

func TestPaddingOfAllLengths(t *testing.T) {
	r := chance(2)
	lengths := []int{4063, 4064, 4065, 4087, 4088, 4089, 4095, 4096}
	for n := range 300 {
		lengths = append(lengths, n)
	}
	for _, n := range lengths {
		data := someBytes(r, n)
		blocks, code := impl.PadBlocks(data)
		same(t, "code", code, impl.OK)
		same(t, "blocks", len(blocks), (n+9+31)/32)
		var all []byte
		for _, block := range blocks {
			all = append(all, block[:]...)
		}
		if !bytes.Equal(all, plainPad(data)) {
			t.Errorf("the padding of %d bytes is not as told", n)
		}
	}
}

func TestPaddingAtItsEdges(t *testing.T) {
	full, _ := impl.PadBlocks(make([]byte, 23))
	same(t, "blocks of 23 bytes", len(full), 1)
	same(t, "the block of 23 bytes", full[0], [32]byte{23: 128, 24: 23})
	two, _ := impl.PadBlocks(make([]byte, 24))
	same(t, "first block of 24 bytes", two[0], [32]byte{24: 128})
	same(t, "second block of 24 bytes", two[1], [32]byte{24: 24})
	most, code := impl.PadBlocks(make([]byte, impl.MaxData))
	same(t, "code of MaxData", code, impl.OK)
	same(t, "blocks of MaxData", len(most), 129)
	same(t, "last block of MaxData", most[128], [32]byte{0: 128, 25: 16})
	for _, n := range []int{impl.MaxData + 1, 100000} {
		over, code := impl.PadBlocks(make([]byte, n))
		same(t, "code over MaxData", code, impl.ErrLimit)
		same(t, "blocks over MaxData", len(over), 0)
	}
}

func TestHashesThatAreKnown(t *testing.T) {
	count := func(n int) []byte {
		data := make([]byte, n)
		for i := range data {
			data[i] = byte(i % 251)
		}
		return data
	}
	// Found by another program that follows the document.
	known := []struct {
		tag  byte
		data []byte
		text string
	}{
		{0, nil, "d94b2930d5bbbc748c2974638549f258bb9900248b79c3e89cdace7d2a0ce62b"},
		{1, []byte("abc"), "87dcaae1f407c757340c3fb34d3dfbb86cfcdff11d075b158c8e2e3770bb0eae"},
		{255, make([]byte, 23), "98977bc47a834770a870f5b0f7b8767607e53f0b53400ef2ab6aeb7f2ce2ecc9"},
		{2, make([]byte, 24), "e7290ba307c80530190e2b2dfd04a5ac3ac13d1746a3e39313bb801192572c35"},
		{3, count(32), "6c1c02a9cd18a06716392652708d4504f65a66f9ed6c979aafda78d3025f501f"},
		{9, count(4096), "833bd45bdecc364c4af0ec8486722896c06ba6db0c8aa4ea7288fcbc71c274ce"},
	}
	for _, k := range known {
		key, code := impl.HashOf(k.tag, k.data)
		same(t, "code", code, impl.OK)
		same(t, "key", impl.KeyText(key), k.text)
	}
}

func TestHashesOfAllLengths(t *testing.T) {
	r := chance(3)
	for n := range 200 {
		data := someBytes(r, n)
		tag := byte(r.Uint32())
		key, code := impl.HashOf(tag, data)
		same(t, "code", code, impl.OK)
		same(t, "key", key, plainHash(tag, data))
	}
}

func TestHashesHaveALimit(t *testing.T) {
	most := make([]byte, impl.MaxData)
	key, code := impl.HashOf(5, most)
	same(t, "code of MaxData", code, impl.OK)
	same(t, "key of MaxData", key, plainHash(5, most))
	key, code = impl.HashOf(5, append(most, 0))
	same(t, "code over MaxData", code, impl.ErrLimit)
	same(t, "key over MaxData", key, impl.Key{})
}

func TestPairs(t *testing.T) {
	var a, b impl.Key
	for i := range a {
		a[i], b[i] = byte(i), byte(32+i)
	}
	same(t, "0 to 63", impl.KeyText(impl.PairKey(4, a, b)), "f40fd054a79b3d0bd0119854569e817201c56451b46b342b80d921688f3a5649")
	r := chance(4)
	for range 50 {
		a, b := someKey(r), someKey(r)
		tag := byte(r.Uint32())
		same(t, "pair", impl.PairKey(tag, a, b), plainHash(tag, append(a[:], b[:]...)))
	}
	if impl.PairKey(2, a, b) == impl.PairKey(2, b, a) {
		t.Error("the order of a pair does not matter")
	}
}
