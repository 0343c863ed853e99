package tests

import (
	"bytes"
	"slices"
	"testing"

	"loop.example/g01174/impl"
)

// squares returns n bytes that other programs make easily, too.
func squares(n int) []byte {
	data := make([]byte, n)
	for i := range data {
		data[i] = byte(i * i % 251)
	}
	return data
}

func TestLimitsOfChunks(t *testing.T) {
	sameList(t, "limits", []int64{impl.MaxLeast, impl.MaxMost, impl.MaxBits, impl.MaxText}, []int64{64, 256, 8, 40000})
}

func TestExampleOfChapter2(t *testing.T) {
	ends, code := impl.CutPlaces(impl.CutRule{Least: 2, Most: 3}, []byte("abcde"))
	same(t, "code of 2, 3, 0", code, impl.OK)
	sameList(t, "ends of 2, 3, 0", ends, []int64{2, 4, 5})
	ends, code = impl.CutPlaces(impl.CutRule{Least: 4, Most: 4, Bits: 8}, []byte("abcde"))
	same(t, "code of 4, 4, 8", code, impl.OK)
	sameList(t, "ends of 4, 4, 8", ends, []int64{4, 5})
	same(t, "value of no bytes", impl.RollOf([]byte{}), 0)
}

func TestTableOfRolling(t *testing.T) {
	table := impl.RollTable()
	for b, want := range plainTable() {
		same(t, "number of a byte", uint64(table[b]), want)
	}
	// Found by another program that follows the document.
	sameList(t, "some numbers", []uint32{table[0], table[1], table[97], table[255]}, []uint32{0x7b01caa7, 0x21850290, 0xb7546ee0, 0x7328c31b})
}

func TestRollingValues(t *testing.T) {
	table := impl.RollTable()
	same(t, "nil", impl.RollOf(nil), 0)
	for b := range 256 {
		same(t, "one byte", impl.RollOf([]byte{byte(b)}), table[b])
	}
	same(t, "two bytes", impl.RollOf([]byte{3, 4}), 2*table[3]+table[4])
	same(t, "two bytes, turned around", impl.RollOf([]byte{4, 3}), 2*table[4]+table[3])
	for _, data := range dataTried(40) {
		same(t, "some bytes", impl.RollOf(data), plainRoll(data))
		last := data[max(0, len(data)-32):]
		same(t, "the last 32 bytes alone", impl.RollOf(data), impl.RollOf(last))
	}
	count := make([]byte, 40)
	for i := range count {
		count[i] = byte(i)
	}
	// Found by another program that follows the document.
	same(t, "abc", impl.RollOf([]byte("abc")), 0xca2846f7)
	same(t, "0 to 39", impl.RollOf(count), 0x44935624)
	same(t, "more than MaxData", impl.RollOf(make([]byte, 100000)), impl.RollOf(make([]byte, 32)))
}

func TestRulesAtTheirEdges(t *testing.T) {
	for _, r := range rules() {
		same(t, "a rule", impl.ValidRule(r), true)
	}
	for _, r := range wrongRules() {
		same(t, "no rule", impl.ValidRule(r), false)
	}
	for least := int64(-1); least <= impl.MaxLeast+1; least++ {
		for most := int64(-1); most <= impl.MaxMost+1; most++ {
			want := least >= 1 && least <= impl.MaxLeast && most >= least && most <= impl.MaxMost
			same(t, "a rule of all", impl.ValidRule(impl.CutRule{Least: least, Most: most}), want)
		}
	}
	for bits := int64(-1); bits <= impl.MaxBits+1; bits++ {
		same(t, "bits", impl.ValidRule(impl.CutRule{Least: 1, Most: 1, Bits: bits}), bits >= 0 && bits <= impl.MaxBits)
	}
}

func TestDataAreCut(t *testing.T) {
	for _, r := range rules() {
		for _, data := range dataTried(41) {
			want := plainAll(r, data)
			ends, code := impl.CutPlaces(r, data)
			same(t, "code of CutPlaces", code, impl.OK)
			sameList(t, "ends", ends, plainPlaces(want))
			chunks, code := impl.ChunksOf(r, data)
			same(t, "code of ChunksOf", code, impl.OK)
			sameChunks(t, "chunks", chunks, want)
			joined, code := impl.JoinChunks(chunks)
			same(t, "code of JoinChunks", code, impl.OK)
			sameBytes(t, "joined", joined, data)
		}
	}
}

func TestCutsThatAreKnown(t *testing.T) {
	// Found by another program that follows the document.
	known := []struct {
		rule impl.CutRule
		n    int
		ends []int64
	}{
		{impl.CutRule{Least: 4, Most: 64, Bits: 4}, 300, []int64{13, 22, 38, 70, 88, 94, 120, 133, 137, 143, 165, 199, 234, 243, 264, 273, 289, 300}},
		{impl.CutRule{Least: 64, Most: 256, Bits: 8}, 1000, []int64{88, 243, 339, 494, 590, 745, 841, 996, 1000}},
		{impl.CutRule{Least: 1, Most: 16, Bits: 2}, 40, []int64{3, 10, 13, 16, 17, 20, 22, 36, 38, 40}},
	}
	for _, k := range known {
		ends, code := impl.CutPlaces(k.rule, squares(k.n))
		same(t, "code", code, impl.OK)
		sameList(t, "ends", ends, k.ends)
	}
}

func TestCutsAtTheEdgesOfData(t *testing.T) {
	most := someBytes(chance(42), impl.MaxData)
	for _, r := range rules() {
		ends, code := impl.CutPlaces(r, nil)
		same(t, "code of no data", code, impl.OK)
		same(t, "ends of no data", len(ends), 0)
		chunks, code := impl.ChunksOf(r, []byte{})
		same(t, "code of no data", code, impl.OK)
		same(t, "chunks of no data", len(chunks), 0)
		ends, _ = impl.CutPlaces(r, []byte("x"))
		sameList(t, "ends of one byte", ends, []int64{1})
		chunks, _ = impl.ChunksOf(r, []byte("x"))
		sameChunks(t, "chunks of one byte", chunks, [][]byte{[]byte("x")})

		want := plainAll(r, most)
		ends, code = impl.CutPlaces(r, most)
		same(t, "code of MaxData", code, impl.OK)
		sameList(t, "ends of MaxData", ends, plainPlaces(want))
		chunks, code = impl.ChunksOf(r, most)
		same(t, "code of MaxData", code, impl.OK)
		sameChunks(t, "chunks of MaxData", chunks, want)
	}
}

func TestErrorsOfCutting(t *testing.T) {
	check := func(r impl.CutRule, data []byte, want int64) {
		t.Helper()
		ends, code := impl.CutPlaces(r, data)
		same(t, "code of CutPlaces", code, want)
		same(t, "no ends", len(ends), 0)
		chunks, code := impl.ChunksOf(r, data)
		same(t, "code of ChunksOf", code, want)
		same(t, "no chunks", len(chunks), 0)
		for _, at := range []int64{-1, 0, int64(len(data))} {
			index, begin, code := impl.ChunkAt(r, data, at)
			same(t, "code of ChunkAt", code, want)
			same(t, "no index", index, 0)
			same(t, "no beginning", begin, 0)
		}
		for _, pair := range [][2][]byte{{data, nil}, {nil, data}, {data, data}} {
			first, last, code := impl.CommonChunks(r, pair[0], pair[1])
			same(t, "code of CommonChunks", code, want)
			same(t, "none at first", first, 0)
			same(t, "none at last", last, 0)
			spare, code := impl.SpareBytes(r, pair[0], pair[1])
			same(t, "code of SpareBytes", code, want)
			same(t, "no bytes", spare, 0)
		}
	}
	over := make([]byte, impl.MaxData+1)
	for _, r := range rules() {
		check(r, over, impl.ErrLimit)
	}
	check(impl.CutRule{Least: 1, Most: 1}, make([]byte, 1000000), impl.ErrLimit)
	for _, r := range wrongRules() {
		check(r, nil, impl.ErrInvalid)
		check(r, []byte("abc"), impl.ErrInvalid)
		check(r, over, impl.ErrInvalid)
	}
}

func TestBehindCommonCutsEqualBytesAreCutEqually(t *testing.T) {
	r := chance(43)
	for _, rule := range rules() {
		for range 6 {
			tail := someBytes(r, r.IntN(500))
			wantTail := plainPlaces(plainAll(rule, tail))
			for _, head := range dataTried(44)[2:20] {
				// What is left behind the last cut is taken away, so that the head ends with a cut.
				ended, left := plainChunks(rule, head)
				head = head[:len(head)-len(left)]
				want := plainPlaces(ended)
				for _, end := range wantTail {
					want = append(want, end+int64(len(head)))
				}
				ends, code := impl.CutPlaces(rule, slices.Concat(head, tail))
				same(t, "code", code, impl.OK)
				sameList(t, "ends", ends, want)
			}
		}
	}
}

func TestChunksAreJoined(t *testing.T) {
	many := make([][]byte, impl.MaxData)
	for i := range many {
		many[i] = []byte{byte(i)}
	}
	most := make([]byte, impl.MaxData)
	tries := []struct {
		name   string
		chunks [][]byte
		want   []byte
		code   int64
	}{
		{"no chunks", nil, nil, impl.OK},
		{"chunks of no bytes", [][]byte{nil, {}, nil}, nil, impl.OK},
		{"some", [][]byte{[]byte("ab"), nil, []byte("c"), []byte("ab")}, []byte("abcab"), impl.OK},
		{"MaxData chunks of no bytes", make([][]byte, impl.MaxData), nil, impl.OK},
		{"one chunk more", make([][]byte, impl.MaxData+1), nil, impl.ErrLimit},
		{"MaxData chunks of one byte", many, bytes.Join(many, nil), impl.OK},
		{"MaxData bytes", [][]byte{most}, most, impl.OK},
		{"MaxData bytes in two", [][]byte{most[:1], most[1:]}, most, impl.OK},
		{"one byte more", [][]byte{make([]byte, impl.MaxData+1)}, nil, impl.ErrLimit},
		{"one byte more in two", [][]byte{most, {0}}, nil, impl.ErrLimit},
		{"one byte more at first", [][]byte{{0}, most}, nil, impl.ErrLimit},
		{"a million chunks", make([][]byte, 1000000), nil, impl.ErrLimit},
	}
	for _, try := range tries {
		joined, code := impl.JoinChunks(try.chunks)
		same(t, try.name+": code", code, try.code)
		sameBytes(t, try.name, joined, try.want)
	}
}

func TestKeysOfChunks(t *testing.T) {
	for _, chunk := range dataTried(45) {
		key, code := impl.ChunkKey(chunk)
		same(t, "code", code, impl.OK)
		same(t, "key", key, plainHash(1, chunk))
	}
	none, _ := impl.ChunkKey(nil)
	same(t, "key of no bytes", impl.KeyText(none), "666ae0368aaf6ba74f5155d5758814b845f6b4177c675420a9018d9b2ddf1dd6")
	most := make([]byte, impl.MaxData)
	key, code := impl.ChunkKey(most)
	same(t, "code of MaxData", code, impl.OK)
	same(t, "key of MaxData", key, plainHash(1, most))
	key, code = impl.ChunkKey(append(most, 0))
	same(t, "code over MaxData", code, impl.ErrLimit)
	same(t, "no key", key, impl.Key{})
}

// checkAt fails the test if ChunkAt does not tell an index and a beginning.
func checkAt(t *testing.T, r impl.CutRule, data []byte, at, index, begin, want int64) {
	t.Helper()
	i, b, code := impl.ChunkAt(r, data, at)
	same(t, "code of ChunkAt", code, want)
	same(t, "index", i, index)
	same(t, "beginning", b, begin)
}

func TestChunksAtPlaces(t *testing.T) {
	for _, r := range rules() {
		for _, data := range dataTried(46) {
			begin := int64(0)
			chunks := plainAll(r, data)
			for i, chunk := range chunks {
				n := int64(len(chunk))
				if i < 5 || i > len(chunks)-5 { // all of them would take long
					checkAt(t, r, data, begin, int64(i), begin, impl.OK)
					checkAt(t, r, data, begin+n/2, int64(i), begin, impl.OK)
					checkAt(t, r, data, begin+n-1, int64(i), begin, impl.OK)
				}
				begin += n
			}
			for _, at := range []int64{-1, -1 << 63, begin, begin + 1, 1<<63 - 1} {
				checkAt(t, r, data, at, 0, 0, impl.ErrRange)
			}
		}
	}
}

func TestChunksAtEveryPlace(t *testing.T) {
	r, data := impl.CutRule{Least: 2, Most: 3}, []byte("abcde")
	for at, index := range []int64{0, 0, 1, 1, 2} {
		checkAt(t, r, data, int64(at), index, 2*index, impl.OK)
	}
}

// plainCommon returns how many chunks two lists have in common at first.
func plainCommon(a, b [][]byte) int64 {
	for i := range a {
		if i >= len(b) || !bytes.Equal(a[i], b[i]) {
			return int64(i)
		}
	}
	return int64(len(a))
}

// checkCommon fails the test if CommonChunks or SpareBytes of a and b are not as they should be.
func checkCommon(t *testing.T, r impl.CutRule, a, b []byte) {
	t.Helper()
	listA, listB := plainAll(r, a), plainAll(r, b)
	spareWant := int64(0)
	for _, chunk := range listB {
		if !slices.ContainsFunc(listA, func(other []byte) bool { return bytes.Equal(chunk, other) }) {
			spareWant += int64(len(chunk))
		}
	}
	firstWant := plainCommon(listA, listB)
	slices.Reverse(listA)
	slices.Reverse(listB)
	first, last, code := impl.CommonChunks(r, a, b)
	same(t, "code of CommonChunks", code, impl.OK)
	same(t, "chunks in common at first", first, firstWant)
	same(t, "chunks in common at last", last, plainCommon(listA, listB))
	spare, code := impl.SpareBytes(r, a, b)
	same(t, "code of SpareBytes", code, impl.OK)
	same(t, "bytes", spare, spareWant)
}

func TestChunksInCommon(t *testing.T) {
	r := chance(47)
	for _, rule := range rules() {
		for _, data := range dataTried(48) {
			checkCommon(t, rule, data, data)
			checkCommon(t, rule, data, nil)
			checkCommon(t, rule, nil, data)
			if len(data) == 0 {
				continue
			}
			at := r.IntN(len(data))
			checkCommon(t, rule, data, data[:at])
			checkCommon(t, rule, data[:at], data)
			checkCommon(t, rule, data, data[at:])
			checkCommon(t, rule, data, slices.Concat(data[:at], []byte("new"), data[at:]))
			checkCommon(t, rule, data, slices.Concat(data[at:], data[:at]))
			changed := bytes.Clone(data)
			changed[at]++
			checkCommon(t, rule, data, changed)
		}
	}
}

func TestChunksInCommonAtTheirEdges(t *testing.T) {
	two, one := impl.CutRule{Least: 2, Most: 2}, impl.CutRule{Least: 1, Most: 1}
	tries := []struct {
		rule               impl.CutRule
		a, b               string
		first, last, spare int64
	}{
		{two, "", "", 0, 0, 0},
		{two, "", "abcd", 0, 0, 4},
		{two, "abcd", "", 0, 0, 0},
		{two, "abcd", "abcd", 2, 2, 0},
		{two, "abcd", "abcdef", 2, 0, 2}, // the one is the beginning of the other one
		{two, "abcdef", "abcd", 2, 0, 0},
		{two, "abababab", "abab", 2, 2, 0},
		{two, "abab", "abababab", 2, 2, 0},
		{two, "cdef", "abcdef", 0, 2, 2}, // the one is the end of the other one
		{two, "abcde", "abcd", 2, 0, 0},
		{two, "abcde", "abxde", 1, 1, 2},
		{two, "abcd", "bcda", 0, 0, 4},
		{two, "ab", "xyabxyxy", 0, 0, 6}, // each time that they occur
		{two, "abx", "xxx", 0, 1, 2},     // the last chunk counts by its bytes, too
		{one, "aaa", "aaaaa", 3, 3, 0},
		{one, "axa", "aya", 1, 1, 1},
		{one, "ab", "cc", 0, 0, 2},
	}
	for _, try := range tries {
		first, last, code := impl.CommonChunks(try.rule, []byte(try.a), []byte(try.b))
		same(t, try.a+" and "+try.b+": code", code, impl.OK)
		same(t, try.a+" and "+try.b+": at first", first, try.first)
		same(t, try.a+" and "+try.b+": at last", last, try.last)
		spare, code := impl.SpareBytes(try.rule, []byte(try.a), []byte(try.b))
		same(t, try.a+" and "+try.b+": code of SpareBytes", code, impl.OK)
		same(t, try.a+" and "+try.b+": bytes", spare, try.spare)
	}
}

func TestChunksInCommonOfMaxData(t *testing.T) {
	r := chance(49)
	a, b := someBytes(r, impl.MaxData), someBytes(r, impl.MaxData)
	for _, rule := range rules() {
		checkCommon(t, rule, a, a)
		checkCommon(t, rule, a, b)
	}
	first, last, code := impl.CommonChunks(impl.CutRule{Least: 1, Most: 1}, a, a)
	sameList(t, "one byte each", []int64{first, last, code}, []int64{impl.MaxData, impl.MaxData, impl.OK})
}
