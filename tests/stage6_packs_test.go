package tests

import (
	"bytes"
	"slices"
	"testing"

	"loop.example/g01174/impl"
)

// lineOf returns n blobs whose keys are in order. Of each there are several tries, of which the one is taken whose key is
// the next one behind that of the blob before.
func lineOf(n int, one func(i, try int) impl.Blob) []impl.Blob {
	var line []impl.Blob
	var last impl.Key
	for i := range n {
		var next impl.Key
		var found impl.Blob
		for try := range 400 {
			b := one(i, try)
			if k := plainBlobKey(b); before(last, k) && (found.Data == nil || before(k, next)) {
				next, found = k, b
			}
		}
		line = append(line, found)
		last = next
	}
	return line
}

// checkPacked checks the pack of a store, and what is read from it.
func checkPacked(t *testing.T, name string, s impl.Store) *reading {
	t.Helper()
	pack := plainPack(s)
	isBytes(t, name+": PackStore", pack)(impl.PackStore(s))
	r := checkPack(t, name, pack)
	same(t, name+": code", r.code, impl.OK)
	sameStore(t, name, r.store(), s)
	return r
}

// checkGivenBack checks that the pack of a store gives it back, whatever the records are.
func checkGivenBack(t *testing.T, name string, s impl.Store) {
	t.Helper()
	pack, code := impl.PackStore(s)
	same(t, name+": code", code, impl.OK)
	r := checkPack(t, name, pack)
	same(t, name+": code of the plain reader", r.code, impl.OK)
	sameStore(t, name, r.store(), s)
}

// isLine checks the pack of blobs, of whose records the bases are known (-1 for full ones).
func isLine(t *testing.T, name string, line []impl.Blob, bases ...int64) *reading {
	t.Helper()
	r := checkPacked(t, name, impl.Store{Blobs: line})
	var got []int64
	for _, e := range r.entries {
		got = append(got, e.Base)
	}
	sameList(t, name+": bases", got, bases)
	return r
}

func TestPacksOfEverySize(t *testing.T) {
	r := chance(611)
	for n := range impl.MaxBlobs + 1 {
		checkGivenBack(t, numbered("blobs", n), countedBlobs(n, n).store())
		checkGivenBack(t, numbered("alike blobs", n), alikeBlobs(r, n, 3).store())
		if n < 20 || n > 126 {
			checkPacked(t, numbered("counted blobs", n), countedBlobs(n, n).store())
		}
		if n < 16 {
			checkPacked(t, numbered("like blobs", n), alikeBlobs(r, n, 2).store())
		}
	}
}

func TestPacksOfStoresOfManyKinds(t *testing.T) {
	for i, p := range storesTried(612) {
		checkPacked(t, numbered("store", i), p.store())
	}
	r := chance(613)
	for i := range 6 {
		checkPacked(t, numbered("alike blobs", i), alikeBlobs(r, 25, 1+i/2).store())
	}
}

func TestPacksOfTheGreatestBlobs(t *testing.T) {
	r := chance(614)
	unlike, alike := plainStore{}, plainStore{}
	for range impl.MaxBlobs {
		b := blobOf(3, someBytes(r, impl.MaxBlobData))
		unlike[plainBlobKey(b)] = b
		c := blobOf(3, b.Data[:200], make([]byte, 824))
		alike[plainBlobKey(c)] = c
	}
	checkGivenBack(t, "unlike", unlike.store())
	checkGivenBack(t, "alike", alike.store())
	pack, code := impl.PackStore(unlike.store())
	same(t, "code", code, impl.OK)
	same(t, "full records", len(pack), 4+impl.MaxBlobs*(8+impl.MaxBlobData)+34)
	count, code := impl.CountDeltas(pack)
	same(t, "code of CountDeltas", code, impl.OK)
	same(t, "deltas of unlike blobs", count, 0)
	data := someBytes(r, impl.MaxBlobData)
	for i, other := range [][]byte{data, data[:1023], data[1:], data[500:], data[:8], nil} {
		checkPacked(t, numbered("two blobs", i), plainOf(blobOf(1, data), blobOf(2, data), blobOf(1, other), blobOf(2, other), blobOf(3)).store())
	}
}

func TestRecordsAreWritten(t *testing.T) {
	text := []byte("some words that come again")
	line := lineOf(3, func(i, try int) impl.Blob {
		return [...]impl.Blob{
			blobOf(1, text, twoBytes(try)),
			blobOf(1, []byte("<>"), text, twoBytes(try)),
			blobOf(2, text, twoBytes(try)),
		}[i]
	})
	var keys [][]byte
	for _, b := range line {
		k := plainBlobKey(b)
		keys = append(keys, k[:4])
	}
	n := len(line[0].Data)
	tail := line[1].Data[len(text)+2:]
	want := ended(slices.Concat(
		[]byte("HTP1"),
		[]byte{0, 1, byte(n), 0}, line[0].Data, keys[0],
		[]byte{1, 1, 0, 12, 0}, []byte{0, 2}, []byte("<>"), []byte{1, 0, 0, byte(len(text))}, []byte{0, 2}, tail, keys[1],
		[]byte{0, 2, byte(n), 0}, line[2].Data, keys[2],
	), 3)
	isBytes(t, "PackStore", want)(impl.PackStore(impl.Store{Blobs: line}))
	isLine(t, "three blobs", line, -1, 0, -1)
	isIndex(t, "IndexOfPack", []impl.PackEntry{
		{Key: plainBlobKey(line[0]), At: 4, Base: -1, Depth: 0},
		{Key: plainBlobKey(line[1]), At: int64(4 + 8 + n), Base: 0, Depth: 1},
		{Key: plainBlobKey(line[2]), At: int64(4 + 8 + n + 9 + 12), Base: -1, Depth: 0},
	})(impl.IndexOfPack(want))
	isNumber(t, "CountDeltas", int64(1))(impl.CountDeltas(want))
}

func TestPacksOfNoBlobs(t *testing.T) {
	k := plainHash(8, []byte("HTP1"))
	none := slices.Concat([]byte("HTP1\x02\x00"), k[:])
	isBytes(t, "PackStore", none)(impl.PackStore(impl.Store{}))
	isBytes(t, "PackStore without blobs", none)(impl.PackStore(impl.Store{Blobs: []impl.Blob{}}))
	checkRead(t, "no blobs", none, impl.OK, 0)
}

func TestFullRecordsAreTakenUnlessAProgramIsShorter(t *testing.T) {
	run := []byte("a run of bytes that come again")
	for n := 7; n < 16; n++ {
		pair := func(front, end int) []impl.Blob {
			return lineOf(2, func(i, try int) impl.Blob {
				mark := append(twoBytes(try), "##########"...)
				if i == 0 {
					return blobOf(5, mark[:2], []byte("*"), run[:n], []byte("*"))
				}
				return blobOf(5, mark[:front], run[:n], mark[:end])
			})
		}
		base := func(program, data int) int64 {
			if program+1 < data {
				return 0
			}
			return -1
		}
		if n < 8 {
			isLine(t, numbered("no run", n), pair(2, 4), -1, -1)
			continue
		}
		isLine(t, numbered("bytes before it", n), pair(2, 0), -1, base(4+4, 2+n))
		isLine(t, numbered("bytes behind it", n), pair(0, 3), -1, base(4+5, 3+n))
		isLine(t, numbered("bytes around it", n), pair(2, 1), -1, base(4+4+3, 3+n))
		isLine(t, numbered("more bytes around it", n), pair(2, 2), -1, base(4+4+4, 4+n))
	}
}

func TestPacksTakeTheShortestPrograms(t *testing.T) {
	text := []byte("0123456789abcdefghijklmnopqrstuvwxyz")
	for first := range 4 {
		lengths := []int{20, 20, 20, 20}
		lengths[first] = 30
		line := lineOf(5, func(i, try int) impl.Blob {
			mark := append([]byte("+++"), twoBytes(try)...)
			if i == 4 {
				return blobOf(9, text, mark[3:])
			}
			return blobOf(9, []byte{byte(200 + i), 199, byte(200 + i)}, text[:lengths[i]], mark)
		})
		r := checkPacked(t, numbered("the shortest one", first), impl.Store{Blobs: line})
		same(t, numbered("base", first), r.entries[4].Base, int64(first))
		for i := range lengths {
			lengths[i] = 20
			if i >= first {
				lengths[i] = 30
			}
		}
		line = lineOf(5, func(i, try int) impl.Blob {
			if i == 4 {
				return blobOf(9, text, twoBytes(try))
			}
			return blobOf(9, text[36-i:], []byte{byte(200 + i), 199}, text[:lengths[i]], twoBytes(try))
		})
		r = checkPacked(t, numbered("the first of several", first), impl.Store{Blobs: line})
		same(t, numbered("base of several", first), r.entries[4].Base, int64(first))
	}
}

func TestBasesHaveTheSameTag(t *testing.T) {
	text := []byte("the same words in each of them")
	tags := []byte{1, 2, 0, 255, 2, 1, 255, 3, 2}
	line := lineOf(len(tags), func(i, try int) impl.Blob {
		return blobOf(tags[i], text, []byte{byte(i)}, twoBytes(try))
	})
	r := checkPacked(t, "tags", impl.Store{Blobs: line})
	wants := map[int]byte{4: 2, 5: 1, 6: 255, 8: 2}
	for i, e := range r.entries {
		tag, found := wants[i]
		same(t, numbered("is a delta", i), e.Base >= 0, found)
		if found {
			same(t, numbered("tag", i), line[e.Base].Tag, tag)
		}
	}
	for tag := range 256 {
		b := blobOf(byte(tag), text)
		checkPacked(t, numbered("tag", tag), plainOf(b, blobOf(byte(tag), text, text), blobOf(byte(tag+1), text)).store())
	}
}

func TestDeltasOfDeltas(t *testing.T) {
	r := chance(615)
	parts := slices.Collect(slices.Chunk(someBytes(r, 400), 20))
	line := lineOf(20, func(i, try int) impl.Blob {
		return blobOf(4, slices.Concat(parts[:i+1]...), twoBytes(try))
	})
	bases := []int64{-1}
	for i := range 12 { // up to 255 bytes, each one has a run more
		bases = append(bases, int64(i))
	}
	read := isLine(t, "each of the one before", line[:13], bases...)
	for i, e := range read.entries {
		same(t, numbered("depth", i), e.Depth, int64(i))
	}
	checkPacked(t, "all of them", impl.Store{Blobs: line})
	slices.Reverse(parts)
	checkPacked(t, "alike ones", plainOf(append(line, blobOf(4, parts...))...).store())
}

func TestDeltasThatAreNotTheShortest(t *testing.T) {
	line := lineOf(impl.MaxBlobs, func(i, try int) impl.Blob { return blobOf(byte(i), []byte("word"), twoBytes(try)) })
	records := [][]byte{fullRecord(line[0])}
	for i := 1; i < len(line); i++ {
		records = append(records, deltaRecord(line[i], i-1, slices.Concat(copyOp(0, 4), addOp(string(line[i].Data[4:])))))
	}
	pack := packOf(records...)
	checkRead(t, "each of another tag", pack, impl.OK, impl.MaxBlobs)
	index, code := impl.IndexOfPack(pack)
	same(t, "code", code, impl.OK)
	same(t, "depth", index[impl.MaxBlobs-1].Depth, impl.MaxBlobs-1)
	same(t, "base", index[impl.MaxBlobs-1].Base, impl.MaxBlobs-2)
	for i, program := range [][]byte{
		addOp(string(line[1].Data)),
		slices.Concat(addOp("w"), addOp("o"), addOp("r"), copyOp(3, 1), addOp(string(line[1].Data[4:]))),
		slices.Concat(copyOp(0, 1), copyOp(1, 1), copyOp(2, 2), addOp(string(line[1].Data[4:]))),
	} {
		checkRead(t, numbered("another program", i), packOf(records[0], deltaRecord(line[1], 0, program)), impl.OK, 2)
	}
	empty := lineOf(2, func(i, try int) impl.Blob {
		if i == 1 {
			return impl.Blob{Tag: byte(try), Data: []byte{}}
		}
		return blobOf(1, twoBytes(try))
	})
	checkRead(t, "the program without operations", packOf(fullRecord(empty[0]), deltaRecord(empty[1], 0, nil)), impl.OK, 2)
}

// partedOps returns a program that adds all bytes by n operations.
func partedOps(data []byte, n int) []byte {
	var program []byte
	for i := range n {
		program = append(program, addOp(string(data[len(data)*i/n:len(data)*(i+1)/n]))...)
	}
	return program
}

func TestProgramsOfRecordsMayBeLong(t *testing.T) {
	data := plainBytes(impl.MaxBlobData)
	var ops []byte
	for i := range impl.MaxBlobData {
		ops = append(ops, copyOp(i, 1)...)
	}
	line := lineOf(2, func(i, try int) impl.Blob { return blobOf(byte(try), data, nil) })
	checkRead(t, "3072 bytes of a program", packOf(fullRecord(line[0]), deltaRecord(line[1], 0, partedOps(data, 1024))), impl.OK, 2)
	checkRead(t, "4096 bytes of a program", packOf(fullRecord(line[0]), deltaRecord(line[1], 0, ops)), impl.OK, 2)
	checkRead(t, "one operation more", packOf(fullRecord(line[0]), deltaRecord(line[1], 0, append(ops, 0, 1, 1))), impl.ErrSyntax, 1)
	checkRead(t, "the longest program", packOf(fullRecord(line[0]), deltaRecord(line[1], 0, slices.Repeat(copyOp(0, 255), 16383))), impl.ErrSyntax, 1)
}

func TestBlobsAreSought(t *testing.T) {
	r := chance(616)
	p := alikeBlobs(r, 30, 2).and(plainOf(blobOf(3), blobOf(9, make([]byte, impl.MaxBlobData))))
	pack := plainPack(p.store())
	for k, b := range p {
		isBlob(t, "SeekPack", b)(impl.SeekPack(pack, k))
		for _, bit := range []int{0, 7, 31, 32, 255} {
			isNoBlob(t, "SeekPack of another key", impl.ErrNotFound)(impl.SeekPack(pack, flipped(k, bit)))
		}
		isNoBlob(t, "SeekPack without it", impl.ErrNotFound)(impl.SeekPack(plainPack(p.without(k).store()), k))
	}
}

func TestPacksAreJoined(t *testing.T) {
	r := chance(617)
	all := alikeBlobs(r, 24, 2)
	keys := all.keys()
	for _, cut := range [][2]int{{0, 0}, {0, 24}, {12, 12}, {8, 16}, {0, 12}, {12, 24}, {23, 1}, {24, 0}} {
		one, two := all.without(keys[cut[0]:]...), all.without(keys[:cut[1]]...)
		if cut[0] > cut[1] {
			one, two = all.without(keys[cut[1]:]...), all.without(keys[:cut[1]]...)
		}
		a, b := plainPack(one.store()), plainPack(two.store())
		want := plainPack(one.and(two).store())
		isBytes(t, numbered("joined", cut[0], cut[1]), want)(impl.JoinPacks(a, b))
		isBytes(t, numbered("the other way", cut[0], cut[1]), want)(impl.JoinPacks(b, a))
		isBytes(t, numbered("with itself", cut[0], cut[1]), a)(impl.JoinPacks(a, a))
	}
	odd, third := plainStore{}, plainStore{}
	for i, k := range keys {
		if i%2 == 1 {
			odd[k] = all[k]
		}
		if i%3 == 0 {
			third[k] = all[k]
		}
	}
	isBytes(t, "blobs that both have", plainPack(odd.and(third).store()))(impl.JoinPacks(plainPack(odd.store()), plainPack(third.store())))
	full := plainOf(blobOf(1, []byte("word")))
	a := packOf(fullRecord(blobOf(1, []byte("word"))))
	isBytes(t, "records are written anew", plainPack(full.store()))(impl.JoinPacks(a, packOf()))
}

func TestPacksAreWrittenAnew(t *testing.T) {
	text := bytes.Repeat([]byte("word "), 30)
	line := lineOf(2, func(i, try int) impl.Blob { return blobOf(1, text, twoBytes(try)) })
	long := packOf(fullRecord(line[0]), fullRecord(line[1]))
	short := plainPack(impl.Store{Blobs: line})
	same(t, "a delta is shorter", len(short) < len(long), true)
	checkRead(t, "full records", long, impl.OK, 2)
	isBytes(t, "MendPack", short)(impl.MendPack(long))
	isBytes(t, "JoinPacks", short)(impl.JoinPacks(long, packOf()))
	isBytes(t, "JoinPacks with itself", short)(impl.JoinPacks(long, long))
	isBytes(t, "MendPack of what is short", short)(impl.MendPack(short))
}

func TestJoinedPacksHaveALimit(t *testing.T) {
	full := countedBlobs(0, impl.MaxBlobs)
	pack, code := impl.PackStore(full.store())
	same(t, "code", code, impl.OK)
	other := plainPack(countedBlobs(200, 1).store())
	isNone[byte](t, "one blob more", impl.ErrLimit)(impl.JoinPacks(pack, other))
	isNone[byte](t, "one blob more, the other way", impl.ErrLimit)(impl.JoinPacks(other, pack))
	isBytes(t, "no blob more", pack)(impl.JoinPacks(pack, plainPack(countedBlobs(5, 3).store())))
	isBytes(t, "as many as may be", pack)(impl.JoinPacks(plainPack(countedBlobs(0, 60).store()), plainPack(countedBlobs(60, 68).store())))
}

func TestPacksOfWhatIsReachable(t *testing.T) {
	r := chance(618)
	for i := range 40 {
		p, keys := someStore(r)
		for n := range 3 {
			var roots []impl.Key
			for range n {
				roots = append(roots, keys[r.IntN(len(keys))])
			}
			with, _ := p.reached(roots)
			reached := p.without(p.without(with...).keys()...)
			pack, code := impl.PackReachable(p.store(), roots)
			same(t, numbered("code", i, n), code, impl.OK)
			want, _ := impl.PackStore(reached.store())
			sameBytes(t, numbered("pack", i, n), pack, want)
			isStore(t, numbered("what is read", i, n), reached.store())(impl.ReadPack(pack))
		}
	}
	tree, root := mapBlobs(countedMap(9))
	list, key := listBlobs(countedChunks(7)...)
	isBytes(t, "a map", plainPack(tree.store()))(impl.PackReachable(tree.and(list).store(), []impl.Key{root}))
	isBytes(t, "a list", plainPack(list.store()))(impl.PackReachable(tree.and(list).store(), []impl.Key{key, key}))
	isBytes(t, "both", plainPack(tree.and(list).store()))(impl.PackReachable(tree.and(list).store(), []impl.Key{key, root}))
	isBytes(t, "no roots", packOf())(impl.PackReachable(tree.and(list).store(), nil))
	isBytes(t, "roots without a blob", packOf())(impl.PackReachable(list.store(), []impl.Key{root, {}}))
	most := slices.Repeat([]impl.Key{root}, impl.MaxKeys)
	isBytes(t, "MaxKeys roots", plainPack(tree.store()))(impl.PackReachable(tree.and(list).store(), most))
	isNone[byte](t, "one root more", impl.ErrLimit)(impl.PackReachable(tree.store(), append(most, root)))
	for i, s := range wrongStores() {
		isNone[byte](t, numbered("PackReachable of a wrong store", i), impl.ErrInvalid)(impl.PackReachable(s, nil))
		isNone[byte](t, numbered("ahead of the limit", i), impl.ErrInvalid)(impl.PackReachable(s, append(most, root)))
		isNone[byte](t, numbered("PackStore of a wrong store", i), impl.ErrInvalid)(impl.PackStore(s))
	}
}
