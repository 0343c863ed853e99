package tests

import (
	"slices"
	"testing"

	"loop.example/g01174/impl"
)

// tornStores returns stores whose packs are torn and changed: with full and delta records, and without any.
func tornStores() []impl.Store {
	text := []byte("some words that come again")
	line := lineOf(4, func(i, try int) impl.Blob {
		return blobOf(byte(i/3), text[:len(text)-i], twoBytes(try))
	})
	return []impl.Store{
		{},
		plainOf(blobOf(0)).store(),
		plainOf(blobOf(0), blobOf(1), blobOf(2)).store(),
		{Blobs: line},
		plainOf(chunkBlob("HTP1"), folderOf(impl.Key{}), chunkBlob("\x02\x02\x02")).store(),
	}
}

// wholeBefore returns how many records of a pack end at a place or before it.
func wholeBefore(records [][]byte, place int) int {
	for i, rec := range records {
		if place -= len(rec); place < 4 {
			return i
		}
	}
	return len(records)
}

func TestPacksThatAreCutOff(t *testing.T) {
	for i, s := range tornStores() {
		records := plainRecords(s)
		pack := plainPack(s)
		for n := range len(pack) {
			name := numbered("cut off", i, n)
			checkRead(t, name, pack[:n], impl.ErrSyntax, wholeBefore(records, n))
			if n < 4 {
				continue
			}
			whole := wholeBefore(records, n)
			isScanned(t, name, impl.Store{Blobs: s.Blobs[:whole]}, len(unendedPack(records[:whole]...)), impl.OK)(impl.ScanPack(pack[:n]))
			isBytes(t, name+": MendPack", plainPack(impl.Store{Blobs: s.Blobs[:whole]}))(impl.MendPack(pack[:n]))
		}
		checkRead(t, numbered("whole", i), pack, impl.OK, len(records))
		isBytes(t, numbered("MendPack of what is whole", i), pack)(impl.MendPack(pack))
	}
}

func TestPacksInWhichBitsAreChanged(t *testing.T) {
	for i, s := range tornStores() {
		records := plainRecords(s)
		pack := plainPack(s)
		for at := range pack {
			for bit := range 8 {
				name := numbered("bit", i, at, bit)
				spoiled := slices.Clone(pack)
				spoiled[at] ^= 1 << bit
				isBytes(t, name+": SpoilPack", spoiled)(impl.SpoilPack(pack, int64(at), int64(bit)))
				isBytes(t, name+": SpoilPack again", pack)(impl.SpoilPack(spoiled, int64(at), int64(bit)))
				r := checkPack(t, name, spoiled)
				if r.code == impl.OK {
					t.Errorf("%s: it is not found", name)
				}
				if whole := wholeBefore(records, at); at >= 4 && len(r.entries) < whole {
					t.Errorf("%s: got %d records, want %d", name, len(r.entries), whole)
				}
			}
		}
	}
}

func TestPacksWithBytesBehindTheirEnd(t *testing.T) {
	for i, s := range tornStores() {
		pack := plainPack(s)
		n := len(s.Blobs)
		for k, more := range [][]byte{{0}, {2}, make([]byte, 34), pack, pack[4:], pack[len(pack)-34:], fullRecord(blobOf(255))} {
			checkRead(t, numbered("bytes behind the end", i, k), slices.Concat(pack, more), impl.ErrSyntax, n)
			wrong := slices.Clone(pack)
			wrong[len(wrong)-1]++
			checkRead(t, numbered("bytes behind an end with another key", i, k), slices.Concat(wrong, more), impl.ErrSyntax, n)
		}
	}
}

func TestDataThatAreNoPacks(t *testing.T) {
	for i, data := range []string{"", "H", "HT", "HTP", "HTP2", "htp1", " HTP1", "1PTH", "HTP", "HTP\x01", "\x00HTP1", "ITP1", "HTP0"} {
		checkRead(t, numbered("other bytes", i), []byte(data), impl.ErrSyntax, 0)
		checkRead(t, numbered("other bytes in front", i), append([]byte(data+"."), packOf()...), impl.ErrSyntax, 0)
		if len(data) == 4 {
			checkRead(t, numbered("four other bytes", i), ended([]byte(data), 0), impl.ErrSyntax, 0)
		}
	}
	isScanned(t, "the four bytes alone", impl.Store{}, 4, impl.OK)(impl.ScanPack([]byte("HTP1")))
	isBytes(t, "MendPack of them", packOf())(impl.MendPack([]byte("HTP1")))
}

// smallLine returns n blobs of a tag, with few bytes, in the order of their keys, and their full records.
func smallLine(n int, tag byte) ([]impl.Blob, [][]byte) {
	line := countedBlobs(int(tag)*1000, n).store().Blobs
	var records [][]byte
	for _, b := range line {
		records = append(records, fullRecord(b))
	}
	return line, records
}

func TestPacksHaveALimitOfRecords(t *testing.T) {
	line, records := smallLine(impl.MaxBlobs+2, 1)
	most := records[:impl.MaxBlobs]
	checkRead(t, "MaxBlobs", packOf(most...), impl.OK, impl.MaxBlobs)
	checkRead(t, "one more", packOf(records[:impl.MaxBlobs+1]...), impl.ErrSyntax, impl.MaxBlobs)
	checkRead(t, "two more", packOf(records...), impl.ErrSyntax, impl.MaxBlobs)
	checkRead(t, "one more that is not counted", ended(unendedPack(records[:impl.MaxBlobs+1]...), impl.MaxBlobs), impl.ErrSyntax, impl.MaxBlobs)
	last := line[impl.MaxBlobs]
	wrong := slices.Clone(records[impl.MaxBlobs])
	wrong[len(wrong)-1]++
	delta := deltaRecord(last, 3, addOp(string(last.Data)))
	for i, try := range []struct {
		record []byte
		code   int64 // if there is room for it
		right  int
	}{
		{wrong, impl.ErrProof, 0},
		{records[0], impl.ErrProof, 0},
		{records[impl.MaxBlobs-1], impl.OK, 1},
		{delta, impl.OK, 1},
		{changedAt(delta, len(delta)-1), impl.ErrProof, 0},
		{[]byte{0}, impl.ErrSyntax, 0},
		{[]byte{7}, impl.ErrSyntax, 0},
	} {
		checkRead(t, numbered("one more", i), packOf(append(slices.Clone(most), try.record)...), impl.ErrSyntax, impl.MaxBlobs)
		checkRead(t, numbered("the last one", i), packOf(append(slices.Clone(most[:impl.MaxBlobs-1]), try.record)...), try.code, impl.MaxBlobs-1+try.right)
	}
	checkRead(t, "no end", unendedPack(most...), impl.ErrSyntax, impl.MaxBlobs)
	checkRead(t, "no record", packOf(), impl.OK, 0)
}

// setAt returns data with a byte at a place, and changedAt with another one than there was.
func setAt(data []byte, at int, b byte) []byte {
	other := slices.Clone(data)
	other[at] = b
	return other
}

func changedAt(data []byte, at int) []byte {
	return setAt(data, at, data[at]+1)
}

func TestEndsWithAnotherNumberOfRecords(t *testing.T) {
	_, records := smallLine(impl.MaxBlobs, 2)
	for _, n := range []int{0, 1, 2, 3, 100, impl.MaxBlobs} {
		data := unendedPack(records[:n]...)
		for _, count := range []int{0, 1, n - 1, n + 1, n + 2, 127, 128, 129, 254, 255} {
			if count == n || count < 0 {
				continue
			}
			checkRead(t, numbered("another number", n, count), ended(data, count), impl.ErrSyntax, n)
		}
		checkRead(t, numbered("that number", n), ended(data, n), impl.OK, n)
	}
}

func TestEndsWithAnotherKey(t *testing.T) {
	for i, s := range tornStores() {
		pack := plainPack(s)
		n := len(s.Blobs)
		before := pack[:len(pack)-34]
		for bit := range 256 {
			k := flipped(plainHash(8, before), bit)
			checkRead(t, numbered("another key", i, bit), slices.Concat(before, []byte{2, byte(n)}, k[:]), impl.ErrProof, n)
		}
		for k, other := range []impl.Key{{}, plainHash(7, before), plainHash(8, pack[:len(pack)-33]), plainHash(8, before[4:]), plainHash(8, pack[:len(pack)-32])} {
			checkRead(t, numbered("another one", i, k), slices.Concat(before, []byte{2, byte(n)}, other[:]), impl.ErrProof, n)
		}
		if n > 0 {
			wrong := slices.Concat(before, []byte{2, byte(n - 1)}, make([]byte, 32))
			checkRead(t, numbered("another number ahead of another key", i), wrong, impl.ErrSyntax, n)
		}
	}
}

func TestEndsThatAreTorn(t *testing.T) {
	_, records := smallLine(3, 3)
	data := unendedPack(records...)
	whole := ended(data, 3)
	for n := 1; n <= 34; n++ {
		checkRead(t, numbered("bytes of an end", n), whole[:len(whole)-n], impl.ErrSyntax, 3)
		checkRead(t, numbered("bytes of an end with another number", n), ended(data, 2)[:len(whole)-n], impl.ErrSyntax, 3)
	}
	for kind := 3; kind < 256; kind++ {
		checkRead(t, numbered("another byte instead of 2", kind), setAt(whole, len(data), byte(kind)), impl.ErrSyntax, 3)
	}
	twice := slices.Concat(whole, whole[len(data):])
	checkRead(t, "two ends", twice, impl.ErrSyntax, 3)
	checkRead(t, "an end between records", slices.Concat(ended(unendedPack(records[:2]...), 2), records[2], whole[len(data):]), impl.ErrSyntax, 2)
}

func TestRecordsThatAreNotRight(t *testing.T) {
	line, records := smallLine(5, 4)
	delta := deltaRecord(line[2], 1, addOp(string(line[2].Data)))
	for i, rec := range [][]byte{records[2], delta} {
		pack := func(rec []byte) []byte { return packOf(records[0], records[1], rec, records[3], records[4]) }
		checkRead(t, numbered("right", i), pack(rec), impl.OK, 5)
		checkRead(t, numbered("another tag", i), pack(changedAt(rec, 1)), impl.ErrProof, 2)
		checkRead(t, numbered("another byte", i), pack(changedAt(rec, len(rec)-5)), impl.ErrProof, 2)
		for n := 1; n <= 4; n++ {
			checkRead(t, numbered("four other bytes", i, n), pack(changedAt(rec, len(rec)-n)), impl.ErrProof, 2)
		}
		checkRead(t, numbered("four bytes 0", i), pack(slices.Concat(rec[:len(rec)-4], make([]byte, 4))), impl.ErrProof, 2)
		other := plainBlobKey(line[3])
		checkRead(t, numbered("four bytes of the next key", i), pack(slices.Concat(rec[:len(rec)-4], other[:4])), impl.ErrProof, 2)
		own := plainBlobKey(line[2])
		checkRead(t, numbered("the next four bytes of the key", i), pack(slices.Concat(rec[:len(rec)-4], own[4:8])), impl.ErrProof, 2)
		checkRead(t, numbered("kind", i), pack(setAt(rec, 0, 3)), impl.ErrSyntax, 2)
		checkRead(t, numbered("kind 255", i), pack(setAt(rec, 0, 255)), impl.ErrSyntax, 2)
		checkRead(t, numbered("the first one", i), packOf(changedAt(rec, len(rec)-1)), []int64{impl.ErrProof, impl.ErrSyntax}[i], 0)
		checkRead(t, numbered("the last one", i), packOf(records[0], records[1], changedAt(rec, len(rec)-1)), impl.ErrProof, 2)
	}
}

func TestRecordsThatAreNotInOrder(t *testing.T) {
	line, records := smallLine(4, 5)
	checkRead(t, "equal", packOf(records[0], records[0]), impl.ErrProof, 1)
	checkRead(t, "equal behind others", packOf(records[0], records[1], records[2], records[2]), impl.ErrProof, 3)
	checkRead(t, "equal to one before", packOf(records[0], records[1], records[0]), impl.ErrProof, 2)
	checkRead(t, "exchanged", packOf(records[1], records[0]), impl.ErrProof, 1)
	checkRead(t, "exchanged behind others", packOf(records[0], records[2], records[1], records[3]), impl.ErrProof, 2)
	checkRead(t, "the greatest one first", packOf(records[3], records[0], records[1], records[2]), impl.ErrProof, 1)
	checkRead(t, "between two", packOf(records[0], records[2], records[1]), impl.ErrProof, 2)
	checkRead(t, "a delta that makes its base", packOf(records[0], deltaRecord(line[0], 0, copyOp(0, len(line[0].Data)))), impl.ErrProof, 1)
	checkRead(t, "a delta that makes one before", packOf(records[1], deltaRecord(line[0], 0, addOp(string(line[0].Data)))), impl.ErrProof, 1)
	checkRead(t, "not all", packOf(records[1], records[3]), impl.OK, 2)
}

func TestBasesAreEarlier(t *testing.T) {
	line, records := smallLine(5, 6)
	for base := range 256 {
		code, n := int64(impl.ErrSyntax), 3
		if base < 3 {
			code, n = impl.OK, 5
		}
		rec := deltaRecord(line[3], base, addOp(string(line[3].Data)))
		checkRead(t, numbered("base", base), packOf(records[0], records[1], records[2], rec, records[4]), code, n)
		checkRead(t, numbered("base of the first record", base), packOf(deltaRecord(line[0], base, addOp(string(line[0].Data)))), impl.ErrSyntax, 0)
		wrong := changedAt(rec, len(rec)-1)
		if code == impl.OK {
			code = impl.ErrProof
		}
		checkRead(t, numbered("base of a record that is not right", base), packOf(records[0], records[1], records[2], wrong), code, 3)
	}
}

func TestProgramsOfRecordsThatAreWrong(t *testing.T) {
	line, records := smallLine(2, 7)
	base := len(line[0].Data)
	for i, program := range [][]byte{{0}, {0, 0}, {0, 2, 1}, {1}, {1, 0}, {1, 0, 0}, {1, 0, 0, 0}, {2, 1, 1}, {255}, copyOp(base, 1), copyOp(0, base+1), copyOp(256, 1)} {
		for k, text := range [][]byte{program, slices.Concat(addOp(string(line[1].Data)), program), slices.Concat(program, addOp(string(line[1].Data)))} {
			checkRead(t, numbered("program", i, k), packOf(records[0], deltaRecord(line[1], 0, text)), impl.ErrSyntax, 1)
			rec := deltaRecord(line[1], 0, text)
			checkRead(t, numbered("program of another key", i, k), packOf(records[0], changedAt(rec, len(rec)-2)), impl.ErrSyntax, 1)
		}
	}
	checkRead(t, "a program that makes something else", packOf(records[0], deltaRecord(line[1], 0, addOp("else"))), impl.ErrProof, 1)
	checkRead(t, "no program", packOf(records[0], deltaRecord(line[1], 0, nil)), impl.ErrProof, 1)
}

func TestRecordsHaveALimitOfBytes(t *testing.T) {
	more := make([]byte, impl.MaxBlobData+1)
	most := more[1:]
	base := fullRecord(blobOf(1, most))
	checkRead(t, "MaxBlobData bytes", packOf(base), impl.OK, 1)
	checkRead(t, "one more", packOf(fullRecord(blobOf(1, more))), impl.ErrSyntax, 0)
	for _, n := range []int{1025, 1026, 2048, 4097, 65535} {
		b := blobOf(1, make([]byte, n))
		checkRead(t, numbered("bytes", n), packOf(fullRecord(b)), impl.ErrSyntax, 0)
		checkRead(t, numbered("bytes, and four others", n), packOf(changedAt(fullRecord(b), n+7)), impl.ErrSyntax, 0)
		checkRead(t, numbered("bytes behind a record", n), packOf(base, fullRecord(b)), impl.ErrSyntax, 1)
	}
	four := slices.Repeat(copyOp(0, 255), 4)
	line := lineOf(2, func(i, try int) impl.Blob { return blobOf(byte(try), most) })
	full := fullRecord(line[0])
	checkRead(t, "a program that makes MaxBlobData bytes", packOf(full, deltaRecord(line[1], 0, slices.Concat(four, copyOp(0, 4)))), impl.OK, 2)
	checkRead(t, "a program that makes one more", packOf(full, deltaRecord(blobOf(line[1].Tag, more), 0, slices.Concat(four, copyOp(0, 5)))), impl.ErrSyntax, 1)
	checkRead(t, "a program that makes many", packOf(full, deltaRecord(line[1], 0, slices.Repeat(four, 100))), impl.ErrSyntax, 1)
	checkRead(t, "a program that makes many, and is wrong", packOf(full, deltaRecord(line[1], 0, append(slices.Repeat(four, 100), 9))), impl.ErrSyntax, 1)
}

func TestTheFirstThingThatIsWrongIsTold(t *testing.T) {
	line, records := smallLine(4, 8)
	unproved := changedAt(records[1], len(records[1])-1)
	formless := setAt(records[1], 0, 9)
	late := ended(unendedPack(records[:2]...), 7)
	checkRead(t, "not right, then without form", packOf(records[0], unproved, formless), impl.ErrProof, 1)
	checkRead(t, "without form, then not right", packOf(records[0], formless, unproved), impl.ErrSyntax, 1)
	checkRead(t, "not right, then torn", unendedPack(records[0], unproved, records[2][:3]), impl.ErrProof, 1)
	checkRead(t, "not right, then no end", unendedPack(records[0], unproved), impl.ErrProof, 1)
	checkRead(t, "not right, then another number", ended(unendedPack(unproved), 9), impl.ErrProof, 0)
	checkRead(t, "not right, then bytes behind the end", append(packOf(unproved), 1), impl.ErrProof, 0)
	checkRead(t, "out of order, then without form", packOf(records[1], records[0], formless), impl.ErrProof, 1)
	checkRead(t, "not right, then a base that is not earlier", packOf(unproved, deltaRecord(line[2], 5, nil)), impl.ErrProof, 0)
	checkRead(t, "another number, and bytes behind", append(late, 1), impl.ErrSyntax, 2)
	checkRead(t, "another number, and another key", changedAt(late, len(late)-1), impl.ErrSyntax, 2)
	whole := ended(unendedPack(records[:2]...), 2)
	checkRead(t, "bytes behind, and another key", append(changedAt(whole, len(whole)-1), 1), impl.ErrSyntax, 2)
	checkRead(t, "another key alone", changedAt(whole, len(whole)-1), impl.ErrProof, 2)
	checkRead(t, "the wrong bytes at the beginning, and not right", append([]byte("HTP2"), packOf(unproved)[4:]...), impl.ErrSyntax, 0)
	tooLate := packOf(append(slices.Clone(records[:1]), unproved)...)
	checkRead(t, "not right, and a key of the end that is", tooLate, impl.ErrProof, 1)
	_, many := smallLine(impl.MaxBlobs+1, 8)
	checkRead(t, "not right, then too many", packOf(append(slices.Clone(many[:50]), slices.Concat(many[49], slices.Concat(many[50:]...)))...), impl.ErrProof, 50)
}

func TestPacksInWhichBytesAreChanged(t *testing.T) {
	r := chance(621)
	for i := range 40 {
		s := alikeBlobs(r, 1+i%9, 1+i%2).store()
		records := plainRecords(s)
		pack := plainPack(s)
		for n := range 40 {
			other := slices.Clone(pack)
			switch n % 4 {
			case 0:
				other[r.IntN(len(other))] = byte(r.IntN(4))
			case 1:
				other[r.IntN(len(other))] = byte(r.Uint32())
			case 2:
				other = editedBytes(r, pack)
			case 3:
				shuffledRecords := slices.Clone(records)
				at := r.IntN(len(records))
				shuffledRecords[at] = records[r.IntN(len(records))]
				other = packOf(shuffledRecords...)
			}
			checkPack(t, numbered("changed", i, n), other)
		}
	}
}

func TestErrorsOfJoinedPacksInOrder(t *testing.T) {
	full, code := impl.PackStore(fullStore())
	same(t, "code", code, impl.OK)
	other := plainPack(countedBlobs(500, 1).store())
	syntax, proof := full[:len(full)-1], changedAt(full, len(full)-1)
	isNone[byte](t, "both, a torn", impl.ErrSyntax)(impl.JoinPacks(syntax, proof))
	isNone[byte](t, "both, b torn", impl.ErrProof)(impl.JoinPacks(proof, syntax))
	isNone[byte](t, "b alone", impl.ErrSyntax)(impl.JoinPacks(other, syntax))
	isNone[byte](t, "b alone, changed", impl.ErrProof)(impl.JoinPacks(other, proof))
	isNone[byte](t, "a alone", impl.ErrProof)(impl.JoinPacks(proof, other))
	isNone[byte](t, "too many blobs, the last error", impl.ErrLimit)(impl.JoinPacks(full, other))
	long := make([]byte, impl.MaxPack+1)
	for i, data := range [][]byte{nil, other, syntax, proof, long} {
		isNone[byte](t, numbered("a is too long", i), impl.ErrLimit)(impl.JoinPacks(long, data))
		isNone[byte](t, numbered("b is too long", i), impl.ErrLimit)(impl.JoinPacks(data, long))
	}
}

// longPack returns a pack with a number of bytes, most of which are those of long programs.
func longPack(size int) []byte {
	deltas := 100 + size%2 // without its operations each has an odd number of bytes, and each operation has two more
	p := plainStore{}
	for i := range deltas + 1 {
		b := blobOf(11, twoBytes(i), make([]byte, 998))
		p[plainBlobKey(b)] = b
	}
	line := p.store().Blobs
	records := [][]byte{fullRecord(line[0])}
	operations := (size - 4 - 34 - 1008 - 1009*deltas) / 2
	for i, b := range line[1:] {
		n := operations / (deltas - i)
		operations -= n
		records = append(records, deltaRecord(b, i, partedOps(b.Data, n)))
	}
	return packOf(records...)
}

func TestPacksHaveALimitOfBytes(t *testing.T) {
	most, more := longPack(impl.MaxPack), longPack(impl.MaxPack+1)
	same(t, "bytes", len(most), impl.MaxPack)
	checkRead(t, "MaxPack", most, impl.OK, 101)
	checkRead(t, "MaxPack that is torn", append(most[:impl.MaxPack-1:impl.MaxPack-1], 0), impl.ErrProof, 101)
	checkRead(t, "MaxPack of other bytes", make([]byte, impl.MaxPack), impl.ErrSyntax, 0)
	checkRead(t, "MaxPack of bytes behind an end", append(packOf(), make([]byte, impl.MaxPack-38)...), impl.ErrSyntax, 0)
	same(t, "one byte more", len(more), impl.MaxPack+1)
	same(t, "it is a pack but for the limit", plainRead(more).code, impl.OK)
	for i, data := range [][]byte{more, append(slices.Clone(most), 1), make([]byte, impl.MaxPack+1), make([]byte, 900000)} {
		name := numbered("too many bytes", i)
		isWrongPack(t, name, data, impl.ErrLimit)
		isRefused(t, name+": IsPack", impl.ErrLimit)(impl.IsPack(data))
		isScanned(t, name+": ScanPack", impl.Store{}, 0, impl.ErrLimit)(impl.ScanPack(data))
		isNone[byte](t, name+": MendPack", impl.ErrLimit)(impl.MendPack(data))
		isNone[byte](t, name+": SpoilPack", impl.ErrLimit)(impl.SpoilPack(data, 0, 0))
		isNone[byte](t, name+": SpoilPack where there is no bit", impl.ErrLimit)(impl.SpoilPack(data, -1, 8))
		isCode[impl.Key](t, name+": KeyOfPack", impl.ErrLimit)(impl.KeyOfPack(data))
	}
}

func TestBitsAreSpoiled(t *testing.T) {
	for _, data := range [][]byte{{0}, {255}, {1, 2}, plainBytes(300), make([]byte, impl.MaxPack)} {
		for _, at := range []int{0, len(data) / 2, len(data) - 1} {
			for bit := range 8 {
				isBytes(t, numbered("bit", len(data), at, bit), setAt(data, at, data[at]^1<<bit))(impl.SpoilPack(data, int64(at), int64(bit)))
			}
		}
	}
}

func TestPlacesOfBits(t *testing.T) {
	for _, n := range []int{0, 1, 2, 38, 300} {
		data := plainBytes(n)
		for _, bit := range append(farNumbers(), 0, 7, -1, 8, 9, 63, 64, 256) {
			for _, at := range append(farNumbers(), 0, int64(n)-1, -1, int64(n), int64(n)+1) {
				if at < 0 || at >= int64(n) || bit < 0 || bit > 7 {
					isNone[byte](t, numbered("no bit", n, int(at), int(bit)), impl.ErrRange)(impl.SpoilPack(data, at, bit))
				} else {
					isBytes(t, numbered("a bit", n, int(at), int(bit)), setAt(data, int(at), data[at]^1<<bit))(impl.SpoilPack(data, at, bit))
				}
			}
		}
	}
}

func TestKeysOfPacks(t *testing.T) {
	r := chance(622)
	for _, n := range []int{0, 1, 4, 23, 24, 25, 31, 32, 33, 4095, 4096, 4097, 8192, 8200, 100000, impl.MaxPack} {
		data := someBytes(r, n)
		isNumber(t, numbered("bytes", n), plainHash(8, data))(impl.KeyOfPack(data))
	}
	for i, s := range tornStores() {
		pack := plainPack(s)
		before := pack[:len(pack)-34]
		k, code := impl.KeyOfPack(before)
		same(t, numbered("code", i), code, impl.OK)
		sameBytes(t, numbered("the end", i), pack[len(pack)-32:], k[:])
		h := impl.StartHasher(8)
		for part := range slices.Chunk(before, 7) {
			h, _ = impl.FeedHasher(h, part)
		}
		isNumber(t, numbered("that of a hasher", i), k)(impl.KeyOf(h))
	}
}
