package tests

import (
	"bytes"
	"math/rand/v2"
	"slices"
	"testing"

	"loop.example/g01174/impl"
)

// addOp and copyOp return the operations that add bytes, and that add n bytes of the base from a place on.
func addOp(text string) []byte {
	return slices.Concat([]byte{0, byte(len(text))}, []byte(text))
}

func copyOp(at, n int) []byte {
	return []byte{1, byte(at), byte(at >> 8), byte(n)}
}

// addOps returns the operations that add bytes by themselves, as few as there may be, all but the last one full.
func addOps(data []byte) []byte {
	var program []byte
	for part := range slices.Chunk(data, 255) {
		program = append(program, addOp(string(part))...)
	}
	return program
}

// plainRun returns the first place of a base at which the longest beginning of data stands, of at most 255 bytes, and
// its length.
func plainRun(base, data []byte) (first, most int) {
	data = data[:min(len(data), 255)]
	for at := range base {
		n := 0
		for n < len(data) && at+n < len(base) && base[at+n] == data[n] {
			n++
		}
		if n > most {
			first, most = at, n
		}
	}
	return first, most
}

// plainDelta is DeltaOf as the document tells it, without its limits.
func plainDelta(base, data []byte) []byte {
	var program, alone []byte
	for len(data) > 0 {
		at, n := plainRun(base, data)
		if n < 8 {
			alone = append(alone, data[0])
			data = data[1:]
			continue
		}
		program = slices.Concat(program, addOps(alone), copyOp(at, n))
		data, alone = data[n:], nil
	}
	return append(program, addOps(alone)...)
}

// plainMade returns what a program makes of a base, and whether it is a list of operations.
func plainMade(base, program []byte) ([]byte, bool) {
	var made []byte
	for len(program) > 0 {
		head := append(slices.Clone(program), 0, 0, 0, 0)
		size := len(program)
		if n := int(head[1]); head[0] == 0 && n > 0 && size >= 2+n {
			made = append(made, program[2:2+n]...)
			program = program[2+n:]
			continue
		}
		at, n := int(head[1])+256*int(head[2]), int(head[3])
		if head[0] != 1 || size < 4 || n == 0 || at+n > len(base) {
			return nil, false
		}
		made = append(made, base[at:at+n]...)
		program = program[4:]
	}
	return made, true
}

// twoBytes returns a number in two bytes, the lower one first.
func twoBytes(n int) []byte {
	return []byte{byte(n), byte(n / 256)}
}

// fullRecord and deltaRecord return the records of a blob, whatever the program makes.
func fullRecord(b impl.Blob) []byte {
	k := plainBlobKey(b)
	return slices.Concat([]byte{0, b.Tag}, twoBytes(len(b.Data)), b.Data, k[:4])
}

func deltaRecord(b impl.Blob, base int, program []byte) []byte {
	k := plainBlobKey(b)
	return slices.Concat([]byte{1, b.Tag, byte(base)}, twoBytes(len(program)), program, k[:4])
}

// unendedPack returns a pack of records without its end.
func unendedPack(records ...[]byte) []byte {
	return slices.Concat([]byte("HTP1"), slices.Concat(records...))
}

// ended returns the bytes of a pack with an end that tells a number of records.
func ended(data []byte, count int) []byte {
	k := plainHash(8, data)
	return slices.Concat(data, []byte{2, byte(count)}, k[:])
}

// packOf returns the pack of records.
func packOf(records ...[]byte) []byte {
	return ended(unendedPack(records...), len(records))
}

// plainRecord returns the record of a blob behind some others, as the document tells it.
func plainRecord(b impl.Blob, before []impl.Blob) []byte {
	var shortest []byte
	base := -1
	for i, other := range before {
		if other.Tag != b.Tag {
			continue
		}
		if program := plainDelta(other.Data, b.Data); len(program) <= 1024 && (base < 0 || len(program) < len(shortest)) {
			base, shortest = i, program
		}
	}
	if base >= 0 && len(shortest)+1 < len(b.Data) {
		return deltaRecord(b, base, shortest)
	}
	return fullRecord(b)
}

// plainRecords returns the records of a store, as the document tells them.
func plainRecords(s impl.Store) [][]byte {
	var records [][]byte
	for i, b := range s.Blobs {
		records = append(records, plainRecord(b, s.Blobs[:i]))
	}
	return records
}

// plainPack is PackStore as the document tells it.
func plainPack(s impl.Store) []byte {
	return packOf(plainRecords(s)...)
}

// reading is what a plain reader finds in a pack.
type reading struct {
	marked  bool                   // it begins with the four bytes
	entries []impl.PackEntry       // of the right records at the beginning
	blobs   map[impl.Key]impl.Blob // those of these records
	place   int                    // up to the end of the last one
	code    int64                  // that of ReadPack
}

// store returns the store of what has been read.
func (r *reading) store() impl.Store {
	return plainStore(r.blobs).store()
}

// deltas returns the number of delta records.
func (r *reading) deltas() int64 {
	n := int64(0)
	for _, e := range r.entries {
		n += min(e.Base+1, 1)
	}
	return n
}

// record reads the record with which data begin: its blob, its base, its length, and whether it has the form.
func (r *reading) record(data []byte) (b impl.Blob, base int64, size int, formed bool) {
	base = -1
	head := 4
	if len(data) > 0 && data[0] == 1 {
		head = 5
	}
	if len(data) < head || data[0] > 1 {
		return b, base, 0, false
	}
	n := int(data[head-2]) + 256*int(data[head-1])
	size = head + n + 4
	if len(data) < size {
		return b, base, 0, false
	}
	b = impl.Blob{Tag: data[1], Data: data[head : head+n]}
	if head == 5 {
		base = int64(data[2])
		if base >= int64(len(r.entries)) {
			return b, base, 0, false
		}
		made, formed := plainMade(r.blobs[r.entries[base].Key].Data, b.Data)
		if !formed {
			return b, base, 0, false
		}
		b.Data = made
	}
	return b, base, size, len(b.Data) <= 1024
}

// right reads right records as long as there are any, and returns whether there is one more that has the form.
func (r *reading) right(data []byte) bool {
	for {
		b, base, size, formed := r.record(data[r.place:])
		if !formed || len(r.entries) == 128 {
			return false
		}
		k := plainBlobKey(b)
		n := len(r.entries)
		if !bytes.Equal(k[:4], data[r.place+size-4:r.place+size]) || n > 0 && !before(r.entries[n-1].Key, k) {
			return true
		}
		e := impl.PackEntry{Key: k, At: int64(r.place), Base: base}
		if base >= 0 {
			e.Depth = r.entries[base].Depth + 1
		}
		r.entries = append(r.entries, e)
		r.blobs[k] = b
		r.place += size
	}
}

// plainRead is what all functions that read a pack go by, as the document tells it, without their limit.
func plainRead(data []byte) *reading {
	r := &reading{code: impl.ErrSyntax, blobs: map[impl.Key]impl.Blob{}}
	if !bytes.HasPrefix(data, []byte("HTP1")) {
		return r
	}
	r.marked, r.place = true, 4
	formed := r.right(data)
	end := data[r.place:]
	switch {
	case formed:
		r.code = impl.ErrProof
	case len(end) != 34 || end[0] != 2 || int(end[1]) != len(r.entries):
		r.code = impl.ErrSyntax
	case plainHash(8, data[:r.place]) != impl.Key(end[2:]):
		r.code = impl.ErrProof
	default:
		r.code = impl.OK
	}
	return r
}

// isBytes fails the test if a function that returns bytes does not return want and OK.
func isBytes(t *testing.T, name string, want []byte) func([]byte, int64) {
	return func(got []byte, code int64) {
		t.Helper()
		same(t, name+": code", code, impl.OK)
		sameBytes(t, name, got, want)
	}
}

// isIndex fails the test if a function that returns entries does not return want and OK.
func isIndex(t *testing.T, name string, want []impl.PackEntry) func([]impl.PackEntry, int64) {
	return func(got []impl.PackEntry, code int64) {
		t.Helper()
		same(t, name+": code", code, impl.OK)
		sameList(t, name, got, want)
	}
}

// isScanned fails the test if ScanPack does not return a store, a place and a code.
func isScanned(t *testing.T, name string, want impl.Store, place int, wanted int64) func(impl.Store, int64, int64) {
	return func(got impl.Store, at, code int64) {
		t.Helper()
		same(t, name+": code", code, wanted)
		same(t, name+": place", at, int64(place))
		sameStore(t, name, got, want)
	}
}

// isWrongPack checks that all functions that read a whole pack return an error and nothing else.
func isWrongPack(t *testing.T, name string, data []byte, want int64) {
	t.Helper()
	isNoStore(t, name+": ReadPack", want)(impl.ReadPack(data))
	isNone[impl.PackEntry](t, name+": IndexOfPack", want)(impl.IndexOfPack(data))
	isNoBlob(t, name+": SeekPack", want)(impl.SeekPack(data, impl.Key{}))
	isCode[int64](t, name+": CountDeltas", want)(impl.CountDeltas(data))
	isNone[byte](t, name+": JoinPacks", want)(impl.JoinPacks(data, packOf()))
	isNone[byte](t, name+": JoinPacks as the second", want)(impl.JoinPacks(packOf(), data))
}

// isWholePack checks that all functions that read a whole pack tell what has been read.
func isWholePack(t *testing.T, name string, data []byte, r *reading) {
	t.Helper()
	isStore(t, name+": ReadPack", r.store())(impl.ReadPack(data))
	isIndex(t, name+": IndexOfPack", r.entries)(impl.IndexOfPack(data))
	isNumber(t, name+": CountDeltas", r.deltas())(impl.CountDeltas(data))
	for k, b := range r.blobs {
		isBlob(t, name+": SeekPack", b)(impl.SeekPack(data, k))
		isNoBlob(t, name+": SeekPack of another key", impl.ErrNotFound)(impl.SeekPack(data, flipped(k, 255)))
	}
	isNoBlob(t, name+": SeekPack of no key", impl.ErrNotFound)(impl.SeekPack(data, impl.Key{}))
}

// checkPack checks what all functions tell of data that may be a pack.
func checkPack(t *testing.T, name string, data []byte) *reading {
	t.Helper()
	r := plainRead(data)
	isTold(t, name+": IsPack", r.code == impl.OK)(impl.IsPack(data))
	if r.code == impl.OK {
		isWholePack(t, name, data, r)
	} else {
		isWrongPack(t, name, data, r.code)
	}
	if !r.marked {
		isScanned(t, name+": ScanPack", impl.Store{}, 0, impl.ErrSyntax)(impl.ScanPack(data))
		isNone[byte](t, name+": MendPack", impl.ErrSyntax)(impl.MendPack(data))
		return r
	}
	isScanned(t, name+": ScanPack", r.store(), r.place, impl.OK)(impl.ScanPack(data))
	mended, code := impl.PackStore(r.store())
	same(t, name+": code of PackStore", code, impl.OK)
	isBytes(t, name+": MendPack", mended)(impl.MendPack(data))
	return r
}

// checkRead checks what all functions tell of data that may be a pack, of which the first wrong thing and the number of
// right records are known.
func checkRead(t *testing.T, name string, data []byte, code int64, records int) {
	t.Helper()
	r := checkPack(t, name, data)
	same(t, name+": code", r.code, code)
	same(t, name+": records", len(r.entries), records)
}

// editedBytes returns data in which some parts are changed, left out or moved.
func editedBytes(r *rand.Rand, data []byte) []byte {
	for range 1 + r.IntN(4) {
		i, j := r.IntN(len(data)+1), r.IntN(len(data)+1)
		i, j = min(i, j), max(i, j)
		switch r.IntN(4) {
		case 0:
			data = slices.Concat(data[:i], someBytes(r, r.IntN(9)), data[i:])
		case 1:
			data = slices.Concat(data[:i], data[j:])
		case 2:
			data = slices.Concat(data[j:], data[i:j], data[:i])
		case 3:
			data = slices.Concat(data[:j], data[i:])
		}
	}
	return data[:min(len(data), impl.MaxBlobData)]
}

// alikeBlobs returns n blobs of few tags, most of which are like others.
func alikeBlobs(r *rand.Rand, n, tags int) plainStore {
	p := plainStore{}
	data := someBytes(r, 60+r.IntN(100))
	for len(p) < n {
		switch r.IntN(5) {
		case 0:
			data = someBytes(r, r.IntN(120))
		case 1:
			data = fewBytes(r, r.IntN(120))
		default:
			data = editedBytes(r, data)
			data = data[:min(len(data), 300)]
		}
		b := blobOf(byte(r.IntN(tags)), data)
		p[plainBlobKey(b)] = b
	}
	return p
}
