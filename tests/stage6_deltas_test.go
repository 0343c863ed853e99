package tests

import (
	"bytes"
	"math/rand/v2"
	"slices"
	"testing"

	"loop.example/g01174/impl"
)

// checkDelta checks the program that makes data of a base, and what it makes.
func checkDelta(t *testing.T, name string, base, data []byte) []byte {
	t.Helper()
	want := plainDelta(base, data)
	if len(want) > impl.MaxBlobData {
		isNone[byte](t, name+": DeltaOf", impl.ErrLimit)(impl.DeltaOf(base, data))
		return want
	}
	isBytes(t, name+": DeltaOf", want)(impl.DeltaOf(base, data))
	isBytes(t, name+": ApplyDelta", data)(impl.ApplyDelta(base, want))
	return want
}

// isDelta checks the program that makes data of a base, which is known.
func isDelta(t *testing.T, name string, base, data []byte, want ...[]byte) {
	t.Helper()
	sameBytes(t, name+": by the plain way", checkDelta(t, name, base, data), slices.Concat(want...))
}

// isMade checks what a program makes of a base, which is known.
func isMade(t *testing.T, name string, base, program []byte, want string) {
	t.Helper()
	isBytes(t, name, []byte(want))(impl.ApplyDelta(base, program))
}

// isNotMade checks that a program is refused.
func isNotMade(t *testing.T, name string, base, program []byte, want int64) {
	t.Helper()
	isNone[byte](t, name, want)(impl.ApplyDelta(base, program))
}

// checkApplied checks what any bytes make of a base.
func checkApplied(t *testing.T, name string, base, program []byte) {
	t.Helper()
	made, formed := plainMade(base, program)
	switch {
	case !formed:
		isNotMade(t, name, base, program, impl.ErrSyntax)
	case len(made) > impl.MaxBlobData:
		isNotMade(t, name, base, program, impl.ErrLimit)
	default:
		isBytes(t, name, made)(impl.ApplyDelta(base, program))
	}
}

func TestLimitsOfPacks(t *testing.T) {
	sameList(t, "limits", []int64{impl.MaxPack, impl.MaxRun, impl.MinCopy}, []int64{140000, 255, 8})
}

func TestExampleOfChapter6(t *testing.T) {
	digits := []byte("0123456789")
	for _, base := range [][]byte{nil, {}, []byte("a"), []byte("abc"), []byte("abcabca")} {
		isDelta(t, "no data", base, nil)
		isDelta(t, "abc", base, []byte("abc"), []byte{0, 3}, []byte("abc"))
	}
	isDelta(t, "digits", digits, digits, []byte{1, 0, 0, 10})
	pack, code := impl.PackStore(impl.Store{})
	same(t, "code", code, impl.OK)
	same(t, "bytes of no blobs", len(pack), 38)
	isScanned(t, "no right record", impl.Store{}, 4, impl.OK)(impl.ScanPack([]byte("HTP1xyz")))
}

func TestProgramsMakeTheirData(t *testing.T) {
	r := chance(601)
	for i := range 150 {
		base := fewBytes(r, r.IntN(90))
		if i%3 == 0 {
			base = someBytes(r, r.IntN(500))
		}
		name := numbered("base", i)
		checkDelta(t, name+" of no base", nil, base)
		checkDelta(t, name+" to no data", base, nil)
		checkDelta(t, name+" to itself", base, base)
		checkDelta(t, name+" to itself, twice", base, slices.Repeat(base, 2))
		checkDelta(t, name+" to a part", base, base[len(base)/3:len(base)-len(base)/4])
		checkDelta(t, name+" to its end", base, base[len(base)/2:])
		checkDelta(t, name+" to something else", base, fewBytes(r, r.IntN(300)))
		for range 5 {
			checkDelta(t, name+" to edited data", base, editedBytes(r, base))
		}
	}
}

func TestProgramsOfDataThatHaveTheBaseTwice(t *testing.T) {
	r := chance(602)
	for _, n := range []int{1, 7, 8, 9, 100, 254, 255, 256, 300, 510, 511, 512} {
		base := someBytes(r, n)
		twice := slices.Concat(base, base)
		program := checkDelta(t, numbered("twice", n), base, twice)
		if n < 8 {
			sameBytes(t, numbered("all added", n), program, addOps(twice))
			continue
		}
		one := copyOp(0, min(n, 255))
		if n <= 255 {
			sameBytes(t, numbered("all copied", n), program, slices.Concat(one, one))
		}
		checkDelta(t, numbered("of twice", n), twice, base)
	}
}

func TestShortRunsAreAdded(t *testing.T) {
	base := []byte("..12345678..")
	for n := 1; n <= 8; n++ {
		data := slices.Concat([]byte("<"), []byte("12345678")[:n], []byte(">"))
		if n < 8 {
			isDelta(t, numbered("run", n), base, data, addOp(string(data)))
		} else {
			isDelta(t, numbered("run", n), base, data, addOp("<"), copyOp(2, 8), addOp(">"))
		}
	}
	isDelta(t, "a run at the end of the base", []byte("..12345678"), []byte("x12345678"), addOp("x"), copyOp(2, 8))
	isDelta(t, "a run at the end of the data", base, []byte("x1234567"), addOp("x1234567"))
	isDelta(t, "a base of 7 bytes", []byte("1234567"), []byte("1234567"), addOp("1234567"))
	isDelta(t, "a base of 8 bytes", []byte("12345678"), []byte("12345678"), copyOp(0, 8))
	isDelta(t, "runs that meet", base, []byte("12345678123456781234567"), copyOp(2, 8), copyOp(2, 8), addOp("1234567"))
	isDelta(t, "a byte between runs", base, []byte("12345678x12345678"), copyOp(2, 8), addOp("x"), copyOp(2, 8))
}

func TestLongRunsAreCut(t *testing.T) {
	r := chance(603)
	base := someBytes(r, 700)
	for _, n := range []int{8, 254, 255, 256, 262, 263, 264, 510, 511, 518, 519} {
		data := base[100 : 100+n]
		var want []byte
		for at := 0; at < n; at += 255 {
			if part := data[at:min(at+255, n)]; len(part) < 8 {
				want = append(want, addOp(string(part))...)
			} else {
				want = append(want, copyOp(100+at, len(part))...)
			}
		}
		isDelta(t, numbered("run", n), base, data, want)
	}
	isDelta(t, "a place above 255", base, base[300:320], copyOp(300, 20))
	isDelta(t, "the last place", base, base[692:], copyOp(692, 8))
	most := someBytes(r, impl.MaxBlobData)
	isDelta(t, "the last place there is", most, most[1016:], copyOp(1016, 8))
	isDelta(t, "all there is", most, most, copyOp(0, 255), copyOp(255, 255), copyOp(510, 255), copyOp(765, 255), addOp(string(most[1020:])))
}

func TestTheFirstOfTheLongestRunsIsTaken(t *testing.T) {
	text := "abcdefghijklmnop"
	base := []byte("abcdefgh1 abcdefghi2 abcdefghij3 abcdefghij4 abcdefghi5 abcdefg6")
	isDelta(t, "seven bytes", base, []byte(text[:7]), addOp("abcdefg"))
	isDelta(t, "eight bytes", base, []byte(text[:8]), copyOp(0, 8))
	isDelta(t, "nine bytes", base, []byte(text[:9]), copyOp(10, 9))
	isDelta(t, "ten bytes", base, []byte(text[:10]), copyOp(21, 10))
	isDelta(t, "more bytes", base, []byte(text), copyOp(21, 10), addOp("klmnop"))
	isDelta(t, "the second one is longer", base, []byte("abcdefghij4 "), copyOp(33, 12))
	long := bytes.Repeat([]byte("x"), 255)
	isDelta(t, "MaxRun, of several", slices.Concat([]byte("0123"), long, []byte("-"), long, long), long, copyOp(4, 255))
	isDelta(t, "not more than MaxRun", slices.Concat(long, []byte("-"), long, []byte("y")), slices.Concat(long, []byte("y")), copyOp(0, 255), addOp("y"))
	isDelta(t, "one less than MaxRun", slices.Concat(long[1:], []byte("-"), long, []byte("y")), slices.Concat(long[1:], []byte("y")), copyOp(256, 255))
	isDelta(t, "the place does not end the search", []byte("abcdefgh.abcdefghij"), []byte("abcdefghij"), copyOp(9, 10))
	isDelta(t, "bytes that repeat", long, long[:100], copyOp(0, 100))
	isDelta(t, "nothing is put off", []byte("12345678.x12345678abc"), []byte("12345678abc"), copyOp(10, 11))
	isDelta(t, "nothing waits for a longer one", []byte("abcdefgh.bcdefghijklmnop"), []byte(text), copyOp(0, 8), copyOp(16, 8))
}

func TestRunsOfDataThatRepeat(t *testing.T) {
	r := chance(604)
	for period := 1; period < 20; period++ {
		base := bytes.Repeat(someBytes(r, period), 500/period)
		data := bytes.Repeat(base[:period], 700/period)
		checkDelta(t, numbered("period", period), base, data)
		data[r.IntN(len(data))]++
		data[r.IntN(len(data))]++
		checkDelta(t, numbered("period with changes", period), base, data)
		checkDelta(t, numbered("period that is cut", period), base[:40], data[period/2:])
	}
}

func TestAddedBytesAreCut(t *testing.T) {
	r := chance(605)
	for _, n := range []int{1, 7, 8, 254, 255, 256, 509, 510, 511, 765, 766, 1014, 1015, 1016} {
		data := someBytes(r, n)
		isDelta(t, numbered("of no base", n), nil, data, addOps(data))
		base := []byte("a base that is something else")
		isDelta(t, numbered("of a base", n), base, data, addOps(data))
		if n < 900 {
			isDelta(t, numbered("around a run", n), base, slices.Concat(data, base, data), addOps(data), copyOp(0, len(base)), addOps(data))
		}
	}
}

func TestProgramsHaveALimit(t *testing.T) {
	r := chance(606)
	most := someBytes(r, impl.MaxBlobData)
	more := append(slices.Clone(most), 1)
	for n := 1012; n <= impl.MaxBlobData; n++ {
		data := most[:n]
		program := addOps(data)
		isDelta(t, numbered("data", n), nil, data, program)
		want := int64(impl.OK)
		if len(program) > impl.MaxBlobData {
			want = impl.ErrLimit
		}
		_, code := impl.DeltaOf(nil, data)
		same(t, numbered("code", n), code, want)
	}
	_, code := impl.DeltaOf(most[:8], most)
	same(t, "a run of 8 bytes makes the program 4 bytes shorter only", code, impl.ErrLimit)
	_, code = impl.DeltaOf(most[:40], most)
	same(t, "a long run makes it short enough", code, impl.OK)
	isNone[byte](t, "base", impl.ErrLimit)(impl.DeltaOf(more, nil))
	isNone[byte](t, "data", impl.ErrLimit)(impl.DeltaOf(nil, more))
	isNone[byte](t, "both", impl.ErrLimit)(impl.DeltaOf(more, more))
	isNone[byte](t, "data of the same base", impl.ErrLimit)(impl.DeltaOf(most, more))
	isBytes(t, "the greatest base", nil)(impl.DeltaOf(most, nil))
}

func TestProgramsAreRead(t *testing.T) {
	base := []byte("0123456789")
	isMade(t, "no program", base, nil, "")
	isMade(t, "no base", nil, addOp("abc"), "abc")
	isMade(t, "one byte", base, addOp("x"), "x")
	isMade(t, "bytes 0 and 1", nil, addOp("\x00\x01\x02"), "\x00\x01\x02")
	isMade(t, "the whole base", base, copyOp(0, 10), "0123456789")
	isMade(t, "one byte of it", base, copyOp(3, 1), "3")
	isMade(t, "its last byte", base, copyOp(9, 1), "9")
	isMade(t, "its end", base, copyOp(4, 6), "456789")
	isMade(t, "several operations", base, slices.Concat(copyOp(8, 2), addOp("ab"), addOp("c"), copyOp(0, 3), copyOp(0, 3)), "89abc012012")
	long := slices.Concat(make([]byte, 600), base)
	isMade(t, "a place of two bytes", long, copyOp(601, 4), "1234")
	isMade(t, "MaxRun bytes of the base", long, copyOp(345, 255), string(make([]byte, 255)))
	isMade(t, "MaxRun bytes", nil, addOp(string(long[:255])), string(long[:255]))
}

func TestProgramsThatAreCutOff(t *testing.T) {
	base := []byte("0123456789")
	program := slices.Concat(addOp("abc"), copyOp(2, 5), addOp("\x00\x01\x01"), copyOp(0, 1), copyOp(9, 1), addOp("x"))
	ends := map[int]string{0: "", 5: "abc", 9: "abc23456", 14: "abc23456\x00\x01\x01", 18: "abc23456\x00\x01\x010", 22: "abc23456\x00\x01\x0109", 25: "abc23456\x00\x01\x0109x"}
	for n := range len(program) + 1 {
		if want, whole := ends[n]; whole {
			isMade(t, numbered("cut off", n), base, program[:n], want)
		} else {
			isNotMade(t, numbered("cut off", n), base, program[:n], impl.ErrSyntax)
		}
	}
}

func TestOperationsThatAreWrong(t *testing.T) {
	base := []byte("0123456789")
	for kind := 2; kind < 256; kind++ {
		isNotMade(t, numbered("kind", kind), base, []byte{byte(kind), 1, 0, 1}, impl.ErrSyntax)
		isNotMade(t, numbered("kind behind others", kind), base, slices.Concat(addOp("a"), []byte{byte(kind)}), impl.ErrSyntax)
	}
	for i, wrong := range [][]byte{{0, 0}, {1, 0, 0, 0}, {1, 9, 0, 0}, {1, 10, 0, 0}} {
		isNotMade(t, numbered("no bytes", i), base, wrong, impl.ErrSyntax)
		isNotMade(t, numbered("no bytes, behind others", i), base, slices.Concat(addOp("a"), wrong), impl.ErrSyntax)
		isNotMade(t, numbered("no bytes, before others", i), base, slices.Concat(wrong, addOp("a")), impl.ErrSyntax)
	}
	isNotMade(t, "no base", nil, copyOp(0, 1), impl.ErrSyntax)
}

func TestRunsEndWhereTheBaseDoes(t *testing.T) {
	for _, size := range []int{1, 2, 10, 255, 256, 257, 300, impl.MaxBlobData} {
		base := plainBytes(size)
		for _, n := range []int{1, 2, 9, 10, 11, 254, 255} {
			for at := max(0, size-n-2); at < size+3; at++ {
				checkApplied(t, numbered("run", size, n, at), base, copyOp(at, n))
				checkApplied(t, numbered("run behind others", size, n, at), base, slices.Concat(copyOp(0, 1), copyOp(at, n)))
			}
			if n <= size {
				isMade(t, numbered("up to the end", size, n), base, copyOp(size-n, n), string(base[size-n:]))
				isNotMade(t, numbered("one byte behind", size, n), base, copyOp(size-n+1, n), impl.ErrSyntax)
			}
		}
		isNotMade(t, numbered("the greatest place", size), base, copyOp(65535, 1), impl.ErrSyntax)
		isNotMade(t, numbered("a place that is the same in one byte", size), base, copyOp(65536-256, 1), impl.ErrSyntax)
	}
}

func TestWhatProgramsMakeHasALimit(t *testing.T) {
	base := plainBytes(impl.MaxBlobData)
	four := slices.Concat(copyOp(0, 255), copyOp(255, 255), copyOp(510, 255), copyOp(765, 255))
	isMade(t, "1020 bytes", base, four, string(base[:1020]))
	isMade(t, "MaxBlobData bytes", base, slices.Concat(four, copyOp(1020, 4)), string(base))
	isNotMade(t, "one byte more", base, slices.Concat(four, copyOp(1019, 5)), impl.ErrLimit)
	isMade(t, "MaxBlobData bytes with added ones", base, slices.Concat(four, addOp("abcd")), string(base[:1020])+"abcd")
	isNotMade(t, "one added byte more", base, slices.Concat(four, addOp("abcde")), impl.ErrLimit)
	isNotMade(t, "one more operation", base, slices.Concat(four, addOp("abcd"), copyOp(0, 1)), impl.ErrLimit)
	isNotMade(t, "as much as may be made", base, slices.Repeat(copyOp(769, 255), 256), impl.ErrLimit)
	added := addOps(base[:1014])
	isMade(t, "a program of almost MaxBlobData bytes", nil, added, string(base[:1014]))
	whole := addOps(base[:1016])
	same(t, "its bytes", len(whole), impl.MaxBlobData)
	isMade(t, "a program of MaxBlobData bytes", nil, whole, string(base[:1016]))
}

func TestErrorsOfProgramsInOrder(t *testing.T) {
	base := plainBytes(impl.MaxBlobData)
	more := append(slices.Clone(base), 0)
	isNotMade(t, "the base", more, nil, impl.ErrLimit)
	isNotMade(t, "the base ahead of the program", more, []byte{9}, impl.ErrLimit)
	isNotMade(t, "the program", nil, slices.Repeat(addOp("a"), 342), impl.ErrLimit)
	isNotMade(t, "the length of the program ahead of what it is", nil, more, impl.ErrLimit)
	isMade(t, "341 operations", nil, slices.Repeat(addOp("a"), 341), string(bytes.Repeat([]byte("a"), 341)))
	isNotMade(t, "342 operations, cut off", nil, slices.Repeat(addOp("a"), 342)[:1024], impl.ErrSyntax)
	much := slices.Repeat(copyOp(0, 255), 5)
	isNotMade(t, "too much", base, much, impl.ErrLimit)
	for i, wrong := range [][]byte{{0}, {0, 0}, {0, 2, 1}, {1}, {1, 0}, {1, 0, 0}, {1, 0, 0, 0}, {2}, copyOp(1024, 1), copyOp(1000, 25)} {
		isNotMade(t, numbered("what is wrong behind too much", i), base, slices.Concat(much, wrong), impl.ErrSyntax)
		isNotMade(t, numbered("what is wrong before too much", i), base, slices.Concat(wrong, much, wrong), impl.ErrSyntax)
	}
}

// someProgram returns operations some of which are wrong.
func someProgram(r *rand.Rand, base []byte) []byte {
	var program []byte
	for range r.IntN(7) {
		switch r.IntN(9) {
		case 0, 1, 2:
			program = append(program, addOp(string(someBytes(r, r.IntN(9))))...)
		case 3:
			program = append(program, copyOp(r.IntN(len(base)+2), r.IntN(256))...)
		case 4:
			program = append(program, fewBytes(r, r.IntN(3))...)
		default:
			at := r.IntN(len(base) + 1)
			program = append(program, copyOp(at, min(255, r.IntN(len(base)-at+2)))...)
		}
	}
	return program[:len(program)-min(len(program), r.IntN(3)*r.IntN(2))]
}

func TestBytesThatMayBePrograms(t *testing.T) {
	r := chance(607)
	for i := range 3000 {
		base := someBytes(r, r.IntN(1+i%400))
		checkApplied(t, numbered("program", i), base, someProgram(r, base))
	}
}

func TestProgramsInWhichBitsAreChanged(t *testing.T) {
	base := []byte("some words that come again and again")
	program := plainDelta(base, []byte("again and again come words that come"))
	for bit := range 8 * len(program) {
		changed := slices.Clone(program)
		changed[bit/8] ^= 1 << (bit % 8)
		checkApplied(t, numbered("bit", bit), base, changed)
	}
}
