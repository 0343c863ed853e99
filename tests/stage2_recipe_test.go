package tests

import (
	"fmt"
	"math/rand/v2"
	"slices"
	"strconv"
	"strings"
	"testing"

	"loop.example/g01174/impl"
)

// plainPiece is the piece of a chunk.
func plainPiece(chunk []byte) impl.Piece {
	return impl.Piece{Key: plainHash(1, chunk), Length: int64(len(chunk))}
}

// plainRecipe returns the pieces of chunks.
func plainRecipe(chunks [][]byte) []impl.Piece {
	var list []impl.Piece
	for _, chunk := range chunks {
		list = append(list, plainPiece(chunk))
	}
	return list
}

// plainText is the text of a recipe.
func plainText(list []impl.Piece) string {
	text := ""
	for _, piece := range list {
		text += fmt.Sprintf("%x %d\n", piece.Key[:], piece.Length)
	}
	return text
}

// somePieces returns n pieces with lengths of all kinds.
func somePieces(r *rand.Rand, n int) []impl.Piece {
	lengths := []int64{0, 1, 9, 10, 99, 100, 999, 1000, impl.MaxData - 1, impl.MaxData}
	list := make([]impl.Piece, n)
	for i := range list {
		list[i] = impl.Piece{Key: someKey(r), Length: lengths[r.IntN(len(lengths))]}
	}
	return list
}

func TestRecipesOfData(t *testing.T) {
	for _, r := range rules() {
		for _, data := range dataTried(60) {
			list, code := impl.RecipeOf(r, data)
			same(t, "code", code, impl.OK)
			sameList(t, "recipe", list, plainRecipe(plainAll(r, data)))
		}
		none, code := impl.RecipeOf(r, nil)
		same(t, "code of no data", code, impl.OK)
		same(t, "pieces of no data", len(none), 0)
		list, code := impl.RecipeOf(r, make([]byte, impl.MaxData))
		same(t, "code of MaxData", code, impl.OK)
		sameList(t, "recipe of MaxData", list, plainRecipe(plainAll(r, make([]byte, impl.MaxData))))
		list, code = impl.RecipeOf(r, make([]byte, impl.MaxData+1))
		same(t, "code over MaxData", code, impl.ErrLimit)
		same(t, "no pieces", len(list), 0)
	}
	for _, r := range wrongRules() {
		for _, n := range []int{0, 1, impl.MaxData + 1} {
			list, code := impl.RecipeOf(r, make([]byte, n))
			same(t, "code of no rule", code, impl.ErrInvalid)
			same(t, "no pieces", len(list), 0)
		}
	}
}

func TestTextsOfRecipes(t *testing.T) {
	list := []impl.Piece{plainPiece([]byte("ab")), {Length: impl.MaxData}}
	text, code := impl.RecipeText(list)
	same(t, "code", code, impl.OK)
	// The key has been found by another program that follows the document.
	same(t, "text", text, "847ab380adf4083e3a42d008af9981fd3c8314f17d352be3a2088b020e52ad12 2\n"+strings.Repeat("0", 64)+" 4096\n")

	r := chance(61)
	for _, n := range []int{0, 1, 2, 10, impl.MaxKeys - 1, impl.MaxKeys} {
		list := somePieces(r, n)
		text, code := impl.RecipeText(list)
		same(t, "code of RecipeText", code, impl.OK)
		same(t, "text", text, plainText(list))
		back, code := impl.ReadRecipe(text)
		same(t, "code of ReadRecipe", code, impl.OK)
		sameList(t, "recipe", back, list)
	}
}

func TestErrorsOfRecipeText(t *testing.T) {
	r := chance(62)
	for _, n := range []int{impl.MaxKeys + 1, 300, 1000000} {
		list := make([]impl.Piece, n)
		text, code := impl.RecipeText(list)
		same(t, "code over MaxKeys", code, impl.ErrLimit)
		same(t, "no text", text, "")
		list[0].Length = -1 // the limit comes first
		text, code = impl.RecipeText(list)
		same(t, "code over MaxKeys with a length", code, impl.ErrLimit)
		same(t, "no text", text, "")
	}
	for _, length := range []int64{-1, impl.MaxData + 1, -1 << 63, 1<<63 - 1} {
		for _, at := range []int{0, 1, impl.MaxKeys - 1} {
			list := somePieces(r, at+1)
			list[at].Length = length
			text, code := impl.RecipeText(list)
			same(t, "code of a length", code, impl.ErrRange)
			same(t, "no text", text, "")
		}
	}
}

func TestRecipesAreRead(t *testing.T) {
	key := plainHash(1, []byte("ab"))
	for length := range int64(impl.MaxData + 1) {
		list, code := impl.ReadRecipe(impl.KeyText(key) + " " + strconv.FormatInt(length, 10) + "\n")
		same(t, "code", code, impl.OK)
		sameList(t, "recipe", list, []impl.Piece{{Key: key, Length: length}})
	}
	none, code := impl.ReadRecipe("")
	same(t, "code of no text", code, impl.OK)
	same(t, "pieces of no text", len(none), 0)
}

// wrongLines returns lines that are those of no piece.
func wrongLines() []string {
	digits := impl.KeyText(plainHash(1, []byte("ab")))
	zeros := strings.Repeat("0", 64)
	lines := []string{
		"\n", " \n", "x 1\n", digits, digits + "\n", digits + " \n", digits + " 1", " 1\n",
		digits + "1\n", digits + "  1\n", digits + " 1 \n", digits + "\t1\n", " " + digits + " 1\n",
		digits + " 1\r\n", digits + " 1\n\n", "\n" + digits + " 1\n", digits + " 1\x00\n", digits + "\n1\n",
		strings.ToUpper(digits) + " 1\n", digits[:3] + "A" + digits[4:] + " 1\n", zeros[1:] + "F 1\n",
		digits[1:] + " 1\n", "0" + digits + " 1\n", digits[:63] + "g 1\n", digits[:62] + " 1\n",
		digits + " 1 1\n", digits + ",1\n", digits + " " + digits + "\n", digits + " 1;\n",
	}
	for _, length := range []string{
		"00", "01", "007", "04096", "-0", "-1", "+0", "+1", "4097", "4100", "10000", "1e3", "0x1", "1_0", "1.0", "1.", "a", "\u0661",
		"9223372036854775807", "9223372036854775808", "18446744073709551616", "-9223372036854775808", strings.Repeat("9", 60), strings.Repeat("0", 60) + "1",
	} {
		lines = append(lines, digits+" "+length+"\n")
	}
	return lines
}

func TestTextsThatAreNoRecipes(t *testing.T) {
	right := plainText([]impl.Piece{plainPiece([]byte("abc"))})
	for _, line := range wrongLines() {
		for _, text := range []string{line, right + line, line + right, right + line + right, strings.Repeat(right, 250) + line} {
			list, code := impl.ReadRecipe(text)
			same(t, "code of "+strconv.Quote(text[:min(len(text), 160)]), code, impl.ErrSyntax)
			same(t, "no pieces", len(list), 0)
		}
	}
}

func TestLimitsOfTextsOfRecipes(t *testing.T) {
	line := plainText([]impl.Piece{{Key: impl.Key{1}, Length: impl.MaxData}})
	tries := []struct {
		name string
		text string
		code int64
	}{
		{"MaxKeys lines", strings.Repeat(line, impl.MaxKeys), impl.OK},
		{"one line more", strings.Repeat(line, impl.MaxKeys+1), impl.ErrLimit},
		{"MaxKeys lines and a wrong one", strings.Repeat(line, impl.MaxKeys-1) + "\n", impl.ErrSyntax},
		{"one line more, a wrong one at the end", strings.Repeat(line, impl.MaxKeys) + "x 1\n", impl.ErrLimit},
		{"one line more, a wrong one at first", "x 1\n" + strings.Repeat(line, impl.MaxKeys), impl.ErrLimit},
		{"MaxText bytes without a newline", strings.Repeat("0", impl.MaxText), impl.ErrSyntax},
		{"one byte more", strings.Repeat("0", impl.MaxText+1), impl.ErrLimit},
		{"MaxText bytes with lines", line + strings.Repeat("0", impl.MaxText-len(line)-1) + "\n", impl.ErrSyntax},
		{"one byte more with lines", line + strings.Repeat("0", impl.MaxText-len(line)) + "\n", impl.ErrLimit},
		{"MaxText bytes of lines", strings.Repeat(line, impl.MaxText)[:impl.MaxText], impl.ErrLimit},
		{"a million bytes", strings.Repeat("\n", 1000000), impl.ErrLimit},
	}
	for _, try := range tries {
		list, code := impl.ReadRecipe(try.text)
		same(t, try.name+": code", code, try.code)
		if code == impl.OK {
			same(t, try.name+": text", plainText(list), try.text)
		} else {
			same(t, try.name+": no pieces", len(list), 0)
		}
	}
}

// shuffled returns chunks in another order.
func shuffled(r *rand.Rand, chunks [][]byte) [][]byte {
	list := slices.Clone(chunks)
	r.Shuffle(len(list), func(i, j int) { list[i], list[j] = list[j], list[i] })
	return list
}

// onceChunks returns chunks, each once.
func onceChunks(chunks [][]byte) [][]byte {
	seen := map[string]bool{}
	var list [][]byte
	for _, chunk := range chunks {
		if !seen[string(chunk)] {
			seen[string(chunk)] = true
			list = append(list, chunk)
		}
	}
	return list
}

// checkBuilt fails the test if a recipe does not build data of chunks.
func checkBuilt(t *testing.T, list []impl.Piece, chunks [][]byte, data []byte) {
	t.Helper()
	built, code := impl.BuildFrom(list, chunks)
	same(t, "code of BuildFrom", code, impl.OK)
	sameBytes(t, "built", built, data)
	missing, code := impl.MissingFor(list, chunks)
	same(t, "code of MissingFor", code, impl.OK)
	same(t, "missing", len(missing), 0)
}

func TestRecipesBuildTheirData(t *testing.T) {
	r := chance(63)
	for _, rule := range rules() {
		for _, data := range dataTried(64) {
			list, _ := impl.RecipeOf(rule, data)
			if len(list) > impl.MaxKeys {
				continue
			}
			chunks, _ := impl.ChunksOf(rule, data)
			checkBuilt(t, list, chunks, data)
			slices.Reverse(chunks)
			checkBuilt(t, list, chunks, data)
			checkBuilt(t, list, shuffled(r, chunks), data)
			checkBuilt(t, list, shuffled(r, onceChunks(chunks)), data)
			others := plainAll(rule, someBytes(r, 100))
			checkBuilt(t, list, shuffled(r, append(others, chunks...)), data)
		}
	}
}

func TestRecipesOfMaxDataAreBuilt(t *testing.T) {
	r := chance(65)
	data := someBytes(r, impl.MaxData)
	rule := impl.CutRule{Least: 16, Most: 64, Bits: 5}
	list, _ := impl.RecipeOf(rule, data)
	chunks, _ := impl.ChunksOf(rule, data)
	checkBuilt(t, list, shuffled(r, chunks), data)
	checkBuilt(t, []impl.Piece{plainPiece(data)}, [][]byte{data}, data)
}

// checkMissing fails the test if a recipe does not lack just these keys.
func checkMissing(t *testing.T, name string, list []impl.Piece, chunks [][]byte, keys ...impl.Key) {
	t.Helper()
	built, code := impl.BuildFrom(list, chunks)
	same(t, name+": code of BuildFrom", code, impl.ErrNotFound)
	same(t, name+": nothing built", len(built), 0)
	missing, code := impl.MissingFor(list, chunks)
	same(t, name+": code of MissingFor", code, impl.OK)
	sameList(t, name, missing, keys)
}

func TestChunksThatAreMissing(t *testing.T) {
	a, b, c := []byte("a"), []byte("bb"), []byte("ccc")
	list := plainRecipe([][]byte{c, a, b, a, c, nil})
	keys := map[string]impl.Key{}
	for _, chunk := range [][]byte{a, b, c, nil} {
		keys[string(chunk)] = plainHash(1, chunk)
	}
	all := []impl.Key{keys["a"], keys["bb"], keys["ccc"], keys[""]}
	slices.SortFunc(all, func(a, b impl.Key) int { return slices.Compare(a[:], b[:]) })
	checkBuilt(t, list, [][]byte{nil, a, b, c}, []byte("cccabbaccc"))
	checkMissing(t, "all", list, nil, all...)
	checkMissing(t, "all but others", list, [][]byte{[]byte("d"), []byte("aa")}, all...)
	checkMissing(t, "the one without bytes", list, [][]byte{a, b, c}, keys[""])
	checkMissing(t, "the first one", list, [][]byte{a, b, nil}, keys["ccc"])
	checkMissing(t, "one that is wanted twice", list, [][]byte{c, b, nil}, keys["a"])
	checkMissing(t, "one in the middle", list, [][]byte{c, a, nil, c, a}, keys["bb"])
}

func TestMissingKeysAreInOrder(t *testing.T) {
	r := chance(66)
	for range 30 {
		var list []impl.Piece
		var have [][]byte
		lacking := map[impl.Key]bool{}
		for range r.IntN(60) {
			chunk := someBytes(r, r.IntN(3))
			list = append(list, plainPiece(chunk))
			if r.IntN(2) == 0 {
				have = append(have, chunk)
			}
		}
		for _, piece := range list {
			lacking[piece.Key] = true
		}
		for _, chunk := range have {
			delete(lacking, plainHash(1, chunk))
		}
		missing, code := impl.MissingFor(list, have)
		same(t, "code", code, impl.OK)
		same(t, "number", len(missing), len(lacking))
		for i, k := range missing {
			same(t, "missing", lacking[k], true)
			same(t, "ascending", i == 0 || impl.CompareKeys(missing[i-1], k) < 0, true)
		}
	}
}

func TestLengthsOfPiecesCount(t *testing.T) {
	chunk := []byte("abc")
	right := plainPiece(chunk)
	for _, length := range []int64{0, 2, 4, -3, 3 + 1<<32, impl.MaxData, impl.MaxData + 1, -1 << 63, 1<<63 - 1} {
		wrong := impl.Piece{Key: right.Key, Length: length}
		checkMissing(t, "another length", []impl.Piece{wrong}, [][]byte{chunk}, right.Key)
		checkMissing(t, "both lengths", []impl.Piece{right, wrong, right}, [][]byte{chunk}, right.Key)
	}
	checkMissing(t, "another key", []impl.Piece{{Key: impl.Key{}, Length: 3}}, [][]byte{chunk}, impl.Key{})
}

func TestBuildingAtItsEdges(t *testing.T) {
	checkBuilt(t, nil, nil, nil)
	checkBuilt(t, nil, [][]byte{[]byte("a")}, nil)
	checkBuilt(t, plainRecipe([][]byte{nil}), [][]byte{{}}, nil)
	checkMissing(t, "a chunk without bytes", plainRecipe([][]byte{nil}), nil, plainHash(1, nil))

	x := []byte("x")
	most := slices.Repeat([]impl.Piece{plainPiece(x)}, impl.MaxKeys)
	checkBuilt(t, most, [][]byte{x}, []byte(strings.Repeat("x", impl.MaxKeys)))
	full := make([]byte, impl.MaxData)
	checkBuilt(t, plainRecipe([][]byte{full}), [][]byte{full}, full)
	checkBuilt(t, plainRecipe([][]byte{x}), append(make([][]byte, impl.MaxData-1), x), x)

	half := full[:impl.MaxData/2]
	twice := plainRecipe([][]byte{half, half})
	checkBuilt(t, twice, [][]byte{half}, full)
	checkMissing(t, "all MaxKeys", most, nil, plainHash(1, x))
}

func TestBuildingHasLimits(t *testing.T) {
	x := []byte("x")
	full := make([]byte, impl.MaxData)
	check := func(name string, list []impl.Piece, chunks [][]byte) {
		t.Helper()
		built, code := impl.BuildFrom(list, chunks)
		same(t, name+": code of BuildFrom", code, impl.ErrLimit)
		same(t, name+": nothing built", len(built), 0)
		missing, code := impl.MissingFor(list, chunks)
		same(t, name+": code of MissingFor", code, impl.ErrLimit)
		same(t, name+": nothing missing", len(missing), 0)
	}
	over := slices.Repeat([]impl.Piece{plainPiece(x)}, impl.MaxKeys+1)
	check("one piece more", over, [][]byte{x})
	check("one piece more, all missing", over, nil)
	check("one byte more", plainRecipe([][]byte{x}), [][]byte{full, x})
	check("one byte more, missing", plainRecipe([][]byte{[]byte("y")}), [][]byte{x, full})
	check("one byte more, no pieces", nil, [][]byte{append(full, 0)})
	check("one chunk more", plainRecipe([][]byte{x}), make([][]byte, impl.MaxData+1))
	check("many pieces", make([]impl.Piece, 1000000), nil)
	check("many chunks", nil, make([][]byte, 1000000))
}

func TestWhatIsBuiltHasALimit(t *testing.T) {
	x, full := []byte("x"), make([]byte, impl.MaxData-1)
	chunks := [][]byte{full, x}
	check := func(parts [][]byte, want int64) {
		t.Helper()
		list := plainRecipe(parts)
		built, code := impl.BuildFrom(list, chunks)
		same(t, "code of BuildFrom", code, want)
		if code != impl.OK {
			same(t, "nothing built", len(built), 0)
		} else {
			sameBytes(t, "built", built, slices.Concat(parts...))
		}
	}
	check([][]byte{full, x}, impl.OK)
	check([][]byte{full, x, x}, impl.ErrLimit)
	check([][]byte{full, full}, impl.ErrLimit)
	check(slices.Repeat([][]byte{full}, impl.MaxKeys), impl.ErrLimit)
	check([][]byte{full, full, []byte("y")}, impl.ErrNotFound) // what is missing comes first
	check([][]byte{[]byte("y"), full, full}, impl.ErrNotFound)
	missing, code := impl.MissingFor(plainRecipe([][]byte{full, full, x}), chunks)
	same(t, "code of MissingFor", code, impl.OK)
	same(t, "missing", len(missing), 0)
}
