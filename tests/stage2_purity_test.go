package tests

import (
	"bytes"
	"slices"
	"strings"
	"testing"

	"loop.example/g01174/impl"
)

// checkListApart checks that call writes nothing into its argument, that the slices which it returns share no memory
// with it, with each other, or with those of another call, and that it tells the same again. The argument must not
// have noByte.
func checkListApart(t *testing.T, name string, data []byte, call func([]byte) [][]byte) {
	t.Helper()
	arg, untouched := guarded(data, noByte)
	first := call(arg)
	want := copyChunks(first)
	second := call(arg)
	for i := range first {
		overwrite(first[i], noByte)
		if !untouched() {
			t.Errorf("%s: a result shares memory with the argument", name)
		}
		sameChunks(t, name+": results behind it", first[i+1:], want[i+1:])
	}
	sameChunks(t, name+": a second time", second, want)
	for i := range slices.Backward(second) {
		overwrite(second[i], noByte)
		sameChunks(t, name+": results before it", second[:i], want[:i])
	}
	third := call(arg)
	if !untouched() {
		t.Errorf("%s: the argument is written into", name)
	}
	overwrite(arg, noByte)
	sameChunks(t, name+": behind another argument", third, want)
}

// cutOnly returns a call that cuts data into chunks.
func cutOnly(r impl.CutRule) func([]byte) [][]byte {
	return func(data []byte) [][]byte {
		chunks, _ := impl.ChunksOf(r, data)
		return chunks
	}
}

func TestChunksAreApart(t *testing.T) {
	for _, r := range rules() {
		for _, n := range []int{0, 1, 2, 64, 150, 300} {
			checkListApart(t, "ChunksOf", plainBytes(n), cutOnly(r))
		}
	}
	checkListApart(t, "ChunksOf MaxData", plainBytes(impl.MaxData), cutOnly(impl.CutRule{Least: 16, Most: 64, Bits: 5}))
}

func TestCuttersAreApart(t *testing.T) {
	for _, r := range rules() {
		_, held := plainChunks(r, plainBytes(100))
		roll := plainRoll(held)
		for _, n := range []int{0, 1, 2, 64, 150} {
			checkListApart(t, "data of FeedCutter", plainBytes(n), func(data []byte) [][]byte {
				c, ended := feedCutter(t, impl.Cutter{Rule: r, Roll: roll, Held: held}, data)
				return append(ended, c.Held)
			})
			checkListApart(t, "cutter of FeedCutter", held, func(held []byte) [][]byte {
				c, ended := feedCutter(t, impl.Cutter{Rule: r, Roll: roll, Held: held}, plainBytes(n))
				return append(ended, c.Held)
			})
		}
		checkListApart(t, "EndCutter", held, func(held []byte) [][]byte {
			last, _ := impl.EndCutter(impl.Cutter{Rule: r, Roll: roll, Held: held})
			return [][]byte{last}
		})
	}
}

func TestCuttersFedInTwoWaysAreApart(t *testing.T) {
	r := impl.CutRule{Least: 50, Most: 60}
	c, _ := feedCutter(t, startCutter(t, r), []byte("abc"))
	left, _ := feedCutter(t, c, []byte("left"))
	right, _ := feedCutter(t, c, []byte("other"))
	checkCutter(t, c, nil, r, []byte("abc"))
	checkCutter(t, left, nil, r, []byte("abcleft"))
	checkCutter(t, right, nil, r, []byte("abcother"))
}

func TestDataOfRulesAreOnlyRead(t *testing.T) {
	data := plainBytes(200)
	for _, r := range append(rules(), wrongRules()[:3]...) {
		checkApart(t, "CutPlaces", data, noByte, -1, func(data []byte) []int64 {
			ends, _ := impl.CutPlaces(r, data)
			return ends
		})
		checkApart(t, "RecipeOf", data, noByte, impl.Piece{Length: -1}, func(data []byte) []impl.Piece {
			list, _ := impl.RecipeOf(r, data)
			return list
		})
		checkApart(t, "numbers", data, noByte, -1, func(data []byte) []int64 {
			index, begin, one := impl.ChunkAt(r, data, 150)
			first, last, two := impl.CommonChunks(r, data, data[20:])
			spare, three := impl.SpareBytes(r, data[30:], data)
			return []int64{index, begin, one, first, last, two, spare, three, int64(impl.RollOf(data))}
		})
		checkApart(t, "cutters", data[:20], noByte, false, func(held []byte) []bool {
			c := impl.Cutter{Rule: r, Roll: plainRoll(data[:20]), Held: held}
			return []bool{impl.ValidCutter(c), impl.SameCutter(c, impl.Cutter{Rule: r, Roll: c.Roll, Held: data[:20]})}
		})
	}
	checkApart(t, "ChunkKey", data, noByte, impl.Key{}, func(chunk []byte) []impl.Key {
		key, _ := impl.ChunkKey(chunk)
		return []impl.Key{key}
	})
}

// checkChunksRead checks that call writes nothing into chunks that lie one behind the other, nor behind them, that its
// result shares no memory with them, and that it tells the same again.
func checkChunksRead(t *testing.T, name string, call func([][]byte) []byte) {
	t.Helper()
	bytesOf, untouched := guarded(plainBytes(60), noByte)
	chunks := [][]byte{bytesOf[:10], bytesOf[10:10], bytesOf[10:30], bytesOf[30:60], nil, {noByte}}
	list := chunks[:len(chunks)-1] // the room behind the list has a chunk that does not belong to it
	kept := copyChunks(chunks)
	first := call(list)
	want := bytes.Clone(first)
	overwrite(first, noByte)
	if !untouched() {
		t.Errorf("%s: a chunk is written into, or shared", name)
	}
	sameChunks(t, name+": the list", chunks, kept)
	second := call(list)
	sameBytes(t, name+": a second time", second, want)
	overwrite(bytesOf, noByte)
	sameBytes(t, name+": behind other chunks", second, want)
}

func TestListsOfChunksAreOnlyRead(t *testing.T) {
	data := plainBytes(60)
	checkChunksRead(t, "JoinChunks", func(list [][]byte) []byte {
		joined, _ := impl.JoinChunks(list)
		return joined
	})
	checkChunksRead(t, "JoinChunks of one", func(list [][]byte) []byte {
		joined, _ := impl.JoinChunks(list[2:3])
		return joined
	})
	recipes := [][][]byte{{data[30:60], data[:10], data[10:30], data[:10], nil}, {data[10:30]}, {nil}}
	for _, parts := range recipes {
		checkChunksRead(t, "BuildFrom", func(list [][]byte) []byte {
			built, _ := impl.BuildFrom(plainRecipe(parts), list)
			return built
		})
		checkChunksRead(t, "MissingFor", func(list [][]byte) []byte {
			missing, _ := impl.MissingFor(plainRecipe(append(parts, []byte("x"))), list)
			return slices.Clone(missing[0][:])
		})
	}
}

func TestRecipesAreOnlyRead(t *testing.T) {
	spoiled := impl.Piece{Key: impl.Key{noByte}, Length: noByte}
	chunks := [][]byte{[]byte("bb"), []byte("a"), []byte("ccc")}
	list := plainRecipe([][]byte{chunks[2], chunks[0], chunks[1], chunks[2]})
	checkApart(t, "RecipeText", list, spoiled, "", func(list []impl.Piece) []string {
		text, _ := impl.RecipeText(list)
		return []string{text}
	})
	checkApart(t, "BuildFrom", list, spoiled, noByte, func(list []impl.Piece) []byte {
		built, _ := impl.BuildFrom(list, chunks)
		return built
	})
	for n := range len(chunks) {
		checkApart(t, "MissingFor", list, spoiled, impl.Key{noByte}, func(list []impl.Piece) []impl.Key {
			missing, _ := impl.MissingFor(list, chunks[:n])
			return missing
		})
	}
	text, _ := impl.RecipeText(list)
	first, _ := impl.ReadRecipe(text)
	overwrite(first, spoiled)
	second, _ := impl.ReadRecipe(text)
	sameList(t, "ReadRecipe: a second time", second, list)
}

func TestTablesAreApart(t *testing.T) {
	table := impl.RollTable()
	kept := table
	clear(table[:])
	same(t, "another table", impl.RollTable(), kept)
}

func TestLargeArgumentsOfChunksReturn(t *testing.T) {
	data := make([]byte, 1000000)
	r := impl.CutRule{Least: 1, Most: 1}
	same(t, "RollOf", impl.RollOf(data), impl.RollOf(data[:32]))
	_, code := impl.ChunkKey(data)
	same(t, "ChunkKey", code, impl.ErrLimit)
	c := impl.Cutter{Rule: r, Roll: impl.RollOf(data), Held: data}
	same(t, "ValidCutter", impl.ValidCutter(c), false)
	same(t, "SameCutter", impl.SameCutter(c, c), true)
	_, _, code = impl.FeedCutter(c, data)
	same(t, "FeedCutter", code, impl.ErrInvalid)
	_, code = impl.EndCutter(c)
	same(t, "EndCutter", code, impl.ErrInvalid)
	for _, text := range []string{string(data), strings.Repeat(" ", len(data)), strings.Repeat("0 1\n", len(data)/4)} {
		_, code = impl.ReadRecipe(text)
		same(t, "ReadRecipe", code, impl.ErrLimit)
	}
	long := make([][]byte, 200)
	for i := range long {
		long[i] = data[:5000]
	}
	_, code = impl.JoinChunks(long)
	same(t, "JoinChunks", code, impl.ErrLimit)
	_, code = impl.BuildFrom(nil, long)
	same(t, "BuildFrom", code, impl.ErrLimit)
	_, code = impl.MissingFor(nil, long)
	same(t, "MissingFor", code, impl.ErrLimit)
}
