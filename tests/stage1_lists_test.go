package tests

import (
	"math/big"
	"slices"
	"strings"
	"testing"

	"loop.example/g01174/impl"
)

// sizes are the lengths of lists that are tried.
func sizes() []int {
	return []int{0, 1, 2, 3, 10, 40, impl.MaxKeys - 1, impl.MaxKeys}
}

// keyLists returns lists of keys of all sizes.
func keyLists(seed uint64) [][]impl.Key {
	r := chance(seed)
	var lists [][]impl.Key
	for _, n := range sizes() {
		lists = append(lists, someKeys(r, n), someKeys(r, n))
	}
	return lists
}

// tooMany returns lists of more than MaxKeys keys.
func tooMany() [][]impl.Key {
	return [][]impl.Key{
		someKeys(chance(20), impl.MaxKeys+1),
		make([]impl.Key, impl.MaxKeys+1),
		make([]impl.Key, 20000),
	}
}

// distance returns how far a key is from k, as a number.
func distance(a, k impl.Key) *big.Int {
	x, y := new(big.Int).SetBytes(a[:]), new(big.Int).SetBytes(k[:])
	return x.Xor(x, y)
}

func TestKeysAreSorted(t *testing.T) {
	for _, list := range keyLists(21) {
		sorted, code := impl.SortKeys(list)
		same(t, "code", code, impl.OK)
		for i := 1; i < len(sorted); i++ {
			same(t, "ascending", impl.CompareKeys(sorted[i-1], sorted[i]), -1)
		}
		for _, k := range list {
			same(t, "nothing is lost", slices.Contains(sorted, k), true)
		}
		for _, k := range sorted {
			same(t, "nothing is added", slices.Contains(list, k), true)
		}
	}
}

func TestSortingAtItsEdges(t *testing.T) {
	none, code := impl.SortKeys(nil)
	same(t, "code of no keys", code, impl.OK)
	same(t, "no keys", len(none), 0)
	once, code := impl.SortKeys(make([]impl.Key, impl.MaxKeys))
	same(t, "code of one key MaxKeys times", code, impl.OK)
	sameList(t, "one key", once, []impl.Key{{}})
	a, b, c := impl.Key{1}, impl.Key{1, 31: 1}, impl.Key{255}
	sorted, _ := impl.SortKeys([]impl.Key{c, a, b, a, c, b})
	sameList(t, "three keys twice", sorted, []impl.Key{a, b, c})
	for _, list := range tooMany() {
		sorted, code := impl.SortKeys(list)
		same(t, "code over MaxKeys", code, impl.ErrLimit)
		same(t, "nothing", len(sorted), 0)
	}
}

// plainFind is FindKey for a prefix that is one.
func plainFind(list []impl.Key, prefix string) (impl.Key, int64) {
	found := map[impl.Key]bool{}
	var last impl.Key
	for _, k := range list {
		if strings.HasPrefix(impl.KeyText(k), prefix) {
			found[k] = true
			last = k
		}
	}
	switch len(found) {
	case 0:
		return impl.Key{}, impl.ErrNotFound
	case 1:
		return last, impl.OK
	}
	return impl.Key{}, impl.ErrState
}

func TestKeysAreFoundByPrefixes(t *testing.T) {
	r := chance(22)
	for _, list := range keyLists(23) {
		asked := append(someKeys(r, 5), list[:min(len(list), 10)]...)
		for _, k := range asked {
			for n := range 65 {
				prefix := impl.KeyText(k)[:n]
				found, code := impl.FindKey(list, prefix)
				want, wantCode := plainFind(list, prefix)
				same(t, "code of "+prefix, code, wantCode)
				same(t, "key of "+prefix, found, want)
			}
		}
	}
}

func TestPrefixesAtTheirEdges(t *testing.T) {
	a, b, c := impl.Key{0x12, 31: 0xab}, impl.Key{0x12, 31: 0xac}, impl.Key{0x1f}
	long := impl.KeyText(a)
	tries := []struct {
		name   string
		list   []impl.Key
		prefix string
		want   impl.Key
		code   int64
	}{
		{"no digits, one key", []impl.Key{a}, "", a, impl.OK},
		{"no digits, one key twice", []impl.Key{a, a}, "", a, impl.OK},
		{"no digits, two keys", []impl.Key{a, b}, "", impl.Key{}, impl.ErrState},
		{"no digits, no keys", nil, "", impl.Key{}, impl.ErrNotFound},
		{"64 digits", []impl.Key{a, b, a}, long, a, impl.OK},
		{"64 digits of none", []impl.Key{b, c}, long, impl.Key{}, impl.ErrNotFound},
		{"63 digits of two", []impl.Key{a, b}, long[:63], impl.Key{}, impl.ErrState},
		{"half a byte", []impl.Key{a, b, c}, "1f", c, impl.OK},
		{"half a byte of all", []impl.Key{a, b, c}, "1", impl.Key{}, impl.ErrState},
		{"not at the beginning", []impl.Key{a}, "2", impl.Key{}, impl.ErrNotFound},
		{"65 digits", []impl.Key{a}, long + "0", impl.Key{}, impl.ErrSyntax},
		{"65 digits, no keys", nil, long + "0", impl.Key{}, impl.ErrSyntax},
		{"many digits", []impl.Key{a}, strings.Repeat("0", 100000), impl.Key{}, impl.ErrSyntax},
		{"capital letters", []impl.Key{c}, "1F", impl.Key{}, impl.ErrSyntax},
		{"capital letters, no keys", nil, "A", impl.Key{}, impl.ErrSyntax},
		{"a letter behind f", []impl.Key{c}, "1g", impl.Key{}, impl.ErrSyntax},
		{"another byte ahead of two keys", []impl.Key{a, b}, " ", impl.Key{}, impl.ErrSyntax},
		{"a byte of 0", []impl.Key{a}, "12\x00", impl.Key{}, impl.ErrSyntax},
		{"a byte of 255", []impl.Key{a}, "\xff", impl.Key{}, impl.ErrSyntax},
		{"MaxKeys keys", make([]impl.Key, impl.MaxKeys), "00", impl.Key{}, impl.OK},
	}
	for _, try := range tries {
		k, code := impl.FindKey(try.list, try.prefix)
		same(t, try.name+": code", code, try.code)
		same(t, try.name+": key", k, try.want)
	}
	for _, list := range tooMany() {
		for _, prefix := range []string{"", "0", "0G", long + "0"} {
			k, code := impl.FindKey(list, prefix)
			same(t, "code over MaxKeys", code, impl.ErrLimit)
			same(t, "no key", k, impl.Key{})
		}
	}
}

func TestShortestPrefixesTellKeys(t *testing.T) {
	for _, list := range keyLists(24) {
		for _, k := range list {
			n, code := impl.ShortestPrefix(list, k)
			same(t, "code", code, impl.OK)
			if n < 1 || n > 64 {
				t.Fatalf("a prefix of %d digits", n)
			}
			found, code := impl.FindKey(list, impl.KeyText(k)[:n])
			same(t, "code of the prefix", code, impl.OK)
			same(t, "key of the prefix", found, k)
			if n > 1 {
				_, code = impl.FindKey(list, impl.KeyText(k)[:n-1])
				same(t, "code of one digit less", code, impl.ErrState)
			}
		}
	}
}

func TestShortestPrefixesAtTheirEdges(t *testing.T) {
	k := impl.Key{0xab, 0xcd, 31: 0x10}
	for i := range 256 {
		n, code := impl.ShortestPrefix([]impl.Key{k, flipped(k, i), k}, k)
		same(t, "code", code, impl.OK)
		same(t, "digits", n, int64(i/4+1))
	}
	n, code := impl.ShortestPrefix([]impl.Key{k}, k)
	same(t, "code of one key", code, impl.OK)
	same(t, "digits of one key", n, 1)
	n, code = impl.ShortestPrefix(slices.Repeat([]impl.Key{k}, impl.MaxKeys), k)
	same(t, "code of one key MaxKeys times", code, impl.OK)
	same(t, "digits of one key MaxKeys times", n, 1)
	for _, list := range [][]impl.Key{nil, {flipped(k, 255)}, {{}, flipped(k, 0)}} {
		n, code := impl.ShortestPrefix(list, k)
		same(t, "code of a key that is not there", code, impl.ErrNotFound)
		same(t, "digits of a key that is not there", n, 0)
	}
	for _, list := range tooMany() {
		for _, asked := range []impl.Key{list[0], k} {
			n, code := impl.ShortestPrefix(list, asked)
			same(t, "code over MaxKeys", code, impl.ErrLimit)
			same(t, "no digits", n, 0)
		}
	}
}

func TestNearestKeysAreNearer(t *testing.T) {
	r := chance(25)
	for _, list := range keyLists(26) {
		sorted, _ := impl.SortKeys(list)
		asked := append(someKeys(r, 3), list[:min(len(list), 3)]...)
		for _, k := range asked {
			for _, count := range []int64{0, 1, 2, 7, int64(len(sorted)), impl.MaxKeys} {
				near, code := impl.NearestKeys(list, k, count)
				same(t, "code", code, impl.OK)
				same(t, "number", int64(len(near)), min(count, int64(len(sorted))))
				checkNearest(t, sorted, near, k)
			}
		}
	}
}

// checkNearest fails the test if near are not keys of sorted, from the nearest one on, with none left out.
func checkNearest(t *testing.T, sorted, near []impl.Key, k impl.Key) {
	t.Helper()
	for i := 1; i < len(near); i++ {
		same(t, "nearer than the next one", distance(near[i-1], k).Cmp(distance(near[i], k)), -1)
		if impl.CommonBits(near[i-1], k) < impl.CommonBits(near[i], k) {
			t.Error("a nearer key has fewer bits in common")
		}
	}
	if len(near) == 0 {
		return
	}
	last := distance(near[len(near)-1], k)
	for _, other := range sorted {
		inside := distance(other, k).Cmp(last) <= 0
		same(t, "nearer than all others", slices.Contains(near, other), inside)
	}
	for _, n := range near {
		same(t, "a key of the list", slices.Contains(sorted, n), true)
	}
}

func TestNearestKeysAtTheirEdges(t *testing.T) {
	k := impl.Key{0x50}
	a, b, c := impl.Key{0x51}, impl.Key{0x40}, impl.Key{0x4f}
	list := []impl.Key{c, b, a, k, b, a}
	near, code := impl.NearestKeys(list, k, impl.MaxKeys)
	same(t, "code of all", code, impl.OK)
	sameList(t, "all", near, []impl.Key{k, a, b, c})
	near, code = impl.NearestKeys(list, k, 3)
	same(t, "code of three", code, impl.OK)
	sameList(t, "three", near, []impl.Key{k, a, b})
	near, code = impl.NearestKeys(list, k, 0)
	same(t, "code of none", code, impl.OK)
	same(t, "none", len(near), 0)
	near, code = impl.NearestKeys(nil, k, 5)
	same(t, "code of no keys", code, impl.OK)
	same(t, "of no keys", len(near), 0)
	for _, count := range []int64{-1, -1 << 63, impl.MaxKeys + 1, 1<<63 - 1} {
		for _, keys := range [][]impl.Key{nil, list} {
			near, code := impl.NearestKeys(keys, k, count)
			same(t, "code of a count", code, impl.ErrRange)
			same(t, "nothing", len(near), 0)
		}
	}
	for _, keys := range tooMany() {
		for _, count := range []int64{-1, 0, 1, impl.MaxKeys, impl.MaxKeys + 1} {
			near, code := impl.NearestKeys(keys, k, count)
			same(t, "code over MaxKeys", code, impl.ErrLimit)
			same(t, "nothing", len(near), 0)
		}
	}
}
