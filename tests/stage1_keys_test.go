package tests

import (
	"encoding/hex"
	"math/big"
	"strconv"
	"strings"
	"testing"

	"loop.example/g01174/impl"
)

func TestTextsOfKeys(t *testing.T) {
	for b := range 256 {
		for _, at := range []int{0, 1, 15, 31} {
			var k impl.Key
			k[at] = byte(b)
			text := impl.KeyText(k)
			same(t, "text", text, hex.EncodeToString(k[:]))
			read, code := impl.ReadKey(text)
			same(t, "code", code, impl.OK)
			same(t, "key", read, k)
		}
	}
	r := chance(10)
	for range 100 {
		k := someKey(r)
		same(t, "text", impl.KeyText(k), hex.EncodeToString(k[:]))
		read, code := impl.ReadKey(impl.KeyText(k))
		same(t, "code", code, impl.OK)
		same(t, "key", read, k)
	}
}

func TestTextsThatAreNoKeys(t *testing.T) {
	zeros := strings.Repeat("0", 64)
	texts := []string{"", "0", "00", zeros[:62], zeros[:63], zeros + "0", zeros + "00", zeros + "\n", " " + zeros[1:], "0x" + zeros[2:], strings.Repeat("0", 100000)}
	for _, wrong := range []string{"A", "F", "G", "g", "z", "/", ":", "@", "`", " ", "-", "+", "\x00", "\xff"} {
		for _, at := range []int{0, 1, 32, 62, 63} {
			texts = append(texts, zeros[:at]+wrong+zeros[at+1:])
		}
	}
	texts = append(texts, zeros[:62]+"\u00e4", strings.Repeat("\u0661", 32), strings.ToUpper(strings.Repeat("ab", 32)))
	for _, text := range texts {
		k, code := impl.ReadKey(text)
		same(t, "code of "+strconv.Quote(text[:min(len(text), 70)]), code, impl.ErrSyntax)
		same(t, "no key", k, impl.Key{})
	}
}

func TestOrderOfKeys(t *testing.T) {
	one, high := impl.Key{31: 1}, impl.Key{0: 128}
	same(t, "equal", impl.CompareKeys(high, high), 0)
	same(t, "the first byte decides", impl.CompareKeys(impl.Key{0: 1}, impl.Key{1: 255, 31: 255}), 1)
	same(t, "the last byte", impl.CompareKeys(impl.Key{}, one), -1)
	same(t, "bytes have no sign", impl.CompareKeys(high, impl.Key{0: 127}), 1)
	r := chance(11)
	list := someKeys(r, 60)
	for _, a := range list {
		for _, b := range list {
			x, y := new(big.Int).SetBytes(a[:]), new(big.Int).SetBytes(b[:])
			same(t, "order", impl.CompareKeys(a, b), int64(x.Cmp(y)))
		}
	}
}

func TestDifferencesOfKeys(t *testing.T) {
	r := chance(12)
	for range 100 {
		a, b := someKey(r), someKey(r)
		var want impl.Key
		for i := range want {
			want[i] = a[i] ^ b[i]
		}
		same(t, "difference", impl.XorKeys(a, b), want)
		same(t, "of itself", impl.XorKeys(a, a), impl.Key{})
		same(t, "there and back", impl.XorKeys(impl.XorKeys(a, b), b), a)
	}
}

func TestBitsInCommon(t *testing.T) {
	r := chance(13)
	for i := range 256 {
		a := someKey(r)
		b := flipped(a, i)
		same(t, "one other bit", impl.CommonBits(a, b), int64(i))
		same(t, "turned around", impl.CommonBits(b, a), int64(i))
		for j := i + 1; j < 256; j++ {
			if r.IntN(2) == 0 {
				b = flipped(b, j)
			}
		}
		same(t, "more other bits behind", impl.CommonBits(a, b), int64(i))
		same(t, "equal", impl.CommonBits(a, a), 256)
	}
}
