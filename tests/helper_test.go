package tests

import (
	"math/rand/v2"
	"slices"
	"testing"

	"loop.example/g01174/impl"
)

// same fails the test if got is not want.
func same[T comparable](t *testing.T, name string, got, want T) {
	t.Helper()
	if got != want {
		t.Errorf("%s: got %v, want %v", name, got, want)
	}
}

// sameList fails the test if two lists are not equal; nil is the empty list.
func sameList[T comparable](t *testing.T, name string, got, want []T) {
	t.Helper()
	if !slices.Equal(got, want) {
		t.Errorf("%s: got %v, want %v", name, got, want)
	}
}

// chance returns numbers that look random and are the same in every run.
func chance(seed uint64) *rand.Rand {
	return rand.New(rand.NewPCG(seed, 1))
}

// someBytes returns n bytes that look random.
func someBytes(r *rand.Rand, n int) []byte {
	data := make([]byte, n)
	for i := range data {
		data[i] = byte(r.Uint32())
	}
	return data
}

// someKey returns a key that looks random.
func someKey(r *rand.Rand) impl.Key {
	return impl.Key(someBytes(r, 32))
}

// closeKey returns a key that often begins like others: few bits of it are not 0.
func closeKey(r *rand.Rand) impl.Key {
	var k impl.Key
	for range 3 {
		k[r.IntN(32)] ^= 1 << r.IntN(8)
	}
	return k
}

// someKeys returns n keys, some of them close to each other and some twice.
func someKeys(r *rand.Rand, n int) []impl.Key {
	var list []impl.Key
	for len(list) < n {
		switch r.IntN(4) {
		case 0:
			list = append(list, someKey(r))
		case 1, 2:
			list = append(list, closeKey(r))
		case 3:
			if len(list) > 0 {
				list = append(list, list[r.IntN(len(list))])
			}
		}
	}
	return list
}

// flipped returns k with the bit i changed, the highest bit of the first byte being the bit 0.
func flipped(k impl.Key, i int) impl.Key {
	k[i/8] ^= 128 >> (i % 8)
	return k
}

// guarded returns s with room behind it, and a function that reports whether neither has been written into.
func guarded[T comparable](s []T, room T) ([]T, func() bool) {
	whole := slices.Concat(s, slices.Repeat([]T{room}, 100))
	kept := slices.Clone(whole)
	return whole[:len(s)], func() bool { return slices.Equal(whole, kept) }
}

// overwrite fills s, and the room behind it, with a value.
func overwrite[T any](s []T, value T) {
	whole := s[:cap(s)]
	for i := range whole {
		whole[i] = value
	}
}

// checkApart checks that call writes nothing into its argument, that its result shares no memory with it or with an
// earlier result, and that it tells the same again. The values a and r should not occur in argument and result.
func checkApart[A, R comparable](t *testing.T, name string, list []A, a A, r R, call func([]A) []R) {
	t.Helper()
	arg, untouched := guarded(list, a)
	first := call(arg)
	want := slices.Clone(first)
	if !untouched() {
		t.Errorf("%s: an argument is written into", name)
	}
	overwrite(first, r)
	if !untouched() {
		t.Errorf("%s: the result shares memory with an argument", name)
	}
	second := call(arg)
	sameList(t, name+": a second time", second, want)
	overwrite(arg, a)
	sameList(t, name+": behind another argument", second, want)
}
