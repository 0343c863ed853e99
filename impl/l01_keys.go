package impl

import (
	"bytes"
	"math/bits"
	"slices"
	"strings"
)

// Codes of errors.
const (
	OK          = 0
	ErrInvalid  = 1
	ErrRange    = 2
	ErrLimit    = 3
	ErrState    = 4
	ErrSyntax   = 5
	ErrNotFound = 6
	ErrBudget   = 7
	ErrProof    = 8
)

// Limits of data and keys.
const (
	MaxData = 4096
	MaxKeys = 256
	MaxFed  = 1000000000
)

// blockSize is the number of bytes that are mixed at a time.
const blockSize = 32

// lengthAt is where the length begins in the last block.
const lengthAt = 24

// roundStep makes each step of the mixing add another number.
const roundStep uint32 = 2654435769

// wordStep makes each word of a first state another number.
const wordStep uint32 = 16777619

// hexDigits are the digits of texts of keys.
const hexDigits = "0123456789abcdef"

// Key is a hash.
type Key [32]byte

// Hasher is fed with data piece by piece.
type Hasher struct {
	State [8]uint32
	Held  []byte
	Count int64
}

// CodeName returns the name of an error code.
func CodeName(code int64) string {
	names := [...]string{"ok", "invalid", "range", "limit", "state", "syntax", "notfound", "budget", "proof"}
	if code < 0 || code >= int64(len(names)) {
		return ""
	}
	return names[code]
}

// MixBlock mixes a block into a state.
func MixBlock(state [8]uint32, block [32]byte) [8]uint32 {
	words := wordsOf(block)
	s := state // a copy, so that state keeps the words of the beginning
	for r := range uint32(12) {
		for i := range uint32(8) {
			t := s[i] + words[(i+3*r)%8] + roundStep*(8*r+i+1)
			u := bits.RotateLeft32(t, 7) ^ s[(i+1)%8]
			s[i] = u + bits.RotateLeft32(s[(i+5)%8], 13)
		}
	}
	for i := range s {
		s[i] ^= state[i]
	}
	return s
}

// wordsOf returns the words of a block.
func wordsOf(block [32]byte) [8]uint32 {
	var words [8]uint32
	for i, b := range block {
		words[i/4] |= uint32(b) << (8 * (i % 4))
	}
	return words
}

// keyOfState returns the key whose words are those of a state.
func keyOfState(state [8]uint32) Key {
	var k Key
	for i := range k {
		k[i] = byte(state[i/4] >> (8 * (i % 4)))
	}
	return k
}

// mixBlocks mixes blocks into a state, in order.
func mixBlocks(state [8]uint32, blocks [][32]byte) [8]uint32 {
	for _, block := range blocks {
		state = MixBlock(state, block)
	}
	return state
}

// blocksOf returns the blocks of data that are nothing but full blocks.
func blocksOf(data []byte) [][32]byte {
	blocks := make([][32]byte, 0, len(data)/blockSize)
	for block := range slices.Chunk(data, blockSize) {
		blocks = append(blocks, [32]byte(block))
	}
	return blocks
}

// lastBlocks returns the padded blocks of tail, which is the end of count bytes.
func lastBlocks(tail []byte, count int64) [][32]byte {
	padded := slices.Concat(tail, []byte{128})
	for len(padded)%blockSize != lengthAt {
		padded = append(padded, 0)
	}
	for shift := 0; shift < 64; shift += 8 {
		padded = append(padded, byte(count>>shift))
	}
	return blocksOf(padded)
}

// StartState returns the state of a tag.
func StartState(tag byte) [8]uint32 {
	var state [8]uint32
	for i := range state {
		state[i] = wordStep*uint32(i+1) + uint32(tag)
	}
	return state
}

// PadBlocks returns the blocks of data.
func PadBlocks(data []byte) ([][32]byte, int64) {
	if len(data) > MaxData {
		return nil, ErrLimit
	}
	return lastBlocks(data, int64(len(data))), OK
}

// HashOf returns the key of data.
func HashOf(tag byte, data []byte) (Key, int64) {
	blocks, code := PadBlocks(data)
	if code != OK {
		return Key{}, code
	}
	return keyOfState(mixBlocks(StartState(tag), blocks)), OK
}

// StartHasher returns a hasher that has been fed with nothing.
func StartHasher(tag byte) Hasher {
	return Hasher{State: StartState(tag)}
}

// ValidHasher reports whether a hasher is valid.
func ValidHasher(h Hasher) bool {
	return h.Count >= 0 && h.Count <= MaxFed && int64(len(h.Held)) == h.Count%blockSize
}

// SameHasher reports whether two hashers are deeply equal.
func SameHasher(h, g Hasher) bool {
	return h.State == g.State && h.Count == g.Count && bytes.Equal(h.Held, g.Held)
}

// FeedHasher returns the hasher behind further data.
func FeedHasher(h Hasher, data []byte) (Hasher, int64) {
	if !ValidHasher(h) {
		return Hasher{}, ErrInvalid
	}
	if len(data) > MaxData || h.Count+int64(len(data)) > MaxFed {
		return Hasher{}, ErrLimit
	}
	return h.fed(data), OK
}

// fed returns the valid hasher h behind further data.
func (h Hasher) fed(data []byte) Hasher {
	all := slices.Concat(h.Held, data) // not append: the room behind Held is not ours
	full := len(all) - len(all)%blockSize
	return Hasher{
		State: mixBlocks(h.State, blocksOf(all[:full])),
		Held:  slices.Clone(all[full:]),
		Count: h.Count + int64(len(data)),
	}
}

// KeyOf returns the key of all data of a hasher.
func KeyOf(h Hasher) (Key, int64) {
	return ifValid(h, Hasher.key)
}

// key returns the key of all data of the valid hasher h.
func (h Hasher) key() Key {
	return keyOfState(mixBlocks(h.State, lastBlocks(h.Held, h.Count)))
}

// ifValid returns what a method of a hasher tells, if the hasher is valid.
func ifValid(h Hasher, tell func(Hasher) Key) (Key, int64) {
	if !ValidHasher(h) {
		return Key{}, ErrInvalid
	}
	return tell(h), OK
}

// PairKey returns the key of two keys.
func PairKey(tag byte, a, b Key) Key {
	k, _ := HashOf(tag, slices.Concat(a[:], b[:])) // 64 bytes are within MaxData
	return k
}

// KeyText returns the text of a key.
func KeyText(k Key) string {
	var text [2 * len(k)]byte
	for i, b := range k {
		text[2*i] = hexDigits[b>>4]
		text[2*i+1] = hexDigits[b&15]
	}
	return string(text[:])
}

// ReadKey returns the key with a text.
func ReadKey(text string) (Key, int64) {
	var k Key
	if len(text) != 2*len(k) || !isDigits(text) {
		return Key{}, ErrSyntax
	}
	for i := range k {
		high := strings.IndexByte(hexDigits, text[2*i])
		low := strings.IndexByte(hexDigits, text[2*i+1])
		k[i] = byte(16*high + low)
	}
	return k, OK
}

// isDigits reports whether all bytes of text are digits of texts of keys.
func isDigits(text string) bool {
	for i := range len(text) {
		if strings.IndexByte(hexDigits, text[i]) < 0 {
			return false
		}
	}
	return true
}

// CompareKeys compares two keys.
func CompareKeys(a, b Key) int64 {
	return int64(bytes.Compare(a[:], b[:]))
}

// XorKeys returns the difference of two keys.
func XorKeys(a, b Key) Key {
	for i := range a {
		a[i] ^= b[i]
	}
	return a
}

// CommonBits returns how many bits two keys have in common.
func CommonBits(a, b Key) int64 {
	for i, difference := range XorKeys(a, b) {
		if difference != 0 {
			return int64(8*i + bits.LeadingZeros8(difference))
		}
	}
	return int64(8 * len(a))
}

// onceEach returns the keys of a list, each where it comes first.
func onceEach(list []Key) []Key {
	seen := make(map[Key]bool, len(list))
	once := make([]Key, 0, len(list))
	for _, k := range list {
		if !seen[k] {
			seen[k] = true
			once = append(once, k)
		}
	}
	return once
}

// keyOrder compares two keys as the sorting functions want it.
func keyOrder(a, b Key) int {
	return int(CompareKeys(a, b))
}

// inOrder returns keys in ascending order, each once, however many there are.
func inOrder(list []Key) []Key {
	sorted := onceEach(list)
	slices.SortFunc(sorted, keyOrder)
	return sorted
}

// SortKeys returns keys in order.
func SortKeys(list []Key) ([]Key, int64) {
	if len(list) > MaxKeys {
		return nil, ErrLimit
	}
	return inOrder(list), OK
}

// FindKey returns the key with a prefix.
func FindKey(list []Key, prefix string) (Key, int64) {
	if len(list) > MaxKeys {
		return Key{}, ErrLimit
	}
	if len(prefix) > 2*len(Key{}) || !isDigits(prefix) {
		return Key{}, ErrSyntax
	}
	var found []Key
	for _, k := range onceEach(list) {
		if strings.HasPrefix(KeyText(k), prefix) {
			found = append(found, k)
		}
	}
	switch len(found) {
	case 0:
		return Key{}, ErrNotFound
	case 1:
		return found[0], OK
	}
	return Key{}, ErrState
}

// ShortestPrefix returns how many digits tell a key.
func ShortestPrefix(list []Key, k Key) (int64, int64) {
	if len(list) > MaxKeys {
		return 0, ErrLimit
	}
	if !slices.Contains(list, k) {
		return 0, ErrNotFound
	}
	digits := int64(1)
	for _, other := range list {
		if other != k {
			digits = max(digits, CommonBits(other, k)/4+1)
		}
	}
	return digits, OK
}

// NearestKeys returns the nearest keys.
func NearestKeys(list []Key, k Key, count int64) ([]Key, int64) {
	if len(list) > MaxKeys {
		return nil, ErrLimit
	}
	if count < 0 || count > MaxKeys {
		return nil, ErrRange
	}
	nearest := onceEach(list)
	slices.SortFunc(nearest, func(a, b Key) int {
		return int(CompareKeys(XorKeys(a, k), XorKeys(b, k)))
	})
	return nearest[:min(count, int64(len(nearest)))], OK
}
