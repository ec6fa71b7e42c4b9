// Package nums is layer 1: numbers as bytes. See doc/01-nums.md.
package nums

import "drydock/api"

// wordBytes is how many bytes a number takes.
const wordBytes = 4

// word is a number of 32 bits: counts have no sign, the numbers of a list have one, and their bytes are made alike.
type word interface{ int32 | uint32 }

// PutFour appends the four bytes of n to a copy of b, the lowest first. (P1.1)
func PutFour(b []byte, n uint32) []byte {
	return addWords(copyWithRoom(b, 1), n)
}

// GetFour returns the number in the first four bytes of b. (P1.1)
func GetFour(b []byte) (uint32, api.Errno) {
	if len(b) < wordBytes {
		return 0, api.ErrShort
	}
	return readWord[uint32](b), api.OK
}

// PutList appends the length of l and its numbers to a copy of b. A list of any length is written, but GetList reads none that is longer than MaxSize. (P1.2)
func PutList(b []byte, l []int32) []byte {
	out := copyWithRoom(b, 1+len(l))
	out = addWords(out, uint32(len(l)))
	return addWords(out, l...)
}

// GetList returns the list that b begins with, and how many bytes it took. (P1.2)
func GetList(b []byte) (l []int32, took int, e api.Errno) {
	many, e := GetFour(b)
	if e != api.OK {
		return nil, 0, e
	}
	// Held against the limit as it was read: as an int it might not fit.
	if many > api.MaxSize {
		return nil, 0, api.ErrLimit
	}
	took = wordBytes * (1 + int(many))
	if len(b) < took {
		return nil, 0, api.ErrShort
	}
	return readWords[int32](b[wordBytes:took]), took, api.OK
}

// copyWithRoom copies b, because appending to b itself would write into the caller's spare capacity (R4).
func copyWithRoom(b []byte, words int) []byte {
	out := make([]byte, len(b), len(b)+wordBytes*words)
	copy(out, b)
	return out
}

// addWords appends to b itself: b is memory of this package's own.
func addWords[T word](b []byte, l ...T) []byte {
	for _, n := range l {
		b = append(b, byte(n), byte(n>>8), byte(n>>16), byte(n>>24))
	}
	return b
}

// readWord takes for granted that b has four bytes.
func readWord[T word](b []byte) T {
	return T(b[0]) | T(b[1])<<8 | T(b[2])<<16 | T(b[3])<<24
}

// readWords takes for granted that b is whole numbers, none of them cut off.
func readWords[T word](b []byte) []T {
	l := make([]T, len(b)/wordBytes)
	for i := range l {
		l[i] = readWord[T](b[wordBytes*i:])
	}
	return l
}
