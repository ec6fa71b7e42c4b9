package sums_test

import (
	"hash/crc32"
	"math"
	"slices"
	"testing"

	"drydock/sums"
)

// plain is the checksum as the document words it, bit by bit and without a table.
func plain(sum uint32, b []byte) uint32 {
	register := ^sum
	for _, x := range b {
		register ^= uint32(x)
		for range 8 {
			if register&1 == 1 {
				register = register>>1 ^ 0xEDB88320
			} else {
				register >>= 1
			}
		}
	}
	return ^register
}

// byteRun is n bytes without an order to be seen; another seed gives others.
func byteRun(n int, seed uint32) []byte {
	b := make([]byte, n)
	for i := range b {
		seed = seed*1664525 + 1013904223
		b[i] = byte(seed >> 24)
	}
	return b
}

// someSums are sums to go on from: the edges, and each bit alone.
func someSums() []uint32 {
	l := []uint32{0, 7, 0xCBF43926, 0xEDB88320, math.MaxInt32, math.MaxUint32 - 1, math.MaxUint32}
	for bit := range 32 {
		l = append(l, 1<<bit, ^uint32(1<<bit))
	}
	return l
}

// sizes are those of a sector, of a page and of its body among others.
func sizes() []int {
	return []int{0, 1, 2, 3, 4, 5, 7, 8, 9, 15, 16, 17, 63, 64, 65, 240, 255, 256, 257, 4096, 65536}
}

// sumBytes are the four bytes of a sum, the lowest first.
func sumBytes(n uint32) []byte {
	return []byte{byte(n), byte(n >> 8), byte(n >> 16), byte(n >> 24)}
}

// P2.1

func TestExamples(t *testing.T) {
	for _, b := range [][]byte{nil, {}} {
		if n := sums.Of(b); n != 0 {
			t.Errorf("Of(none) = %#x", n)
		}
		if n := sums.On(7, b); n != 7 {
			t.Errorf("On(7, none) = %#x", n)
		}
	}
	if n := sums.Of([]byte("123456789")); n != 3421780262 {
		t.Errorf("Of(123456789) = %#x", n)
	}
}

// TestOfKnown has sums that were not worked out by this project.
func TestOfKnown(t *testing.T) {
	for _, c := range []struct {
		b    []byte
		want uint32
	}{
		{[]byte("a"), 0xE8B7BE43},
		{[]byte("abc"), 0x352441C2},
		{[]byte("The quick brown fox jumps over the lazy dog"), 0x414FA339},
		{[]byte{0}, 0xD202EF8D},
		{make([]byte, 4), 0x2144DF1C},
		{make([]byte, 32), 0x190A55AD},
		{[]byte{255}, 0xFF000000},
		{[]byte{255, 255, 255, 255}, 0xFFFFFFFF},
	} {
		if n := sums.Of(c.b); n != c.want {
			t.Errorf("Of(%v) = %#x, want %#x", c.b, n, c.want)
		}
	}
}

func TestOfEachByte(t *testing.T) {
	for x := range 256 {
		b := []byte{byte(x)}
		if n, want := sums.Of(b), plain(0, b); n != want {
			t.Errorf("Of(%d) = %#x, want %#x", x, n, want)
		}
		b = []byte{byte(x), 0, byte(x), 255}
		if n, want := sums.Of(b), plain(0, b); n != want {
			t.Errorf("Of(%v) = %#x, want %#x", b, n, want)
		}
	}
}

func TestOfAsTheDocumentWordsIt(t *testing.T) {
	for _, size := range sizes() {
		for seed := range uint32(8) {
			b := byteRun(size, seed)
			if n, want := sums.Of(b), plain(0, b); n != want {
				t.Errorf("%d bytes, seed %d: %#x, want %#x", size, seed, n, want)
			}
			if n, want := sums.Of(b), crc32.ChecksumIEEE(b); n != want {
				t.Errorf("%d bytes, seed %d: %#x, the library says %#x", size, seed, n, want)
			}
		}
	}
}

func TestOnNothing(t *testing.T) {
	for _, sum := range someSums() {
		for _, b := range [][]byte{nil, {}, byteRun(9, 1)[:0]} {
			if n := sums.On(sum, b); n != sum {
				t.Errorf("On(%#x, none) = %#x", sum, n)
			}
		}
	}
}

// TestOnAnySum: also from sums to which nobody knows the first bytes.
func TestOnAnySum(t *testing.T) {
	for _, sum := range someSums() {
		for _, size := range []int{1, 2, 3, 4, 5, 8, 64, 257} {
			b := byteRun(size, sum)
			if n, want := sums.On(sum, b), plain(sum, b); n != want {
				t.Errorf("On(%#x, %d bytes) = %#x, want %#x", sum, size, n, want)
			}
			if n, want := sums.On(sum, b), crc32.Update(sum, crc32.IEEETable, b); n != want {
				t.Errorf("On(%#x, %d bytes) = %#x, the library says %#x", sum, size, n, want)
			}
		}
	}
}

// TestOnAsIfThereWereFirstOnes finds the first four bytes that have a sum, and goes on behind them.
func TestOnAsIfThereWereFirstOnes(t *testing.T) {
	rest := byteRun(11, 3)
	for _, sum := range someSums() {
		first := bytesWithSum(sum)
		if n := sums.Of(first); n != sum {
			t.Fatalf("Of(%v) = %#x, want %#x", first, n, sum)
		}
		if n, want := sums.On(sum, rest), sums.Of(slices.Concat(first, rest)); n != want {
			t.Errorf("On(%#x, ..) = %#x, want %#x", sum, n, want)
		}
	}
}

// bytesWithSum shifts the register of a sum back by 32 bits: what stands there then is the starting register combined with the four bytes.
func bytesWithSum(sum uint32) []byte {
	register := ^sum
	for range 32 {
		if register>>31 == 1 {
			register = (register^0xEDB88320)<<1 | 1
		} else {
			register <<= 1
		}
	}
	return sumBytes(^register)
}

// P2.2

func TestInPieces(t *testing.T) {
	for _, size := range []int{0, 1, 2, 5, 9, 64, 100} {
		b := byteRun(size, 5)
		want := sums.Of(b)
		for i := range size + 1 {
			head := sums.Of(b[:i])
			for j := i; j <= size; j++ {
				if n := sums.On(sums.On(head, b[i:j]), b[j:]); n != want {
					t.Fatalf("%d bytes, parted at %d and %d: %#x, want %#x", size, i, j, n, want)
				}
			}
		}
		byOne := sums.Of(nil)
		for i := range b {
			byOne = sums.On(byOne, b[i:i+1])
		}
		if byOne != want {
			t.Errorf("%d bytes, one by one: %#x, want %#x", size, byOne, want)
		}
	}
}

func TestInPiecesFromAnySum(t *testing.T) {
	b := byteRun(20, 6)
	for _, sum := range someSums() {
		for k := range len(b) + 1 {
			if n, want := sums.On(sums.On(sum, b[:k]), b[k:]), sums.On(sum, b); n != want {
				t.Errorf("from %#x, parted at %d: %#x, want %#x", sum, k, n, want)
			}
		}
	}
}

// flipped is a copy of b whose bytes from place on are combined with those of change.
func flipped(b []byte, place int, change []byte) []byte {
	out := slices.Clone(b)
	for i, x := range change {
		out[place+i] ^= x
	}
	return out
}

func TestDifferentWithinFourNeighbours(t *testing.T) {
	for _, size := range []int{4, 5, 64, 256} {
		b := byteRun(size, 7)
		sum := sums.Of(b)
		for place := range size - 3 {
			for seed := range uint32(40) {
				change := byteRun(4, seed+uint32(place))
				change[seed%4] |= 1
				if sums.Of(flipped(b, place, change)) == sum {
					t.Errorf("%d bytes, changed by %v at %d: the same sum", size, change, place)
				}
			}
			for bit := range 32 {
				if sums.Of(flipped(b, place, sumBytes(1<<bit))) == sum {
					t.Errorf("%d bytes, bit %d changed at %d: the same sum", size, bit, place)
				}
			}
		}
	}
}

// TestDifferentForShortBytes tries every change of one byte and of two neighbours.
func TestDifferentForShortBytes(t *testing.T) {
	for _, size := range []int{1, 2} {
		seen := map[uint32]int{}
		for x := range 1 << (8 * size) {
			n := sums.Of(sumBytes(uint32(x))[:size])
			if y, there := seen[n]; there {
				t.Fatalf("%d and %d as %d bytes: the same sum %#x", x, y, size, n)
			}
			seen[n] = x
		}
	}
}

// TestChangesOfFourBytesAreIndependent: no set of the 32 bits can be flipped without a trace, because flips combine by exclusive or; so this stands for all changes within four bytes.
func TestChangesOfFourBytesAreIndependent(t *testing.T) {
	b := byteRun(64, 8)
	for _, place := range []int{0, 1, 30, 59, 60} {
		var traces [32]uint32
		for bit := range 32 {
			traces[bit] = sums.Of(b) ^ sums.Of(flipped(b, place, sumBytes(1<<bit)))
		}
		if n := rank(traces); n != 32 {
			t.Errorf("at %d: %d of 32 bits are told apart", place, n)
		}
	}
}

// rank is how many of the words are no exclusive or of others before them.
func rank(words [32]uint32) int {
	var basis [32]uint32
	n := 0
	for _, w := range words {
		for bit := 31; bit >= 0 && w != 0; bit-- {
			if w>>bit&1 == 0 {
				continue
			}
			if basis[bit] == 0 {
				basis[bit] = w
				n++
				break
			}
			w ^= basis[bit]
		}
	}
	return n
}

func TestThreeListsOfOneLength(t *testing.T) {
	for _, size := range sizes() {
		a, b, c := byteRun(size, 11), byteRun(size, 12), byteRun(size, 13)
		for _, third := range [][]byte{c, a, make([]byte, size)} {
			all := flipped(flipped(a, 0, b), 0, third)
			if n, want := sums.Of(a)^sums.Of(b)^sums.Of(third), sums.Of(all); n != want {
				t.Errorf("%d bytes: %#x, want %#x", size, n, want)
			}
		}
	}
}

func TestFollowedByTheChecksum(t *testing.T) {
	// No bytes are followed by four zeros.
	want := sums.Of([]byte{0, 0, 0, 0})
	if want != 0x2144DF1C {
		t.Errorf("four zeros: %#x", want)
	}
	for _, size := range sizes() {
		for seed := range uint32(4) {
			b := byteRun(size, seed)
			whole := append(slices.Clone(b), sumBytes(sums.Of(b))...)
			if n := sums.Of(whole); n != want {
				t.Errorf("%d bytes, seed %d: %#x, want %#x", size, seed, n, want)
			}
		}
	}
	for _, sum := range someSums() {
		if n := sums.On(sum, sumBytes(sum)); n != want {
			t.Errorf("%#x behind itself: %#x, want %#x", sum, n, want)
		}
	}
}

// Rules

// TestArgumentsAreNotChanged: R4, the spare capacity included; and what stands there is not counted.
func TestArgumentsAreNotChanged(t *testing.T) {
	for _, size := range []int{0, 1, 4, 64, 256} {
		for _, spare := range []int{0, 1, 4, 64} {
			whole := byteRun(size+spare, 17)
			before := slices.Clone(whole)
			want := plain(0, before[:size])
			if n := sums.Of(whole[:size]); n != want {
				t.Errorf("%d bytes, %d spare: %#x, want %#x", size, spare, n, want)
			}
			sums.On(7, whole[:size])
			if !slices.Equal(whole, before) {
				t.Errorf("%d bytes, %d spare: changed", size, spare)
			}
		}
	}
}

// TestSameCallSameResult: R5, nothing is left over from other calls, nor from calls that run meanwhile.
func TestSameCallSameResult(t *testing.T) {
	b := byteRun(100, 19)
	want := plain(0, b)
	results := make(chan uint32)
	for worker := range 8 {
		go func() {
			for size := range 50 {
				sums.On(uint32(worker), byteRun(size, uint32(worker)))
			}
			results <- sums.Of(b)
		}()
	}
	for range 8 {
		if n := <-results; n != want {
			t.Errorf("%#x, want %#x", n, want)
		}
	}
}

// FuzzOn: R1, P2.1 and P2.2 for any bytes and any sum.
func FuzzOn(f *testing.F) {
	f.Add(uint32(0), []byte(nil), []byte(nil))
	f.Add(uint32(7), []byte(nil), []byte{0})
	f.Add(uint32(math.MaxUint32), []byte("12345"), []byte("6789"))
	f.Fuzz(func(t *testing.T, sum uint32, a, b []byte) {
		whole := slices.Concat(a, b)
		n := sums.On(sum, whole)
		if want := plain(sum, whole); n != want {
			t.Errorf("On(%#x, %v) = %#x, want %#x", sum, whole, n, want)
		}
		if pieces := sums.On(sums.On(sum, a), b); pieces != n {
			t.Errorf("On(%#x, %v then %v) = %#x, want %#x", sum, a, b, pieces, n)
		}
		if end := sums.On(n, sumBytes(n)); end != 0x2144DF1C {
			t.Errorf("On(%#x, %v) behind itself = %#x", sum, whole, end)
		}
	})
}
