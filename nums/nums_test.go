package nums_test

import (
	"bytes"
	"math"
	"slices"
	"testing"

	"drydock/api"
	"drydock/nums"
)

// words are numbers that tell the four bytes, their order and the sign apart.
func words() []uint32 {
	l := []uint32{0, 1, 127, 128, 255, 256, 258, 65535, 65536, 0x01020304, 0xfffefdfc, math.MaxInt32, 1 << 31, math.MaxUint32}
	for bit := range 32 {
		l = append(l, 1<<bit, 1<<bit-1)
	}
	return l
}

// byteRun is n bytes that differ from their neighbours.
func byteRun(n int) []byte {
	b := make([]byte, n)
	for i := range b {
		b[i] = byte(37*i + 11)
	}
	return b
}

// numberRun is n numbers of either sign, with all four bytes in use.
func numberRun(n int) []int32 {
	l := make([]int32, n)
	x := uint32(n)
	for i := range l {
		x = x*1664525 + 1013904223
		l[i] = int32(x)
	}
	return l
}

// countBytes writes a count by hand, so that GetList is not tested by PutFour alone.
func countBytes(n uint32) []byte {
	return []byte{byte(n), byte(n >> 8), byte(n >> 16), byte(n >> 24)}
}

// lists are the lists that the tests put and get: empty, the edges of a number, and lengths up to the limit.
func lists() [][]int32 {
	out := [][]int32{nil, {}, {0}, {-1}, {math.MinInt32, math.MaxInt32, 0, -1, 1, -2}}
	for _, n := range []int{1, 2, 3, 63, 64, 255, 256, 257, api.MaxSize - 1, api.MaxSize} {
		out = append(out, numberRun(n))
	}
	return out
}

// P1.1

func TestPutFourExample(t *testing.T) {
	if got := nums.PutFour([]byte{9}, 258); !bytes.Equal(got, []byte{9, 2, 1, 0, 0}) {
		t.Errorf("PutFour(9, 258) = %v", got)
	}
}

func TestGetFourExamples(t *testing.T) {
	if n, e := nums.GetFour([]byte{2, 1, 0, 0, 7}); n != 258 || e != api.OK {
		t.Errorf("GetFour(2 1 0 0 7) = %d, %d", n, e)
	}
	if n, e := nums.GetFour([]byte{1, 2, 3}); n != 0 || e != api.ErrShort {
		t.Errorf("GetFour(1 2 3) = %d, %d", n, e)
	}
}

func TestPutFourLowestFirst(t *testing.T) {
	for _, c := range []struct {
		n    uint32
		want []byte
	}{
		{0, []byte{0, 0, 0, 0}},
		{1, []byte{1, 0, 0, 0}},
		{0x01020304, []byte{4, 3, 2, 1}},
		{0x80000000, []byte{0, 0, 0, 128}},
		{math.MaxUint32, []byte{255, 255, 255, 255}},
	} {
		if got := nums.PutFour(nil, c.n); !bytes.Equal(got, c.want) {
			t.Errorf("PutFour(none, %d) = %v, want %v", c.n, got, c.want)
		}
		if n, e := nums.GetFour(c.want); n != c.n || e != api.OK {
			t.Errorf("GetFour(%v) = %d, %d, want %d", c.want, n, e, c.n)
		}
	}
}

func TestPutFourKeepsWhatWasThere(t *testing.T) {
	for _, size := range []int{0, 1, 3, 4, 5, 64, 1000} {
		b := byteRun(size)
		want := append(byteRun(size), 4, 3, 2, 1)
		if got := nums.PutFour(b, 0x01020304); !bytes.Equal(got, want) {
			t.Errorf("after %d bytes: %v", size, got)
		}
	}
}

func TestGetFourTooShort(t *testing.T) {
	for size := range 4 {
		// The bytes that are missing stand in the spare capacity, where they must not be read.
		b := byteRun(8)[:size]
		if n, e := nums.GetFour(b); n != 0 || e != api.ErrShort {
			t.Errorf("GetFour of %d bytes = %d, %d", size, n, e)
		}
	}
	if n, e := nums.GetFour(nil); n != 0 || e != api.ErrShort {
		t.Errorf("GetFour(nil) = %d, %d", n, e)
	}
}

// P1.2

func TestPutListExamples(t *testing.T) {
	if got := nums.PutList(nil, []int32{-1}); !bytes.Equal(got, []byte{1, 0, 0, 0, 255, 255, 255, 255}) {
		t.Errorf("PutList(none, -1) = %v", got)
	}
}

func TestGetListExamples(t *testing.T) {
	for _, c := range []struct {
		b    []byte
		l    []int32
		took int
		e    api.Errno
	}{
		{[]byte{1, 0, 0, 0, 255, 255, 255, 255, 9}, []int32{-1}, 8, api.OK},
		{[]byte{1, 0, 0, 0, 5}, nil, 0, api.ErrShort},
		{[]byte{1, 16, 0, 0}, nil, 0, api.ErrLimit},
	} {
		expectList(t, c.b, c.l, c.took, c.e)
	}
}

// expectList also asks that an error comes with no list and no count (R2).
func expectList(t *testing.T, b []byte, l []int32, took int, e api.Errno) {
	t.Helper()
	gotL, gotTook, gotE := nums.GetList(b)
	if !slices.Equal(gotL, l) || gotTook != took || gotE != e {
		head := b[:min(len(b), 8)]
		t.Errorf("GetList of %d bytes %v..: %d numbers, %d, %d; want %d numbers, %d, %d", len(b), head, len(gotL), gotTook, gotE, len(l), took, e)
	}
}

func TestPutListLayout(t *testing.T) {
	got := nums.PutList([]byte("ab"), []int32{1, -2, math.MinInt32, math.MaxInt32})
	want := []byte{
		'a', 'b', 4, 0, 0, 0,
		1, 0, 0, 0,
		254, 255, 255, 255,
		0, 0, 0, 128,
		255, 255, 255, 127,
	}
	if !bytes.Equal(got, want) {
		t.Errorf("got %v, want %v", got, want)
	}
}

func TestPutListEmpty(t *testing.T) {
	for _, b := range [][]byte{nil, {}, {7}} {
		want := append(slices.Clone(b), 0, 0, 0, 0)
		for _, l := range [][]int32{nil, {}} {
			if got := nums.PutList(b, l); !bytes.Equal(got, want) {
				t.Errorf("PutList(%v, none) = %v", b, got)
			}
		}
	}
	expectList(t, []byte{0, 0, 0, 0}, nil, 4, api.OK)
	expectList(t, []byte{0, 0, 0, 0, 1, 2, 3, 4}, nil, 4, api.OK)
}

func TestPutListAboveTheLimit(t *testing.T) {
	// PutList has no error: it writes what it is given, and only reading has the limit.
	for _, n := range []int{api.MaxSize + 1, 65536 + 3} {
		l := numberRun(n)
		b := nums.PutList([]byte{5}, l)
		want := append([]byte{5}, countBytes(uint32(n))...)
		for _, x := range l {
			want = append(want, countBytes(uint32(x))...)
		}
		if !bytes.Equal(b, want) {
			t.Errorf("PutList of %d numbers: wrong bytes", n)
		}
		expectList(t, b[1:], nil, 0, api.ErrLimit)
	}
}

func TestGetListNoCount(t *testing.T) {
	expectList(t, nil, nil, 0, api.ErrShort)
	for size := range 4 {
		// Whatever the bytes are: a count that is cut off says nothing yet, not even too much.
		expectList(t, bytes.Repeat([]byte{255}, 8)[:size], nil, 0, api.ErrShort)
		expectList(t, make([]byte, size, 8), nil, 0, api.ErrShort)
	}
}

func TestGetListCountAtTheLimit(t *testing.T) {
	body := byteRun(4 * api.MaxSize)
	b := append(countBytes(api.MaxSize), body...)
	l := make([]int32, api.MaxSize)
	for i := range l {
		c := body[4*i:]
		l[i] = int32(uint32(c[0]) | uint32(c[1])<<8 | uint32(c[2])<<16 | uint32(c[3])<<24)
	}
	expectList(t, b, l, 4+4*api.MaxSize, api.OK)
	expectList(t, append(slices.Clone(b), 1), l, 4+4*api.MaxSize, api.OK)
	expectList(t, b[:len(b)-1], nil, 0, api.ErrShort)
	expectList(t, b[:4], nil, 0, api.ErrShort)
}

func TestGetListCountAboveTheLimit(t *testing.T) {
	body := make([]byte, 4*(api.MaxSize+2))
	for _, n := range []uint32{api.MaxSize + 1, api.MaxSize + 2, 65536, 1 << 24, 1 << 30, 1<<30 + 1, math.MaxInt32, 1 << 31, 1<<31 + 1, math.MaxUint32} {
		// The limit comes first, whether or not the bytes would do.
		for _, follow := range []int{0, 1, 4, len(body)} {
			expectList(t, append(countBytes(n), body[:follow]...), nil, 0, api.ErrLimit)
		}
	}
}

func TestGetListFewerBytesThanItSays(t *testing.T) {
	for many := 1; many <= 5; many++ {
		b := append(countBytes(uint32(many)), byteRun(4*many)...)
		for size := 4; size < len(b); size++ {
			expectList(t, b[:size], nil, 0, api.ErrShort)
		}
		if l, took, e := nums.GetList(b); len(l) != many || took != len(b) || e != api.OK {
			t.Errorf("%d numbers: %v, %d, %d", many, l, took, e)
		}
	}
}

// P1.3 and P0.5

func TestFourIsReadBackWhateverFollows(t *testing.T) {
	for _, n := range words() {
		for _, rest := range [][]byte{nil, {0}, {255}, byteRun(9)} {
			b := append(nums.PutFour(nil, n), rest...)
			if got, e := nums.GetFour(b); got != n || e != api.OK {
				t.Errorf("put %d, got %d, %d", n, got, e)
			}
		}
	}
}

func TestFourPutAgain(t *testing.T) {
	for shift := range 256 {
		b := []byte{byte(shift), byte(3*shift + 1), byte(7*shift + 2), byte(255 - shift)}
		n, e := nums.GetFour(b)
		if again := nums.PutFour(nil, n); e != api.OK || !bytes.Equal(again, b) {
			t.Errorf("read %v, put %v", b, again)
		}
	}
}

func TestListIsReadBackWhateverFollows(t *testing.T) {
	for _, l := range lists() {
		put := nums.PutList(nil, l)
		if len(put) != 4+4*len(l) {
			t.Errorf("%d numbers in %d bytes", len(l), len(put))
		}
		for _, rest := range [][]byte{nil, {0}, {255}, byteRun(9)} {
			expectList(t, append(slices.Clone(put), rest...), l, len(put), api.OK)
		}
	}
}

func TestListPutAgain(t *testing.T) {
	for _, many := range []int{0, 1, 2, 5, 256, api.MaxSize} {
		b := append(countBytes(uint32(many)), byteRun(4*many+3)...)
		l, took, e := nums.GetList(b)
		if e != api.OK {
			t.Fatalf("%d numbers: error %d", many, e)
		}
		if again := nums.PutList(nil, l); !bytes.Equal(again, b[:took]) {
			t.Errorf("%d numbers: other bytes when put again", many)
		}
	}
}

func TestListsOneAfterTheOther(t *testing.T) {
	var b []byte
	for _, l := range lists() {
		b = nums.PutList(b, l)
		b = nums.PutFour(b, uint32(len(l)))
	}
	for _, l := range lists() {
		got, took, e := nums.GetList(b)
		if e != api.OK || !slices.Equal(got, l) {
			t.Fatalf("%d numbers: got %d, error %d", len(l), len(got), e)
		}
		b = b[took:]
		if n, e := nums.GetFour(b); n != uint32(len(l)) || e != api.OK {
			t.Fatalf("behind %d numbers: %d, %d", len(l), n, e)
		}
		b = b[4:]
	}
	if len(b) != 0 {
		t.Errorf("%d bytes are left", len(b))
	}
}
