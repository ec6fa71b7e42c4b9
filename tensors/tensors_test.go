package tensors_test

import (
	"math"
	"slices"
	"testing"

	"drydock/api"
	"drydock/tensors"
)

func TestExamples(t *testing.T) {
	expectNew(t, []int{2, 2}, 4)
	if x, _ := tensors.New([]int{2, 2}); !slices.Equal(x.L, []int32{0, 0, 0, 0}) {
		t.Errorf("New(2 2): %v", x.L)
	}
	expectAt(t, of([]int{2, 2}, 1, 2, 3, 4), []int{1, 0}, 3)
	expectPut(t, of([]int{2}, 5, -1), []byte{1, 2, 5, 0, 0, 0, 255, 255, 255, 255})
	expectGet(t, []byte{1, 2, 5, 0, 0, 0, 255, 255, 255, 255}, of([]int{2}, 5, -1))
	expectNoGet(t, []byte{1, 0})
	expectNoGet(t, []byte{1, 1, 5, 0, 0, 0, 0})
}

// P5.1

func TestCheckTensorsAndOthers(t *testing.T) {
	for _, x := range someTensors() {
		expectCheck(t, x, true)
	}
	for _, x := range notTensors() {
		expectCheck(t, x, false)
	}
}

// TestCheckEachShapeWithEachManyNumbers: only as many as the shape has will do.
func TestCheckEachShapeWithEachManyNumbers(t *testing.T) {
	l := numberRun(40)
	for _, s := range lists([]int{-1, 0, 1, 2, 3}, api.MaxDims+1) {
		for many := range len(l) + 1 {
			x := of(s, l[:many]...)
			expectCheck(t, x, plainCheck(x))
		}
	}
}

// TestCheckAtTheLimits: dimensions 1, MaxDim and one above it; MaxSize numbers, one less and one more, and the least size above it.
func TestCheckAtTheLimits(t *testing.T) {
	for _, c := range []struct {
		s    []int
		many int
		want bool
	}{
		{[]int{1}, 1, true}, {[]int{64}, 64, true}, {[]int{65}, 65, false},
		{[]int{1, 1, 1, 1}, 1, true}, {[]int{1, 1, 1, 1, 1}, 1, false},
		{[]int{64, 64}, 4096, true}, {[]int{64, 64}, 4095, false}, {[]int{64, 64}, 4097, false},
		{[]int{8, 8, 8, 8}, 4096, true}, {[]int{64, 1, 1, 64}, 4096, true},
		{[]int{41, 50, 2}, 4100, false}, {[]int{41, 50, 2}, 4096, false}, {[]int{64, 65}, 4160, false}, {[]int{8, 8, 8, 9}, 4608, false},
	} {
		x := of(c.s, numberRun(c.many)...)
		expectCheck(t, x, c.want)
		if c.want {
			expectPut(t, x, plainBytes(x))
		} else {
			expectNoPut(t, x)
			expectNoAt(t, x, make([]int, len(c.s)))
		}
	}
}

// TestSpareCapacityIsNoNumber: what lies behind a list is not of the tensor.
func TestSpareCapacityIsNoNumber(t *testing.T) {
	l, s := numberRun(8), []int{2, 2, 1, 1, 1}
	expectCheck(t, api.Tensor{Shape: s[:2], L: l[:4]}, true)
	expectCheck(t, api.Tensor{Shape: s[:2], L: l[:3]}, false)
	expectCheck(t, api.Tensor{Shape: s[:0], L: l[:1]}, false)
	expectPut(t, api.Tensor{Shape: s[:2], L: l[:4]}, plainBytes(of([]int{2, 2}, l[:4]...)))
	b := plainBytes(of([]int{2}, 5, -1))
	expectNoGet(t, b[:len(b)-1])
	expectNoGet(t, b[:0])
	other := numberRun(8)
	other[4]++
	expectSame(t, api.Tensor{Shape: s[:2], L: l[:4]}, api.Tensor{Shape: []int{2, 2}, L: other[:4]}, true)
}

// P5.2

func TestNewOfEachShape(t *testing.T) {
	for _, s := range someShapes() {
		expectNew(t, s, plainSize(s))
	}
	for dim := -3; dim <= 300; dim++ {
		for _, s := range [][]int{{dim}, {1, dim}, {dim, 2, 1}, {1, 3, 1, dim}} {
			if size := plainSize(s); size > 0 {
				expectNew(t, s, size)
			} else {
				expectNoNew(t, s)
			}
		}
	}
}

func TestNewOfNoShape(t *testing.T) {
	for _, s := range notShapes() {
		expectNoNew(t, s)
	}
	for length := range 3 * api.MaxDims {
		s := slices.Repeat([]int{1}, length)
		if length >= 1 && length <= 4 {
			expectNew(t, s, 1)
		} else {
			expectNoNew(t, s)
		}
	}
	expectNoNew(t, slices.Repeat([]int{1}, 1<<20))
}

// TestAtEachPlace: the numbers stand in the order of their coordinates.
func TestAtEachPlace(t *testing.T) {
	for _, x := range someTensors() {
		for i, at := range plainPlaces(x.Shape) {
			expectAt(t, x, at, x.L[i])
		}
	}
}

// TestAtOutside: a coordinate below 0, or not below its dimension, in each place.
func TestAtOutside(t *testing.T) {
	for _, x := range someTensors() {
		for place, dim := range x.Shape {
			at := make([]int, len(x.Shape))
			for _, n := range []int{math.MinInt, math.MinInt32, -dim, -1, dim, dim + 1, 64, 4096, 1 << 32, math.MaxInt} {
				if n < 0 || n >= dim {
					at[place] = n
					expectNoAt(t, x, at)
				}
			}
		}
	}
	expectNoAt(t, of([]int{2, 3}, 1, 2, 3, 4, 5, 6), []int{0, 3})
	expectNoAt(t, of([]int{2, 3}, 1, 2, 3, 4, 5, 6), []int{1, -1})
}

func TestAtTooFewOrTooMany(t *testing.T) {
	for _, x := range someTensors() {
		for many := range 2 * api.MaxDims {
			if many != len(x.Shape) {
				expectNoAt(t, x, make([]int, many))
			}
		}
		expectNoAt(t, x, nil)
	}
}

// TestAtOfNoTensor: whatever the coordinates are, even if they lie within the shape and there is a number.
func TestAtOfNoTensor(t *testing.T) {
	for _, x := range notTensors() {
		for many := range api.MaxDims + 2 {
			expectNoAt(t, x, make([]int, many))
		}
		expectNoAt(t, x, x.Shape)
		expectNoAt(t, x, []int{-1})
	}
}

// P5.3

// TestSameOfAnyTwo: valid or not, only the shape and the numbers count.
func TestSameOfAnyTwo(t *testing.T) {
	all := append(someTensors(), notTensors()...)
	for i, a := range all {
		expectSame(t, a, a, true)
		expectSame(t, a, of(a.Shape, a.L...), true)
		for _, b := range all[i:] {
			expectSame(t, a, b, plainSame(a, b))
		}
	}
}

func TestSameButForOneNumber(t *testing.T) {
	for _, x := range []api.Tensor{of([]int{1}, 0), of([]int{2, 3}, 1, 2, 3, 4, 5, 6), of([]int{8, 8, 8, 8}, numberRun(4096)...), of([]int{65}, numberRun(65)...), of(nil, 1, 2, 3), of([]int{9}, 1, 2)} {
		for i := range x.L {
			for _, by := range []int32{1, -1, 256, 1 << 24, math.MinInt32} {
				y := of(x.Shape, x.L...)
				y.L[i] += by
				expectSame(t, x, y, false)
			}
		}
	}
}

func TestSameButForTheShape(t *testing.T) {
	l := numberRun(6)
	all := [][]int{nil, {6}, {1, 6}, {6, 1}, {2, 3}, {3, 2}, {1, 2, 3}, {2, 3, 1}, {2, 1, 3}, {1, 1, 2, 3}, {-2, -3}, {5}, {7}, {6, 0}, {1, 1, 1, 1, 6}}
	for i, a := range all {
		for j, b := range all {
			expectSame(t, of(a, l...), of(b, l...), i == j)
			expectSame(t, of(a), of(b), i == j)
		}
	}
}

// TestSameButForTheLength: one has the first numbers of the other one.
func TestSameButForTheLength(t *testing.T) {
	l := numberRun(6)
	for a := range len(l) + 1 {
		for b := range len(l) + 1 {
			expectSame(t, of([]int{2, 3}, l[:a]...), of([]int{2, 3}, l[:b]...), a == b)
			expectSame(t, of(nil, l[:a]...), of(nil, l[:b]...), a == b)
		}
	}
}

// TestSameOfEmptyAndNil: R4, they mean the same.
func TestSameOfEmptyAndNil(t *testing.T) {
	empty := []api.Tensor{{}, {Shape: []int{}}, {L: []int32{}}, {Shape: []int{}, L: []int32{}}}
	for _, a := range empty {
		for _, b := range empty {
			expectSame(t, a, b, true)
		}
		expectSame(t, a, of([]int{1}, 0), false)
		expectSame(t, a, of([]int{1}), false)
		expectSame(t, a, of(nil, 0), false)
	}
}

// P5.4

func TestPutLayout(t *testing.T) {
	expectPut(t, of([]int{1}, 0), []byte{1, 1, 0, 0, 0, 0})
	expectPut(t, of([]int{1, 1, 1, 1}, 0x01020304), []byte{4, 1, 1, 1, 1, 4, 3, 2, 1})
	expectPut(t, of([]int{2, 3}, 1, -2, math.MinInt32, math.MaxInt32, 256, -1), []byte{
		2, 2, 3,
		1, 0, 0, 0,
		254, 255, 255, 255,
		0, 0, 0, 128,
		255, 255, 255, 127,
		0, 1, 0, 0,
		255, 255, 255, 255,
	})
	long, _ := tensors.Put(of([]int{64}, numberRun(64)...))
	if len(long) != 2+4*64 || long[0] != 1 || long[1] != 64 {
		t.Errorf("64 numbers: %d bytes, %v..", len(long), long[:2])
	}
	longest, _ := tensors.Put(of([]int{64, 64}, numberRun(4096)...))
	if len(longest) != 3+4*4096 || !slices.Equal(longest[:3], []byte{2, 64, 64}) {
		t.Errorf("4096 numbers: %d bytes, %v..", len(longest), longest[:3])
	}
}

func TestPutOfTensorsAndOthers(t *testing.T) {
	for _, x := range someTensors() {
		expectPut(t, x, plainBytes(x))
	}
	for _, x := range notTensors() {
		expectNoPut(t, x)
	}
}

func TestGetOfTensors(t *testing.T) {
	for _, x := range someTensors() {
		expectGet(t, plainBytes(x), x)
	}
}

// TestGetOfBytesThatEndTooEarly: cut at every place, and none at all.
func TestGetOfBytesThatEndTooEarly(t *testing.T) {
	expectNoGet(t, nil)
	for _, x := range someTensors() {
		b := plainBytes(x)
		for size := range len(b) {
			expectNoGet(t, b[:size])
		}
	}
}

func TestGetOfBytesThatGoOn(t *testing.T) {
	for _, x := range someTensors() {
		b := plainBytes(x)
		for _, n := range []byte{0, 1, 255} {
			for _, more := range []int{1, 2, 3, 4, 5, 8} {
				expectNoGet(t, append(slices.Clone(b), slices.Repeat([]byte{n}, more)...))
			}
		}
		expectNoGet(t, append(slices.Clone(b), b...))
		expectNoGet(t, append([]byte{0}, b...))
	}
}

// TestGetOfEachNumberOfDimensions: with as many bytes behind it as it asks for.
func TestGetOfEachNumberOfDimensions(t *testing.T) {
	for many := range 256 {
		b := append([]byte{byte(many)}, slices.Repeat([]byte{1}, many)...)
		b = append(b, 9, 0, 0, 0)
		if many >= 1 && many <= 4 {
			expectGet(t, b, of(slices.Repeat([]int{1}, many), 9))
		} else {
			expectNoGet(t, b)
		}
		expectNoGet(t, b[:1])
		expectNoGet(t, b[:len(b)-4])
		expectNoGet(t, b[:len(b)-5])
	}
}

// TestGetOfEachDimension: in each place, with as many numbers behind it as it asks for, and with none.
func TestGetOfEachDimension(t *testing.T) {
	for many := 1; many <= api.MaxDims; many++ {
		for place := range many {
			for dim := range 256 {
				s := slices.Repeat([]int{1}, many)
				s[place] = dim
				x := of(s, numberRun(dim)...)
				if dim >= 1 && dim <= 64 {
					expectGet(t, plainBytes(x), x)
				} else {
					expectNoGet(t, plainBytes(x))
				}
				expectNoGet(t, plainBytes(of(s)))
			}
		}
	}
}

// TestGetAboveTheGreatestSize: each dimension is one, and as many numbers follow as they ask for; or as many as there may be.
func TestGetAboveTheGreatestSize(t *testing.T) {
	for _, s := range [][]int{{41, 50, 2}, {64, 64, 2}, {2, 64, 64}, {8, 8, 8, 9}, {63, 63, 2}, {16, 16, 16, 2}} {
		product := 1
		for _, dim := range s {
			product *= dim
		}
		for _, many := range []int{product, 4096, 4097, 1, 0} {
			expectNoGet(t, plainBytes(of(s, numberRun(many)...)))
		}
	}
	expectNoGet(t, plainBytes(of([]int{64, 64, 64, 64})))
	for _, many := range []int{4095, 4097} {
		expectNoGet(t, plainBytes(of([]int{64, 64}, numberRun(many)...)))
	}
}

// TestGetOfNothingButTheBytesOfTensors: all beginnings out of a few bytes, with all lengths behind them.
func TestGetOfNothingButTheBytesOfTensors(t *testing.T) {
	rest := make([]byte, 40)
	for i := range rest {
		rest[i] = byte(37*i + 11)
	}
	for _, begin := range lists([]int{0, 1, 2, 3, 64, 65, 255}, 5) {
		var b []byte
		for _, n := range begin {
			b = append(b, byte(n))
		}
		for size := range len(rest) + 1 {
			whole := append(slices.Clone(b), rest[:size]...)
			if x, ok := plainGet(whole); ok {
				expectGet(t, whole, x)
			} else {
				expectNoGet(t, whole)
			}
		}
	}
}

// P5.5 and P0.5

// TestWhatIsPutIsGot: and what is got puts the same bytes.
func TestWhatIsPutIsGot(t *testing.T) {
	for _, x := range someTensors() {
		b, e := tensors.Put(x)
		if e != api.OK {
			t.Errorf("Put(%v..): %d", short(x), e)
		}
		expectGet(t, b, x)
		y, _ := tensors.Get(b)
		expectPut(t, y, b)
		expectSame(t, x, y, true)
		expectCheck(t, y, true)
	}
	for _, s := range someShapes() {
		x, _ := tensors.New(s)
		b, _ := tensors.Put(x)
		expectGet(t, b, x)
	}
}

// TestUnlikeTensorsHaveUnlikeBytes: any two of the valid ones, and those that differ in one bit of one number.
func TestUnlikeTensorsHaveUnlikeBytes(t *testing.T) {
	all := someTensors()
	x := of([]int{2, 3}, 1, -2, 3, -4, 5, -6)
	for i := range x.L {
		for bit := range 32 {
			y := of(x.Shape, x.L...)
			y.L[i] ^= 1 << bit
			all = append(all, y)
		}
	}
	for _, s := range [][]int{{6}, {1, 6}, {6, 1}, {3, 2}, {1, 2, 3}, {2, 3, 1}, {2, 1, 3, 1}} {
		all = append(all, of(s, x.L...))
	}
	of1 := map[string]api.Tensor{}
	for _, x := range all {
		b, _ := tensors.Put(x)
		if y, there := of1[string(b)]; there && !plainSame(x, y) {
			t.Errorf("%v.. and %v.. have the same bytes", short(x), short(y))
		}
		of1[string(b)] = x
	}
}

// R1

// FuzzGet: R1 and P5.4 for any bytes: no call panics, an error comes alone, and what is got puts the same bytes.
func FuzzGet(f *testing.F) {
	f.Add([]byte(nil))
	f.Add([]byte{0})
	f.Add([]byte{1, 0})
	f.Add([]byte{1, 2, 5, 0, 0, 0, 255, 255, 255, 255})
	f.Add([]byte{1, 1, 5, 0, 0, 0, 0})
	f.Add([]byte{4, 1, 1, 2, 1, 1, 2, 3, 4, 5, 6, 7, 8})
	f.Add([]byte{5, 1, 1, 1, 1, 1, 0, 0, 0, 0})
	f.Add([]byte{255, 1, 1})
	f.Add([]byte{4, 64, 64, 64, 64})
	f.Fuzz(func(t *testing.T, b []byte) {
		want, ok := plainGet(b)
		if !ok {
			expectNoGet(t, b)
			return
		}
		expectGet(t, b, want)
		expectPut(t, want, b)
	})
}

// FuzzAll: R1 and P5.1 to P5.3 for any tensor and coordinates: no call panics, and an error comes alone.
func FuzzAll(f *testing.F) {
	f.Add([]byte(nil), 0, []byte(nil))
	f.Add([]byte{2, 3}, 6, []byte{1, 2})
	f.Add([]byte{2, 3}, 5, []byte{1, 2})
	f.Add([]byte{64, 64}, 4096, []byte{63, 63})
	f.Add([]byte{200, 1}, 1, []byte{0, 0})
	f.Add([]byte{1, 1, 1, 1, 1}, 1, []byte{0, 0, 0, 0, 0})
	f.Fuzz(func(t *testing.T, shape []byte, many int, coordinates []byte) {
		var s, at []int
		for _, n := range shape {
			s = append(s, int(int8(n)))
		}
		for _, n := range coordinates {
			at = append(at, int(int8(n)))
		}
		x := of(s, numberRun(max(0, min(many, 5000)))...)
		expectSame(t, x, of(s, x.L...), true)
		expectCheck(t, x, plainCheck(x))
		if plainSize(s) > 0 {
			expectNew(t, s, plainSize(s))
		} else {
			expectNoNew(t, s)
		}
		if !plainCheck(x) {
			expectNoAt(t, x, at)
			expectNoPut(t, x)
			return
		}
		expectPut(t, x, plainBytes(x))
		for i, place := range plainPlaces(s) {
			if slices.Equal(place, at) {
				expectAt(t, x, at, x.L[i])
				return
			}
		}
		expectNoAt(t, x, at)
	})
}
