package maths_test

import (
	"math"
	"slices"
	"testing"

	"drydock/api"
	"drydock/maths"
)

func TestExamples(t *testing.T) {
	got, e := maths.Add(line(1, 2), line(3, 2147483647))
	expectResult(t, "Add", got, e, line(4, -2147483647))
	got, e = maths.Mul(line(3), line(-4))
	expectResult(t, "Mul", got, e, line(-12))
	got, e = maths.Relu(line(-1, 5))
	expectResult(t, "Relu", got, e, line(0, 5))
	got, e = maths.Shift(line(5, -5, 6, -6), 2)
	expectResult(t, "Shift", got, e, line(1, -1, 2, -1))
	got, e = maths.Shift(line(1000, -1000), 0)
	expectResult(t, "Shift", got, e, line(127, -128))
	got, e = maths.Shift(line(1), 32)
	expectError(t, "Shift", got, e, api.ErrArg)
}

// P6.1

// TestSumsAndProductsThatWrapRound: by hand.
func TestSumsAndProductsThatWrapRound(t *testing.T) {
	for _, c := range []struct{ a, b, sum, product int32 }{
		{0, 0, 0, 0}, {0, 7, 7, 0}, {1, -7, -6, -7}, {-1, -7, -8, 7},
		{math.MaxInt32, 1, math.MinInt32, math.MaxInt32},
		{math.MaxInt32, math.MaxInt32, -2, 1},
		{math.MinInt32, -1, math.MaxInt32, math.MinInt32},
		{math.MinInt32, math.MinInt32, 0, 0},
		{math.MinInt32, math.MaxInt32, -1, math.MinInt32},
		{math.MinInt32, 1, math.MinInt32 + 1, math.MinInt32},
		{1 << 30, 1 << 30, math.MinInt32, 0},
		{1 << 30, 2, 1<<30 + 2, math.MinInt32},
		{65536, 65536, 131072, 0}, {65535, 65537, 131072, -1},
		{46340, 46340, 92680, 2147395600}, {46341, 46341, 92682, -2147479015}, {-46341, 46341, 0, 2147479015},
	} {
		got, e := maths.Add(line(c.a), line(c.b))
		expectResult(t, "Add", got, e, line(c.sum))
		got, e = maths.Mul(line(c.a), line(c.b))
		expectResult(t, "Mul", got, e, line(c.product))
	}
}

// TestTwoNumbersAtTheEdges: each with each, so that each stands beside the other at its own coordinates.
func TestTwoNumbersAtTheEdges(t *testing.T) {
	edges := edgeNumbers()
	for _, f := range functionsOfTwo() {
		for k := range edges {
			expectTwo(t, f, line(edges...), line(append(slices.Clone(edges[k:]), edges[:k]...)...))
		}
	}
}

func TestTwoOfEachShape(t *testing.T) {
	for _, f := range functionsOfTwo() {
		for _, x := range someTensors() {
			expectTwo(t, f, x, of(x.Shape, mixed(len(x.L), 99)...))
			expectTwo(t, f, x, of(x.Shape, make([]int32, len(x.L))...))
			expectTwo(t, f, x, of(x.Shape, slices.Repeat([]int32{-1}, len(x.L))...))
		}
	}
}

// TestTheSameTensorTwice: the very same memory.
func TestTheSameTensorTwice(t *testing.T) {
	for _, f := range functionsOfTwo() {
		for _, x := range someTensors() {
			expectTwo(t, f, x, x)
		}
		for _, x := range notTensors() {
			expectNoTwo(t, f, x, x, api.ErrArg)
		}
	}
}

// TestOneOfTwoIsInvalid: the first one or the second one. No shape of an invalid tensor counts as another shape, nor as the same.
func TestOneOfTwoIsInvalid(t *testing.T) {
	for _, f := range functionsOfTwo() {
		for _, x := range notTensors() {
			for _, y := range someTensors() {
				expectNoTwo(t, f, x, y, api.ErrArg)
			}
		}
	}
}

func TestBothAreInvalid(t *testing.T) {
	all := notTensors()
	for _, f := range functionsOfTwo() {
		for i, x := range all {
			for _, y := range all[i:] {
				expectNoTwo(t, f, x, y, api.ErrArg)
			}
		}
	}
}

func TestShapesThatDiffer(t *testing.T) {
	l := mixed(4096, 7)
	for _, c := range []struct{ a, b []int }{
		// in one dimension
		{[]int{1}, []int{2}}, {[]int{63}, []int{64}}, {[]int{2, 3}, []int{3, 3}}, {[]int{2, 3}, []int{2, 4}}, {[]int{2, 3, 4}, []int{2, 2, 4}}, {[]int{8, 8, 8, 8}, []int{8, 8, 8, 7}}, {[]int{8, 8, 8, 8}, []int{7, 8, 8, 8}}, {[]int{1, 3}, []int{2, 3}},
		// in how many there are
		{[]int{1}, []int{1, 1}}, {[]int{6}, []int{1, 6}}, {[]int{6}, []int{6, 1}}, {[]int{6}, []int{2, 3}}, {[]int{1, 1, 1}, []int{1, 1, 1, 1}}, {[]int{2, 3}, []int{2, 3, 1, 1}}, {[]int{2, 3}, []int{2, 3, 4}}, {[]int{64, 64}, []int{8, 8, 8, 8}},
		// in their order
		{[]int{2, 3}, []int{3, 2}}, {[]int{1, 64}, []int{64, 1}}, {[]int{2, 3, 4}, []int{4, 3, 2}}, {[]int{2, 3, 4}, []int{2, 4, 3}}, {[]int{2, 2, 3, 3}, []int{3, 3, 2, 2}},
		// with the same size
		{[]int{2, 6}, []int{3, 4}}, {[]int{4, 64, 16}, []int{64, 64, 1}},
	} {
		for _, f := range functionsOfTwo() {
			expectNoTwo(t, f, of(c.a, l[:sizeOf(c.a)]...), of(c.b, l[:sizeOf(c.b)]...), api.ErrShape)
		}
	}
}

// TestEachShapeWithEachOther: only the same two fit together.
func TestEachShapeWithEachOther(t *testing.T) {
	for i, x := range someTensors() {
		for j, y := range someTensors() {
			for _, f := range functionsOfTwo() {
				if i == j {
					expectTwo(t, f, x, y)
				} else if !slices.Equal(x.Shape, y.Shape) {
					expectNoTwo(t, f, x, y, api.ErrShape)
				}
			}
		}
	}
}

// P6.2

func TestRelu(t *testing.T) {
	got, e := maths.Relu(line(math.MinInt32, math.MinInt32+1, -2, -1, 0, 1, 2, math.MaxInt32-1, math.MaxInt32))
	expectResult(t, "Relu", got, e, line(0, 0, 0, 0, 0, 1, 2, math.MaxInt32-1, math.MaxInt32))
	for _, x := range someTensors() {
		expectRelu(t, x)
	}
	for _, n := range edgeNumbers() {
		expectRelu(t, line(n))
		expectRelu(t, of([]int{1, 1, 1, 1}, n))
		expectRelu(t, of([]int{64, 64}, slices.Repeat([]int32{n}, 4096)...))
	}
}

func TestReluOfNoTensor(t *testing.T) {
	for _, x := range notTensors() {
		expectNoRelu(t, x)
	}
}

// P6.3

// TestShiftByHand: halves are rounded up, of either sign, and the ends are -128 and 127.
func TestShiftByHand(t *testing.T) {
	for _, c := range []struct {
		n       int
		x, want []int32
	}{
		{0, []int32{0, 1, -1, 126, 127, 128, -127, -128, -129, math.MaxInt32, math.MinInt32}, []int32{0, 1, -1, 126, 127, 127, -127, -128, -128, 127, -128}},
		{1, []int32{0, 1, 2, 3, -1, -2, -3, -4}, []int32{0, 1, 1, 2, 0, -1, -1, -2}},
		{1, []int32{252, 253, 254, 255, -256, -257, -258, -259}, []int32{126, 127, 127, 127, -128, -128, -128, -128}},
		{2, []int32{1, 2, 3, 5, 6, 7, -1, -2, -3, -5, -6, -7}, []int32{0, 1, 1, 1, 2, 2, 0, 0, -1, -1, -1, -2}},
		{8, []int32{127, 128, 129, -127, -128, -129, 32511, 32512, 32639, 32640, -32768, -32896, -32897}, []int32{0, 1, 1, 0, 0, -1, 127, 127, 127, 127, -128, -128, -128}},
		{24, []int32{math.MaxInt32, math.MinInt32, 127 << 24, 127<<24 - 1<<23, 127<<24 - 1<<23 - 1}, []int32{127, -128, 127, 127, 126}},
		{25, []int32{math.MaxInt32, math.MinInt32, 1 << 24, 1<<24 - 1, -1 << 24, -1<<24 - 1}, []int32{64, -64, 1, 0, 0, -1}},
		{30, []int32{math.MaxInt32, math.MinInt32, 1<<29 - 1, 1 << 29, -1 << 29, -1<<29 - 1, 3<<29 - 1, 3 << 29}, []int32{2, -2, 0, 1, 0, -1, 1, 2}},
		{31, []int32{math.MaxInt32, math.MinInt32, 1<<30 - 1, 1 << 30, -1 << 30, -1<<30 - 1, 0, 1, -1}, []int32{1, -1, 0, 1, 0, -1, 0, 0, 0}},
	} {
		got, e := maths.Shift(line(c.x...), c.n)
		expectResult(t, shiftName(c.n), got, e, line(c.want...))
	}
}

// TestShiftNearEachHalf: for each n, the numbers just below, at and just above those at which the result changes, from beyond -128 to beyond 127.
func TestShiftNearEachHalf(t *testing.T) {
	for n := 0; n <= 31; n++ {
		var l []int32
		for result := int64(-131); result <= 130; result++ {
			for near := int64(-1); near <= 1; near++ {
				if x := result*power(n) - halfOf(n) + near; x >= math.MinInt32 && x <= math.MaxInt32 {
					l = append(l, int32(x))
				}
			}
		}
		for part := range slices.Chunk(l, 64) {
			expectShift(t, line(part...), n)
		}
	}
}

func TestShiftOfEachTensorByEachNumber(t *testing.T) {
	for _, x := range someTensors() {
		for n := 0; n <= 31; n++ {
			expectShift(t, x, n)
		}
	}
	expectShift(t, line(edgeNumbers()...), api.MaxShift)
}

func TestShiftByNoNumber(t *testing.T) {
	for _, x := range append(someTensors(), notTensors()...) {
		for _, n := range []int{-1, -2, -31, -32, 32, api.MaxShift + 1, 33, 62, 63, 64, 65, 255, 256, 1 << 32, -1 << 32, math.MinInt32, math.MaxInt32, math.MinInt, math.MinInt + 1, math.MaxInt} {
			expectNoShift(t, x, n)
		}
	}
}

func TestShiftOfNoTensor(t *testing.T) {
	for _, x := range notTensors() {
		for _, n := range []int{0, 1, 2, 30, 31} {
			expectNoShift(t, x, n)
		}
	}
}

// P6.4

// chain is what a call within a call makes: what it returns must be a tensor for the next one.
func chain(t *testing.T, f func(a, b api.Tensor) (api.Tensor, api.Errno), a, b api.Tensor) api.Tensor {
	t.Helper()
	x, e := f(a, b)
	if e != api.OK {
		t.Fatalf("%v.. and %v..: %d", short(a), short(b), e)
	}
	return x
}

func expectEqual(t *testing.T, law string, a, b api.Tensor) {
	t.Helper()
	if !plainSame(a, b) {
		t.Errorf("%s: %v.. and %v..", law, short(a), short(b))
	}
}

// triples are three tensors each: such that any three of the numbers at the edges stand at the same coordinates of some, and such of each shape.
func triples() [][3]api.Tensor {
	var all [][3]api.Tensor
	edges := edgeNumbers()
	for _, first := range edges {
		for _, second := range edges {
			many := len(edges)
			all = append(all, [3]api.Tensor{line(slices.Repeat([]int32{first}, many)...), line(slices.Repeat([]int32{second}, many)...), line(edges...)})
		}
	}
	for _, s := range someShapes() {
		size := sizeOf(s)
		all = append(all, [3]api.Tensor{of(s, mixed(size, 1)...), of(s, mixed(size, 2)...), of(s, mixed(size, 3)...)})
	}
	return all
}

func TestTheLawsOfTheRing(t *testing.T) {
	for _, l := range triples() {
		a, b, c := l[0], l[1], l[2]
		for _, f := range functionsOfTwo() {
			expectEqual(t, f.name+" is commutative", chain(t, f.call, a, b), chain(t, f.call, b, a))
			expectEqual(t, f.name+" is associative", chain(t, f.call, chain(t, f.call, a, b), c), chain(t, f.call, a, chain(t, f.call, b, c)))
		}
		sum := chain(t, maths.Add, b, c)
		expectEqual(t, "Mul distributes over Add", chain(t, maths.Mul, a, sum), chain(t, maths.Add, chain(t, maths.Mul, a, b), chain(t, maths.Mul, a, c)))
	}
}

// ascending are numbers from the least to the greatest: at the edges, and around the multiples of each half.
func ascending() []int32 {
	l := append(edgeNumbers(), mixed(512, 5)...)
	for n := range 31 {
		for near := int64(-2); near <= 2; near++ {
			for _, by := range []int64{1, -1, 3, -3, 255, -257} {
				if x := by*power(n) + near; x >= math.MinInt32 && x <= math.MaxInt32 {
					l = append(l, int32(x))
				}
			}
		}
	}
	slices.Sort(l)
	l = slices.Compact(l)
	return l[:len(l)/64*64]
}

func TestShiftKeepsTheOrder(t *testing.T) {
	l := ascending()
	for n := range 32 {
		x, e := maths.Shift(of([]int{len(l) / 64, 64}, l...), n)
		if e != api.OK || len(x.L) != len(l) || !slices.IsSorted(x.L) {
			t.Errorf("%s: %d, %v..", shiftName(n), e, short(x))
		}
	}
}

// TestShiftIsWithinOneHalf: of the number divided by 2^n, wherever that is from -128 to 127; beyond, the result is the nearer end.
func TestShiftIsWithinOneHalf(t *testing.T) {
	l := ascending()
	for n := range 32 {
		x, e := maths.Shift(of([]int{len(l) / 64, 64}, l...), n)
		if e != api.OK || len(x.L) != len(l) {
			t.Fatalf("%s: %d, %v..", shiftName(n), e, short(x))
		}
		for i, number := range l {
			rounds := min(max(int64(number), -128*power(n)), 127*power(n))
			if off := int64(x.L[i])*power(n) - rounds; 2*off > power(n) || 2*off < -power(n) {
				t.Errorf("%s: %d of %d is more than one half off", shiftName(n), x.L[i], number)
			}
		}
	}
}

// R1

// FuzzAll: R1 and P6.1 to P6.3 for any two tensors and any n: no call panics, and an error comes alone.
func FuzzAll(f *testing.F) {
	f.Add([]byte(nil), 0, []byte(nil), 0, uint32(0), 0)
	f.Add([]byte{2, 3}, 6, []byte{2, 3}, 6, uint32(1), 2)
	f.Add([]byte{2, 3}, 6, []byte{3, 2}, 6, uint32(2), 31)
	f.Add([]byte{2, 3}, 5, []byte{3, 2}, 6, uint32(3), 32)
	f.Add([]byte{64, 64}, 4096, []byte{8, 8, 8, 8}, 4096, uint32(4), -1)
	f.Add([]byte{1, 1, 1, 1, 1}, 1, []byte{255}, 1, uint32(5), 1)
	f.Fuzz(func(t *testing.T, shapeA []byte, manyA int, shapeB []byte, manyB int, seed uint32, n int) {
		a, b := fuzzTensor(shapeA, manyA, seed), fuzzTensor(shapeB, manyB, seed+1)
		for _, f := range functionsOfTwo() {
			switch {
			case !isValid(a) || !isValid(b):
				expectNoTwo(t, f, a, b, api.ErrArg)
			case !slices.Equal(a.Shape, b.Shape):
				expectNoTwo(t, f, a, b, api.ErrShape)
			default:
				expectTwo(t, f, a, b)
			}
		}
		if !isValid(a) {
			expectNoRelu(t, a)
			expectNoShift(t, a, n)
			return
		}
		expectRelu(t, a)
		if n < 0 || n > 31 {
			expectNoShift(t, a, n)
		} else {
			expectShift(t, a, n)
		}
	})
}

func fuzzTensor(shape []byte, many int, seed uint32) api.Tensor {
	var s []int
	for _, dim := range shape {
		s = append(s, int(int8(dim)))
	}
	return of(s, mixed(max(0, min(many, 5000)), seed)...)
}
