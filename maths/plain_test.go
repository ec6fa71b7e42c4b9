package maths_test

import (
	"math"
	"slices"
	"strconv"
	"testing"

	"drydock/api"
	"drydock/maths"
)

// of is a tensor, valid or not, with memory of its own.
func of(s []int, l ...int32) api.Tensor {
	return api.Tensor{Shape: slices.Clone(s), L: slices.Clone(l)}
}

// line is a tensor of one dimension.
func line(l ...int32) api.Tensor { return of([]int{len(l)}, l...) }

// mixed is n numbers of either sign, some of them so small that Shift leaves them as they are.
func mixed(n int, seed uint32) []int32 {
	l := make([]int32, n)
	x := seed
	for i := range l {
		x = x*1664525 + 1013904223
		l[i] = int32(x) >> (x >> 10 % 31)
	}
	return l
}

// edgeNumbers are those at which a sign, or an end of 8 or of 32 bits, is near, and those whose products just wrap round, or just don't.
func edgeNumbers() []int32 {
	return []int32{
		0, 1, -1, 2, -2, 3, -3, 126, 127, 128, 129, -127, -128, -129, -130, 255, 256, -256,
		46340, 46341, -46340, -46341, 65535, 65536, -65536, 0x01020304, -0x01020304,
		1<<30 - 1, 1 << 30, 1<<30 + 1, -1<<30 - 1, -1 << 30, -1<<30 + 1,
		math.MaxInt32 - 1, math.MaxInt32, math.MinInt32, math.MinInt32 + 1,
	}
}

// plainWrap is the number of 32 bits that n wraps round to.
func plainWrap(n int64) int32 {
	const all = 1 << 32
	n = (n%all + all) % all
	if n >= all/2 {
		n -= all
	}
	return int32(n)
}

func plainAdd(x, y int32) int32 { return plainWrap(int64(x) + int64(y)) }
func plainMul(x, y int32) int32 { return plainWrap(int64(x) * int64(y)) }

func plainRelu(x int32) int32 {
	if x < 0 {
		return 0
	}
	return x
}

// power is 2^n, by doubling.
func power(n int) int64 {
	p := int64(1)
	for range n {
		p *= 2
	}
	return p
}

// halfOf is half of 2^n; 0 for n 0.
func halfOf(n int) int64 {
	if n == 0 {
		return 0
	}
	return power(n - 1)
}

// plainShift is P6.3 as the document words it: sum, quotient, rounded down, and then the ends.
func plainShift(x int32, n int) int32 {
	sum := int64(x) + halfOf(n)
	quotient := sum / power(n)
	if sum%power(n) < 0 {
		quotient--
	}
	if quotient < -128 {
		return -128
	}
	if quotient > 127 {
		return 127
	}
	return int32(quotient)
}

func plainSame(a, b api.Tensor) bool {
	return slices.Equal(a.Shape, b.Shape) && slices.Equal(a.L, b.L)
}

// someShapes have from one to MaxDims dimensions, and from one to MaxSize numbers. The limits stand as numbers.
func someShapes() [][]int {
	return [][]int{
		{1}, {2}, {64}, {1, 1}, {2, 3}, {3, 2}, {64, 1}, {1, 64}, {64, 64}, {63, 64},
		{1, 1, 1}, {2, 3, 4}, {4, 64, 16}, {1, 1, 1, 1}, {2, 3, 4, 5}, {5, 4, 3, 2}, {8, 8, 8, 8}, {64, 1, 1, 64},
	}
}

func sizeOf(s []int) int {
	size := 1
	for _, dim := range s {
		size *= dim
	}
	return size
}

// isValid is the definition of chapter 5.
func isValid(t api.Tensor) bool {
	for _, dim := range t.Shape {
		if dim < 1 || dim > 64 {
			return false
		}
	}
	return len(t.Shape) >= 1 && len(t.Shape) <= 4 && sizeOf(t.Shape) <= 4096 && sizeOf(t.Shape) == len(t.L)
}

// someTensors are one of each of someShapes, and the numbers at the edges.
func someTensors() []api.Tensor {
	edges := edgeNumbers()
	all := []api.Tensor{line(edges...), of([]int{2, 1, 18, 1}, edges[:36]...)}
	for i, s := range someShapes() {
		all = append(all, of(s, mixed(sizeOf(s), uint32(i))...))
	}
	return all
}

// notTensors are invalid: what is no shape, with as many numbers as its product, or none; and a shape with too few numbers or too many. The least product above MaxSize that there is, is 4100.
func notTensors() []api.Tensor {
	all := []api.Tensor{
		{}, of([]int{}, 1), of([]int{0}), of([]int{2, 0}), of([]int{-1}, 1), of([]int{-2, -3}, mixed(6, 1)...), of([]int{math.MinInt}), of([]int{math.MaxInt, 2}),
		of([]int{65}, mixed(65, 1)...), of([]int{1, 65}, mixed(65, 1)...), of([]int{257}, 1),
		of([]int{41, 50, 2}, mixed(4100, 1)...), of([]int{64, 64, 2}, mixed(8192, 1)...), of([]int{64, 64, 64, 64}), of([]int{1 << 32, 1 << 32}),
		of([]int{1, 1, 1, 1, 1}, 1), of([]int{2, 1, 1, 1, 1}, 1, 2),
	}
	for _, s := range someShapes() {
		size := sizeOf(s)
		all = append(all, of(s), of(s, mixed(size-1, 1)...), of(s, mixed(size+1, 1)...))
	}
	return all
}

// function is one of two tensors that the package has, and what the document says that it makes of two numbers.
type function struct {
	name  string
	call  func(a, b api.Tensor) (api.Tensor, api.Errno)
	plain func(x, y int32) int32
}

func functionsOfTwo() []function {
	return []function{{"Add", maths.Add, plainAdd}, {"Mul", maths.Mul, plainMul}}
}

func shiftName(n int) string { return "Shift by " + strconv.Itoa(n) }

func isNothing(t api.Tensor) bool { return len(t.Shape) == 0 && len(t.L) == 0 }

// short is a tensor as a message shows it.
func short(t api.Tensor) api.Tensor {
	t.L = t.L[:min(len(t.L), 8)]
	return t
}

// expectResult asks for a tensor, and for the first number that differs.
func expectResult(t *testing.T, name string, got api.Tensor, e api.Errno, want api.Tensor) {
	t.Helper()
	if e != api.OK || !slices.Equal(got.Shape, want.Shape) || len(got.L) != len(want.L) {
		t.Errorf("%s = %v.., %d numbers, %d; want %v.., %d numbers", name, short(got), len(got.L), e, short(want), len(want.L))
		return
	}
	for i := range want.L {
		if got.L[i] != want.L[i] {
			t.Errorf("%s: the number %d of shape %v is %d; want %d", name, i, want.Shape, got.L[i], want.L[i])
			return
		}
	}
}

// expectError asks for an error, and for zero values beside it (R2).
func expectError(t *testing.T, name string, got api.Tensor, e, want api.Errno) {
	t.Helper()
	if e != want || !isNothing(got) {
		t.Errorf("%s = %v.., %d numbers, %d; want %d", name, short(got), len(got.L), e, want)
	}
}

// expectTwo asks in both directions: what the document says of two numbers does not hang on which is first.
func expectTwo(t *testing.T, f function, a, b api.Tensor) {
	t.Helper()
	want := of(a.Shape, a.L...)
	for i := range want.L {
		want.L[i] = f.plain(a.L[i], b.L[i])
	}
	got, e := f.call(a, b)
	expectResult(t, f.name, got, e, want)
	got, e = f.call(b, a)
	expectResult(t, f.name+", the other way round", got, e, want)
}

func expectNoTwo(t *testing.T, f function, a, b api.Tensor, want api.Errno) {
	t.Helper()
	got, e := f.call(a, b)
	expectError(t, f.name, got, e, want)
	got, e = f.call(b, a)
	expectError(t, f.name+", the other way round", got, e, want)
}

func expectRelu(t *testing.T, x api.Tensor) {
	t.Helper()
	want := of(x.Shape, x.L...)
	for i, number := range x.L {
		want.L[i] = plainRelu(number)
	}
	got, e := maths.Relu(x)
	expectResult(t, "Relu", got, e, want)
}

func expectNoRelu(t *testing.T, x api.Tensor) {
	t.Helper()
	got, e := maths.Relu(x)
	expectError(t, "Relu", got, e, api.ErrArg)
}

func expectShift(t *testing.T, x api.Tensor, n int) {
	t.Helper()
	want := of(x.Shape, x.L...)
	for i, number := range x.L {
		want.L[i] = plainShift(number, n)
	}
	got, e := maths.Shift(x, n)
	expectResult(t, shiftName(n), got, e, want)
}

func expectNoShift(t *testing.T, x api.Tensor, n int) {
	t.Helper()
	got, e := maths.Shift(x, n)
	expectError(t, shiftName(n), got, e, api.ErrArg)
}
