package tensors_test

import (
	"math"
	"slices"
	"testing"

	"drydock/api"
	"drydock/tensors"
)

// of is a tensor, valid or not, with memory of its own.
func of(s []int, l ...int32) api.Tensor {
	return api.Tensor{Shape: slices.Clone(s), L: slices.Clone(l)}
}

// numberRun is n numbers of either sign, with all four bytes in use.
func numberRun(n int) []int32 {
	l := make([]int32, n)
	x := uint32(n)
	for i := range l {
		x = x*1664525 + 1013904223
		l[i] = int32(x)
	}
	return l
}

// edgeNumbers are those at which a sign or a byte changes.
func edgeNumbers() []int32 {
	return []int32{0, -1, 1, math.MinInt32, math.MaxInt32, math.MinInt32 + 1, 127, 128, -128, -129, 255, 256, -256, -257, 65535, 65536, 0x01020304, -0x01020304}
}

// plainSize is the size as the document words it; 0 if s is no shape. The limits stand as numbers.
func plainSize(s []int) int {
	if len(s) < 1 || len(s) > 4 {
		return 0
	}
	product := 1
	for _, dim := range s {
		if dim < 1 || dim > 64 {
			return 0
		}
		product *= dim
	}
	if product > 4096 {
		return 0
	}
	return product
}

// plainCheck is P5.1 as the document words it.
func plainCheck(t api.Tensor) bool {
	return plainSize(t.Shape) > 0 && len(t.L) == plainSize(t.Shape)
}

// plainSame is P5.3 as the document words it.
func plainSame(a, b api.Tensor) bool {
	return slices.Equal(a.Shape, b.Shape) && slices.Equal(a.L, b.L)
}

// plainBytes are the bytes of a valid tensor, made without the project's packages.
func plainBytes(t api.Tensor) []byte {
	b := []byte{byte(len(t.Shape))}
	for _, dim := range t.Shape {
		b = append(b, byte(dim))
	}
	for _, number := range t.L {
		for shift := 0; shift < 32; shift += 8 {
			b = append(b, byte(uint32(number)>>shift))
		}
	}
	return b
}

// plainGet is the tensor whose bytes b is, if there is one, read without the project's packages.
func plainGet(b []byte) (api.Tensor, bool) {
	if len(b) == 0 || len(b) < 1+int(b[0]) {
		return api.Tensor{}, false
	}
	var t api.Tensor
	for _, dim := range b[1 : 1+int(b[0])] {
		t.Shape = append(t.Shape, int(dim))
	}
	rest := b[1+int(b[0]):]
	if plainSize(t.Shape) == 0 || len(rest) != 4*plainSize(t.Shape) {
		return api.Tensor{}, false
	}
	for ; len(rest) > 0; rest = rest[4:] {
		t.L = append(t.L, int32(uint32(rest[3])<<24|uint32(rest[2])<<16|uint32(rest[1])<<8|uint32(rest[0])))
	}
	return t, true
}

// plainPlaces are the coordinates of all numbers of a shape, in order: for each coordinate of the first dimension, those of the others.
func plainPlaces(s []int) [][]int {
	if len(s) == 0 {
		return [][]int{nil}
	}
	var all [][]int
	for first := range s[0] {
		for _, others := range plainPlaces(s[1:]) {
			all = append(all, append([]int{first}, others...))
		}
	}
	return all
}

// lists are all lists of numbers, up to a length.
func lists(numbers []int, length int) [][]int {
	all := [][]int{nil}
	last := all
	for range length {
		var longer [][]int
		for _, l := range last {
			for _, n := range numbers {
				longer = append(longer, append(slices.Clone(l), n))
			}
		}
		all = append(all, longer...)
		last = longer
	}
	return all
}

// someShapes are small ones of each length, and great ones.
func someShapes() [][]int {
	all := lists([]int{1, 2, 3}, api.MaxDims)[1:]
	return append(all,
		[]int{4}, []int{5}, []int{63}, []int{64}, []int{1, 64}, []int{64, 1}, []int{1, 1, 1, 64}, []int{64, 1, 1, 1},
		[]int{64, 64}, []int{64, 63}, []int{4, 64, 16}, []int{8, 8, 8, 8}, []int{63, 13, 5}, []int{2, 3, 4, 5})
}

// notShapes are lists that are no shape, each for one reason or for several. The least size above MaxSize that there is, is 4100.
func notShapes() [][]int {
	return [][]int{
		nil, {}, {0}, {-1}, {65}, {256}, {257}, {math.MinInt}, {math.MaxInt},
		{2, 0}, {0, 2}, {2, 65}, {65, 2}, {2, -3}, {-2, -3}, {-1, -1}, {258, 2},
		{64, 64, 2}, {41, 50, 2}, {8, 8, 8, 9}, {64, 64, 64, 64}, {1 << 32, 1 << 32},
		{1, 1, 1, 1, 1}, {2, 2, 2, 2, 2}, {0, 0, 0, 0, 0},
	}
}

// someTensors are valid: each of someShapes, and numbers at the edges in each place.
func someTensors() []api.Tensor {
	var all []api.Tensor
	for _, s := range someShapes() {
		all = append(all, of(s, numberRun(plainSize(s))...))
	}
	for _, n := range edgeNumbers() {
		all = append(all, of([]int{1}, n), of([]int{1, 1, 1, 1}, n), of([]int{3}, 7, n, 9), of([]int{2, 2}, slices.Repeat([]int32{n}, 4)...))
	}
	return append(all, of([]int{18}, edgeNumbers()...), of([]int{3, 6}, edgeNumbers()...), of([]int{64, 64}, slices.Repeat([]int32{-1}, 4096)...))
}

// notTensors are invalid: no shape, or a shape and another number of numbers.
func notTensors() []api.Tensor {
	all := []api.Tensor{{}, of([]int{}), of(nil, 1), of(nil, 1, 2)}
	for _, s := range notShapes() {
		product := 1
		for _, dim := range s {
			product *= dim
		}
		for _, many := range []int{0, 1, 2, product} {
			if many >= 0 && many <= 1<<14 {
				all = append(all, of(s, numberRun(many)...))
			}
		}
	}
	for _, s := range someShapes() {
		size := plainSize(s)
		for _, many := range []int{0, size - 1, size + 1, 2 * size} {
			if many != size {
				all = append(all, of(s, numberRun(many)...))
			}
		}
	}
	return all
}

func isNothing(t api.Tensor) bool { return len(t.Shape) == 0 && len(t.L) == 0 }

// short is a tensor as a message shows it.
func short(t api.Tensor) api.Tensor {
	t.L = t.L[:min(len(t.L), 8)]
	return t
}

func expectCheck(t *testing.T, x api.Tensor, want bool) {
	t.Helper()
	if ok := tensors.Check(x); ok != want {
		t.Errorf("Check(%v.., %d numbers) = %v", short(x), len(x.L), ok)
	}
}

// expectNew asks for a tensor of zeros.
func expectNew(t *testing.T, s []int, size int) {
	t.Helper()
	if x, e := tensors.New(s); e != api.OK || !plainSame(x, of(s, make([]int32, size)...)) || !tensors.Check(x) {
		t.Errorf("New(%v) = %v.., %d numbers, %d", s, short(x), len(x.L), e)
	}
}

// expectNoNew asks for ErrArg, and for zero values beside it (R2).
func expectNoNew(t *testing.T, s []int) {
	t.Helper()
	if x, e := tensors.New(s); e != api.ErrArg || !isNothing(x) {
		t.Errorf("New(%v) = %v.., %d numbers, %d", s, short(x), len(x.L), e)
	}
}

func expectAt(t *testing.T, x api.Tensor, at []int, want int32) {
	t.Helper()
	if n, e := tensors.At(x, at); n != want || e != api.OK {
		t.Errorf("At(%v.., %v) = %d, %d; want %d", short(x), at, n, e, want)
	}
}

// expectNoAt asks for ErrArg, and for zero values beside it (R2).
func expectNoAt(t *testing.T, x api.Tensor, at []int) {
	t.Helper()
	if n, e := tensors.At(x, at); n != 0 || e != api.ErrArg {
		t.Errorf("At(%v.., %d numbers, %v) = %d, %d", short(x), len(x.L), at, n, e)
	}
}

// expectSame asks in both directions.
func expectSame(t *testing.T, a, b api.Tensor, want bool) {
	t.Helper()
	if tensors.Same(a, b) != want || tensors.Same(b, a) != want {
		t.Errorf("Same(%v.., %v..): %d and %d numbers: not %v", short(a), short(b), len(a.L), len(b.L), want)
	}
}

func expectPut(t *testing.T, x api.Tensor, want []byte) {
	t.Helper()
	if b, e := tensors.Put(x); !slices.Equal(b, want) || e != api.OK {
		t.Errorf("Put(%v.., %d numbers) = %v.., %d bytes, %d; want %d bytes", short(x), len(x.L), b[:min(len(b), 16)], len(b), e, len(want))
	}
}

// expectNoPut asks for ErrArg, and for zero values beside it (R2).
func expectNoPut(t *testing.T, x api.Tensor) {
	t.Helper()
	if b, e := tensors.Put(x); len(b) != 0 || e != api.ErrArg {
		t.Errorf("Put(%v.., %d numbers) = %d bytes, %d", short(x), len(x.L), len(b), e)
	}
}

func expectGet(t *testing.T, b []byte, want api.Tensor) {
	t.Helper()
	if x, e := tensors.Get(b); !plainSame(x, want) || e != api.OK {
		t.Errorf("Get(%v.., %d bytes) = %v.., %d numbers, %d; want %v..", b[:min(len(b), 16)], len(b), short(x), len(x.L), e, short(want))
	}
}

// expectNoGet asks for ErrForm, and for zero values beside it (R2).
func expectNoGet(t *testing.T, b []byte) {
	t.Helper()
	if x, e := tensors.Get(b); !isNothing(x) || e != api.ErrForm {
		t.Errorf("Get(%v.., %d bytes) = %v.., %d numbers, %d", b[:min(len(b), 16)], len(b), short(x), len(x.L), e)
	}
}
