package products_test

import (
	"math"
	"slices"
	"testing"

	"drydock/api"
	"drydock/products"
)

// of is a tensor, valid or not, with memory of its own.
func of(s []int, l ...int32) api.Tensor {
	return api.Tensor{Shape: slices.Clone(s), L: slices.Clone(l)}
}

// matrix is a tensor of two dimensions.
func matrix(rows, columns int, l ...int32) api.Tensor { return of([]int{rows, columns}, l...) }

// mixed is n numbers of either sign, small ones and great ones.
func mixed(n int, seed uint32) []int32 {
	l := make([]int32, n)
	x := seed
	for i := range l {
		x = x*1664525 + 1013904223
		l[i] = int32(x) >> (x >> 10 % 31)
	}
	return l
}

// mixedMatrix is a matrix of mixed numbers.
func mixedMatrix(rows, columns int, seed uint32) api.Tensor {
	return matrix(rows, columns, mixed(rows*columns, seed)...)
}

// alike is a matrix whose numbers are all the same.
func alike(rows, columns int, number int32) api.Tensor {
	return matrix(rows, columns, slices.Repeat([]int32{number}, rows*columns)...)
}

// identity is a matrix of ones where both coordinates are equal, and zeros elsewhere.
func identity(n int) api.Tensor {
	x := alike(n, n, 0)
	for i := range n {
		x.L[i*n+i] = 1
	}
	return x
}

// onlyOne is a matrix of zeros with a 1 at one place.
func onlyOne(rows, columns, row, column int) api.Tensor {
	x := alike(rows, columns, 0)
	x.L[row*columns+column] = 1
	return x
}

// someDims are the least and the greatest dimensions, and some between.
func someDims() []int { return []int{1, 2, 3, 5, 63, 64} }

// edgeNumbers are those at which a sign or an end is near, and those whose products just wrap round, or just don't.
func edgeNumbers() []int32 {
	return []int32{
		0, 1, -1, 2, -2, 3, -3, 127, 128, -128, 255, -256, 46340, 46341, -46340, -46341, 65535, 65536, -65536, 0x01020304, -0x01020304,
		1<<30 - 1, 1 << 30, 1<<30 + 1, -1 << 30, math.MaxInt32 - 1, math.MaxInt32, math.MinInt32, math.MinInt32 + 1,
	}
}

// plainWrap is the number of 32 bits that n wraps round to.
func plainWrap(n int64) int32 {
	const all = 1 << 32
	n = (n%all + all) % all
	if n >= all/2 {
		n -= all
	}
	return int32(n)
}

// isShape is the document's definition. The limits stand as numbers; no product of such dimensions is too great for an int.
func isShape(s []int) bool {
	if len(s) < 1 || len(s) > 4 {
		return false
	}
	size := 1
	for _, dim := range s {
		if dim < 1 || dim > 64 {
			return false
		}
		size *= dim
	}
	return size <= 4096
}

// isValid is the definition of chapter 5.
func isValid(t api.Tensor) bool {
	size := 1
	for _, dim := range t.Shape {
		size *= dim
	}
	return isShape(t.Shape) && len(t.L) == size
}

// plainShape is P7.2 as the document words it.
func plainShape(a, b []int) ([]int, api.Errno) {
	switch {
	case !isShape(a) || !isShape(b):
		return nil, 1
	case len(a) != 2 || len(b) != 2 || a[1] != b[0]:
		return nil, 10
	}
	return []int{a[0], b[1]}, 0
}

// rowsOf cuts a matrix into its rows.
func rowsOf(x api.Tensor) [][]int32 { return slices.Collect(slices.Chunk(x.L, x.Shape[1])) }

// columnsOf takes the first number of each row, then the second one of each, and so on.
func columnsOf(x api.Tensor) [][]int32 {
	columns := make([][]int32, x.Shape[1])
	for _, row := range rowsOf(x) {
		for j, number := range row {
			columns[j] = append(columns[j], number)
		}
	}
	return columns
}

// plainOf is P7.1 for two matrices that fit together: each row of a with each column of b.
func plainOf(a, b api.Tensor) api.Tensor {
	product := of([]int{a.Shape[0], b.Shape[1]})
	columns := columnsOf(b)
	for _, row := range rowsOf(a) {
		for _, column := range columns {
			sum := int32(0)
			for p, number := range row {
				sum = plainWrap(int64(sum) + int64(plainWrap(int64(number)*int64(column[p]))))
			}
			product.L = append(product.L, sum)
		}
	}
	return product
}

// turned is the matrix whose rows are the columns of x.
func turned(x api.Tensor) api.Tensor {
	return matrix(x.Shape[1], x.Shape[0], slices.Concat(columnsOf(x)...)...)
}

func plainSame(a, b api.Tensor) bool {
	return slices.Equal(a.Shape, b.Shape) && slices.Equal(a.L, b.L)
}

// otherShapes are shapes that do not have two dimensions.
func otherShapes() [][]int {
	return [][]int{
		{1}, {2}, {6}, {64}, {1, 1, 1}, {2, 3, 1}, {1, 2, 3}, {2, 1, 3}, {2, 2, 2}, {64, 64, 1}, {1, 64, 64},
		{1, 1, 1, 1}, {2, 3, 1, 1}, {1, 1, 2, 3}, {2, 2, 2, 2}, {8, 8, 8, 8},
	}
}

// notShapes are lists that are no shape, many of them of two dimensions. The least product above MaxSize that there is, is 4100.
func notShapes() [][]int {
	return [][]int{
		nil, {}, {0}, {-1}, {65}, {math.MinInt}, {math.MaxInt},
		{0, 0}, {0, 1}, {1, 0}, {2, 0}, {0, 2}, {1, 65}, {65, 1}, {65, 65}, {2, 65}, {65, 2}, {64, 65}, {65, 64},
		{-1, 1}, {1, -1}, {-1, -1}, {-2, -3}, {2, -3}, {math.MinInt, 2}, {2, math.MaxInt}, {1 << 32, 1 << 32}, {1<<32 + 2, 2}, {258, 2},
		{2, 3, 0}, {0, 2, 3}, {2, 65, 1}, {41, 50, 2}, {64, 64, 2}, {2, 64, 64}, {8, 8, 8, 9}, {64, 64, 64, 64},
		{1, 1, 1, 1, 1}, {2, 2, 1, 1, 1}, {0, 0, 0, 0, 0}, slices.Repeat([]int{1}, 1000),
	}
}

// otherTensors are valid, and do not have two dimensions.
func otherTensors() []api.Tensor {
	var all []api.Tensor
	for _, s := range otherShapes() {
		size := 1
		for _, dim := range s {
			size *= dim
		}
		all = append(all, of(s, mixed(size, 5)...))
	}
	return all
}

// someMatrices have each of someDims as rows and as columns.
func someMatrices() []api.Tensor {
	var all []api.Tensor
	for _, rows := range someDims() {
		for _, columns := range someDims() {
			all = append(all, mixedMatrix(rows, columns, uint32(rows)))
		}
	}
	return all
}

// notTensors are invalid: what is no shape, with as many numbers as its product, with one, or with none; and a shape with none, with one too few, or with one too many.
func notTensors() []api.Tensor {
	all := []api.Tensor{{}}
	for _, s := range notShapes() {
		product := 1
		for _, dim := range s {
			product *= dim
		}
		all = append(all, of(s), of(s, 1))
		if product > 1 && product <= 1<<14 {
			all = append(all, of(s, mixed(product, 3)...))
		}
	}
	for _, x := range append(someMatrices(), otherTensors()...) {
		size := len(x.L)
		all = append(all, of(x.Shape), of(x.Shape, x.L[:size-1]...), of(x.Shape, append(x.L, 1)...))
	}
	return all
}

func isNothing(t api.Tensor) bool { return len(t.Shape) == 0 && len(t.L) == 0 }

// short is a tensor as a message shows it.
func short(t api.Tensor) api.Tensor {
	t.Shape = t.Shape[:min(len(t.Shape), 8)]
	t.L = t.L[:min(len(t.L), 8)]
	return t
}

func expectShape(t *testing.T, a, b, want []int) {
	t.Helper()
	if s, e := products.Shape(a, b); e != api.OK || !slices.Equal(s, want) {
		t.Errorf("Shape(%v, %v) = %v, %d; want %v", a, b, s, e, want)
	}
}

// expectNoShape asks for an error, and for zero values beside it (R2).
func expectNoShape(t *testing.T, a, b []int, want api.Errno) {
	t.Helper()
	if s, e := products.Shape(a, b); e != want || len(s) != 0 {
		t.Errorf("Shape(%v, %v) = %v, %d; want %d", a, b, s, e, want)
	}
}

// expectProduct asks for a tensor, and tells the first number that differs.
func expectProduct(t *testing.T, a, b, want api.Tensor) {
	t.Helper()
	got, e := products.Of(a, b)
	if e != api.OK || !slices.Equal(got.Shape, want.Shape) || len(got.L) != len(want.L) {
		t.Errorf("Of(%v.., %v..) = %v.., %d numbers, %d; want %v.., %d numbers", short(a), short(b), short(got), len(got.L), e, short(want), len(want.L))
		return
	}
	for i := range want.L {
		if got.L[i] != want.L[i] {
			t.Errorf("Of(%v.., %v..): the number %d of shape %v is %d; want %d", short(a), short(b), i, want.Shape, got.L[i], want.L[i])
			return
		}
	}
}

// expectOf asks for what the document says of two matrices that fit together.
func expectOf(t *testing.T, a, b api.Tensor) {
	t.Helper()
	expectProduct(t, a, b, plainOf(a, b))
}

// expectNoOf asks for an error, and for zero values beside it (R2).
func expectNoOf(t *testing.T, a, b api.Tensor, want api.Errno) {
	t.Helper()
	if got, e := products.Of(a, b); e != want || !isNothing(got) {
		t.Errorf("Of(%v.., %d numbers, %v.., %d numbers) = %v.., %d; want %d", short(a), len(a.L), short(b), len(b.L), short(got), e, want)
	}
}

// expectNeitherWay asks with each of the two as the first one.
func expectNeitherWay(t *testing.T, a, b api.Tensor, want api.Errno) {
	t.Helper()
	expectNoOf(t, a, b, want)
	expectNoOf(t, b, a, want)
}
