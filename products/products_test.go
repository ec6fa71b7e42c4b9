package products_test

import (
	"math"
	"slices"
	"testing"

	"drydock/api"
	"drydock/maths"
	"drydock/products"
)

func TestExamples(t *testing.T) {
	expectProduct(t, matrix(2, 2, 1, 2, 3, 4), matrix(2, 1, 5, 6), matrix(2, 1, 17, 39))
	expectShape(t, []int{2, 3}, []int{3, 4}, []int{2, 4})
	expectNoShape(t, []int{2, 3}, []int{2, 3}, api.ErrShape)
	expectNoShape(t, []int{2}, []int{2}, api.ErrShape)
	expectNoShape(t, []int{0}, []int{1, 1}, api.ErrArg)
}

// P7.1

// TestOfByHand: products that were worked out by hand.
func TestOfByHand(t *testing.T) {
	for _, c := range []struct{ a, b, want api.Tensor }{
		{matrix(2, 2, 1, 2, 3, 4), matrix(2, 2, 5, 6, 7, 8), matrix(2, 2, 19, 22, 43, 50)},
		{matrix(2, 2, 5, 6, 7, 8), matrix(2, 2, 1, 2, 3, 4), matrix(2, 2, 23, 34, 31, 46)},
		{matrix(2, 3, 1, 2, 3, 4, 5, 6), matrix(3, 2, 7, 8, 9, 10, 11, 12), matrix(2, 2, 58, 64, 139, 154)},
		{matrix(3, 2, 7, 8, 9, 10, 11, 12), matrix(2, 3, 1, 2, 3, 4, 5, 6), matrix(3, 3, 39, 54, 69, 49, 68, 87, 59, 82, 105)},
		{matrix(2, 3, 1, -2, 3, -4, 5, -6), matrix(3, 4, 1, 2, 3, 4, 5, 6, 7, 8, 9, 10, 11, 12), matrix(2, 4, 18, 20, 22, 24, -33, -38, -43, -48)},
		{matrix(1, 3, 1, 2, 3), matrix(3, 1, 4, 5, 6), matrix(1, 1, 32)},
		{matrix(3, 1, 1, 2, 3), matrix(1, 3, 4, 5, 6), matrix(3, 3, 4, 5, 6, 8, 10, 12, 12, 15, 18)},
		{matrix(1, 1, 6), matrix(1, 1, -7), matrix(1, 1, -42)},
		{matrix(1, 1, 2), matrix(1, 3, 4, 5, 6), matrix(1, 3, 8, 10, 12)},
		{matrix(3, 1, 4, 5, 6), matrix(1, 1, 2), matrix(3, 1, 8, 10, 12)},
		{matrix(1, 2, 3, 4), matrix(2, 3, 1, 2, 3, 4, 5, 6), matrix(1, 3, 19, 26, 33)},
		{matrix(2, 2, 0, 0, 0, 0), matrix(2, 1, 5, 6), matrix(2, 1, 0, 0)},
	} {
		expectProduct(t, c.a, c.b, c.want)
	}
}

// TestWrapsRoundByHand: products that wrap round, sums that do, and sums that come back.
func TestWrapsRoundByHand(t *testing.T) {
	const least, greatest = math.MinInt32, math.MaxInt32
	for _, c := range []struct {
		row, column []int32
		want        int32
	}{
		{[]int32{greatest}, []int32{greatest}, 1},
		{[]int32{least}, []int32{least}, 0},
		{[]int32{least}, []int32{-1}, least},
		{[]int32{-1}, []int32{least}, least},
		{[]int32{least}, []int32{greatest}, least},
		{[]int32{greatest}, []int32{2}, -2},
		{[]int32{65536}, []int32{65536}, 0},
		{[]int32{65535}, []int32{65537}, -1},
		{[]int32{46341}, []int32{46341}, -2147479015},
		{[]int32{46340}, []int32{46340}, 2147395600},
		{[]int32{greatest, 1}, []int32{1, 1}, least},
		{[]int32{least, -1}, []int32{1, 1}, greatest},
		{[]int32{least, least}, []int32{1, 1}, 0},
		{[]int32{greatest, greatest}, []int32{greatest, greatest}, 2},
		{[]int32{greatest, 1, -1}, []int32{1, 1, 1}, greatest},
		{[]int32{1 << 30, 1 << 30, 1 << 30, 1 << 30}, []int32{1, 1, 1, 1}, 0},
		{[]int32{1 << 30, 1 << 30, 1 << 30}, []int32{1, 1, 1}, -1 << 30},
		{[]int32{1 << 30, 5}, []int32{4, 7}, 35},
		{[]int32{65536, 65536}, []int32{32768, 32767}, -65536},
	} {
		k := len(c.row)
		expectProduct(t, matrix(1, k, c.row...), matrix(k, 1, c.column...), matrix(1, 1, c.want))
	}
}

// TestOneNumberByOneNumber: each number at the edges with each.
func TestOneNumberByOneNumber(t *testing.T) {
	for _, x := range edgeNumbers() {
		for _, y := range edgeNumbers() {
			expectProduct(t, matrix(1, 1, x), matrix(1, 1, y), matrix(1, 1, plainWrap(int64(x)*int64(y))))
		}
	}
}

// TestRowsAndColumnsOfEdgeNumbers: a single row by a single column, and a single column by a single row, in which each number at the edges meets each.
func TestRowsAndColumnsOfEdgeNumbers(t *testing.T) {
	edges := edgeNumbers()
	k := len(edges)
	for first := range edges {
		other := append(slices.Clone(edges[first:]), edges[:first]...)
		expectOf(t, matrix(1, k, edges...), matrix(k, 1, other...))
		expectOf(t, matrix(k, 1, edges...), matrix(1, k, other...))
	}
}

// TestSumsOfOneNumber: as many of the same product as the greatest dimension allows.
func TestSumsOfOneNumber(t *testing.T) {
	for _, x := range edgeNumbers() {
		for _, y := range []int32{0, 1, -1, 2, math.MinInt32, math.MaxInt32} {
			want := plainWrap(64 * int64(plainWrap(int64(x)*int64(y))))
			expectProduct(t, alike(1, 64, x), alike(64, 1, y), matrix(1, 1, want))
			expectProduct(t, alike(64, 64, x), alike(64, 2, y), alike(64, 2, want))
		}
	}
}

func TestOfEachDims(t *testing.T) {
	for _, rows := range someDims() {
		for _, among := range someDims() {
			for _, columns := range someDims() {
				expectOf(t, mixedMatrix(rows, among, 1), mixedMatrix(among, columns, 2))
			}
		}
	}
}

// TestEachNumberComesFromItsPlaces: with a single 1 on either side, it is told which number of a meets which one of b, and where their product stands.
func TestEachNumberComesFromItsPlaces(t *testing.T) {
	const rows, among, columns = 3, 4, 5
	for i := range rows {
		for p := range among {
			for q := range among {
				for j := range columns {
					want := alike(rows, columns, 0)
					if p == q {
						want = onlyOne(rows, columns, i, j)
					}
					expectProduct(t, onlyOne(rows, among, i, p), onlyOne(among, columns, q, j), want)
				}
			}
		}
	}
}

// TestTheSameTensorTwice: the very same memory.
func TestTheSameTensorTwice(t *testing.T) {
	for _, x := range someMatrices() {
		if x.Shape[0] == x.Shape[1] {
			expectOf(t, x, x)
		} else {
			expectNoOf(t, x, x, api.ErrShape)
		}
	}
	for _, x := range otherTensors() {
		expectNoOf(t, x, x, api.ErrShape)
	}
	for _, x := range notTensors() {
		expectNoOf(t, x, x, api.ErrArg)
	}
}

// TestOneOfTwoIsInvalid: the first one or the second one, whether the shapes would fit together or not.
func TestOneOfTwoIsInvalid(t *testing.T) {
	for _, x := range notTensors() {
		for _, y := range append(someMatrices(), otherTensors()...) {
			expectNeitherWay(t, x, y, api.ErrArg)
		}
	}
}

func TestBothAreInvalid(t *testing.T) {
	all := notTensors()
	for i, x := range all {
		for _, y := range all[i:] {
			expectNeitherWay(t, x, y, api.ErrArg)
		}
	}
}

// TestTheWrongCountOfNumbers: shapes that fit together do not help.
func TestTheWrongCountOfNumbers(t *testing.T) {
	a, b := mixedMatrix(2, 3, 1), mixedMatrix(3, 4, 2)
	for many := range 3 * len(b.L) {
		if many != len(a.L) {
			expectNoOf(t, of(a.Shape, mixed(many, 1)...), b, api.ErrArg)
		}
		if many != len(b.L) {
			expectNoOf(t, a, of(b.Shape, mixed(many, 2)...), api.ErrArg)
		}
	}
}

// TestOfWhereShapeAnswersErrShape: what Of answers, too.
func TestOfWhereShapeAnswersErrShape(t *testing.T) {
	for _, x := range otherTensors() {
		for _, y := range append(someMatrices(), otherTensors()...) {
			expectNeitherWay(t, x, y, api.ErrShape)
		}
	}
	for _, x := range someMatrices() {
		for _, y := range someMatrices() {
			if x.Shape[1] == y.Shape[0] {
				expectOf(t, x, y)
			} else {
				expectNoOf(t, x, y, api.ErrShape)
			}
		}
	}
}

// TestTheSameSizeIsNotEnough: the dimensions between must be the same.
func TestTheSameSizeIsNotEnough(t *testing.T) {
	for _, c := range []struct{ a, b []int }{
		{[]int{2, 3}, []int{2, 3}}, {[]int{1, 6}, []int{1, 6}}, {[]int{6, 1}, []int{6, 1}}, {[]int{2, 6}, []int{3, 4}}, {[]int{4, 3}, []int{6, 2}},
		{[]int{6}, []int{6}}, {[]int{6}, []int{6, 1}}, {[]int{2, 3}, []int{6}}, {[]int{2, 3}, []int{3, 2, 1}}, {[]int{1, 2, 3}, []int{3, 2}}, {[]int{1, 64}, []int{1, 64}},
		{[]int{63, 64}, []int{63, 64}}, {[]int{64, 64}, []int{8, 8, 8, 8}},
	} {
		size := 1
		for _, dim := range c.a {
			size *= dim
		}
		expectNoShape(t, c.a, c.b, api.ErrShape)
		expectNoOf(t, of(c.a, mixed(size, 1)...), of(c.b, mixed(size, 2)...), api.ErrShape)
	}
}

// P7.2

func TestShapeOfEachDims(t *testing.T) {
	for first := 1; first <= 64; first++ {
		for second := 1; second <= 64; second++ {
			expectShape(t, []int{first, second}, []int{second, first}, []int{first, first})
			expectShape(t, []int{first, 7}, []int{7, second}, []int{first, second})
			if first != second {
				expectNoShape(t, []int{7, first}, []int{second, 7}, api.ErrShape)
			}
		}
	}
	expectShape(t, []int{1, 1}, []int{1, 1}, []int{1, 1})
	expectShape(t, []int{64, 64}, []int{64, 64}, []int{64, 64})
	expectShape(t, []int{64, 1}, []int{1, 64}, []int{64, 64})
	expectShape(t, []int{1, 64}, []int{64, 1}, []int{1, 1})
}

func TestShapeOfOtherThanTwoDimensions(t *testing.T) {
	for _, x := range otherShapes() {
		for _, y := range append(otherShapes(), []int{1, 1}, []int{2, 3}, []int{3, 2}, []int{6, 6}, []int{64, 64}) {
			expectNoShape(t, x, y, api.ErrShape)
			expectNoShape(t, y, x, api.ErrShape)
		}
	}
}

// TestNoShapeComesFirst: ErrArg, also where the shapes would not fit together, or have the wrong count of dimensions.
func TestNoShapeComesFirst(t *testing.T) {
	fitting := [][]int{{1, 1}, {2, 3}, {3, 2}, {64, 64}, {1, 64}, {64, 1}}
	for _, x := range notShapes() {
		for _, y := range slices.Concat(fitting, otherShapes(), notShapes()) {
			expectNoShape(t, x, y, api.ErrArg)
			expectNoShape(t, y, x, api.ErrArg)
		}
	}
	long := slices.Repeat([]int{1}, 1<<20)
	expectNoShape(t, long, []int{1, 1}, api.ErrArg)
	expectNoShape(t, []int{1, 1}, long, api.ErrArg)
}

// TestShapeAtTheLimits of one dimension, in each of the four places.
func TestShapeAtTheLimits(t *testing.T) {
	for _, dim := range []int{math.MinInt, math.MinInt32, -64, -1, 0, 1, 2, 63, 64, 65, 66, 128, 256, 257, 4096, 1 << 32, 1<<32 + 1, math.MaxInt} {
		if dim < 1 || dim > 64 {
			expectNoShape(t, []int{dim, 1}, []int{1, 1}, api.ErrArg)
			expectNoShape(t, []int{1, dim}, []int{dim, 1}, api.ErrArg)
			expectNoShape(t, []int{1, dim}, []int{1, 1}, api.ErrArg)
			expectNoShape(t, []int{1, 1}, []int{dim, 1}, api.ErrArg)
			expectNoShape(t, []int{1, 1}, []int{1, dim}, api.ErrArg)
			expectNoShape(t, []int{dim, dim}, []int{dim, dim}, api.ErrArg)
			continue
		}
		expectShape(t, []int{dim, 1}, []int{1, 1}, []int{dim, 1})
		expectShape(t, []int{1, dim}, []int{dim, 1}, []int{1, 1})
		expectShape(t, []int{1, 1}, []int{1, dim}, []int{1, dim})
		expectShape(t, []int{dim, dim}, []int{dim, dim}, []int{dim, dim})
	}
}

// lists are all lists of these numbers, up to a length.
func lists(numbers []int, length int) [][]int {
	all := [][]int{nil}
	last := all
	for range length {
		var longer [][]int
		for _, l := range last {
			for _, n := range numbers {
				longer = append(longer, append(slices.Clone(l), n))
			}
		}
		all = append(all, longer...)
		last = longer
	}
	return all
}

// TestShapeAsTheDocumentWordsIt: any two lists of up to three numbers at the edges.
func TestShapeAsTheDocumentWordsIt(t *testing.T) {
	all := lists([]int{0, 1, 2, 3, 64, 65}, 3)
	for _, a := range all {
		for _, b := range all {
			if want, e := plainShape(a, b); e != api.OK {
				expectNoShape(t, a, b, e)
			} else {
				expectShape(t, a, b, want)
			}
		}
	}
}

// P7.3

// product is what Of returns where it must return something: a matrix for the next call.
func product(t *testing.T, a, b api.Tensor) api.Tensor {
	t.Helper()
	x, e := products.Of(a, b)
	if e != api.OK {
		t.Fatalf("Of(%v.., %v..): %d", short(a), short(b), e)
	}
	return x
}

// sum is the element-wise sum of two matrices with the same shape.
func sum(t *testing.T, a, b api.Tensor) api.Tensor {
	t.Helper()
	x, e := maths.Add(a, b)
	if e != api.OK {
		t.Fatalf("Add(%v.., %v..): %d", short(a), short(b), e)
	}
	return x
}

func expectEqual(t *testing.T, law string, a, b api.Tensor) {
	t.Helper()
	if !plainSame(a, b) {
		t.Errorf("%s: %v.. and %v..", law, short(a), short(b))
	}
}

// edgeMatrix is a matrix whose numbers are those at the edges, over and over from the one that is given.
func edgeMatrix(rows, columns, from int) api.Tensor {
	edges := edgeNumbers()
	x := alike(rows, columns, 0)
	for i := range x.L {
		x.L[i] = edges[(from+i)%len(edges)]
	}
	return x
}

// someOf are matrices of the same shape, with numbers of all kinds.
func someOf(rows, columns int) []api.Tensor {
	return []api.Tensor{
		mixedMatrix(rows, columns, 1), mixedMatrix(rows, columns, 2), edgeMatrix(rows, columns, 0), edgeMatrix(rows, columns, 11),
		alike(rows, columns, math.MaxInt32), alike(rows, columns, math.MinInt32), alike(rows, columns, -1), alike(rows, columns, 0), alike(rows, columns, 1),
	}
}

// lawDims are the four dimensions of three matrices that are multiplied.
func lawDims() [][4]int {
	return [][4]int{{1, 1, 1, 1}, {2, 2, 2, 2}, {2, 3, 4, 5}, {5, 4, 3, 2}, {1, 5, 1, 5}, {5, 1, 5, 1}, {1, 6, 6, 1}, {7, 1, 1, 7}, {3, 8, 2, 1}}
}

func TestTheProductIsAssociative(t *testing.T) {
	for _, d := range lawDims() {
		for _, a := range someOf(d[0], d[1]) {
			for _, b := range someOf(d[1], d[2]) {
				for _, c := range someOf(d[2], d[3]) {
					expectEqual(t, "associative", product(t, product(t, a, b), c), product(t, a, product(t, b, c)))
				}
			}
		}
	}
	a, b, c := mixedMatrix(64, 64, 1), edgeMatrix(64, 64, 3), mixedMatrix(64, 64, 5)
	expectEqual(t, "associative", product(t, product(t, a, b), c), product(t, a, product(t, b, c)))
	a, b, c = mixedMatrix(64, 1, 1), mixedMatrix(1, 64, 2), mixedMatrix(64, 1, 3)
	expectEqual(t, "associative", product(t, product(t, a, b), c), product(t, a, product(t, b, c)))
}

// expectDistributes asks for sums on either side: b and c fit after a, and before d.
func expectDistributes(t *testing.T, a, b, c, d api.Tensor) {
	t.Helper()
	both := sum(t, b, c)
	expectEqual(t, "distributes over a sum on the right", product(t, a, both), sum(t, product(t, a, b), product(t, a, c)))
	expectEqual(t, "distributes over a sum on the left", product(t, both, d), sum(t, product(t, b, d), product(t, c, d)))
}

func TestTheProductDistributesOverSums(t *testing.T) {
	for _, dims := range lawDims() {
		for _, a := range someOf(dims[0], dims[1]) {
			for i, b := range someOf(dims[1], dims[2]) {
				for _, c := range someOf(dims[1], dims[2])[i:] {
					expectDistributes(t, a, b, c, edgeMatrix(dims[2], dims[3], 5))
				}
			}
		}
	}
	expectDistributes(t, mixedMatrix(64, 64, 1), mixedMatrix(64, 64, 2), edgeMatrix(64, 64, 3), mixedMatrix(64, 64, 4))
}

func TestIdentityChangesNothing(t *testing.T) {
	for _, rows := range someDims() {
		for _, columns := range someDims() {
			for _, x := range someOf(rows, columns) {
				expectProduct(t, identity(rows), x, x)
				expectProduct(t, x, identity(columns), x)
			}
		}
	}
	for _, n := range someDims() {
		expectProduct(t, identity(n), identity(n), identity(n))
	}
}

func TestNoughtsMakeNoughts(t *testing.T) {
	for _, rows := range someDims() {
		for _, columns := range someDims() {
			x := mixedMatrix(rows, columns, 9)
			for _, other := range []int{1, 3, 64} {
				expectProduct(t, alike(other, rows, 0), x, alike(other, columns, 0))
				expectProduct(t, x, alike(columns, other, 0), alike(rows, other, 0))
			}
		}
	}
}

// TestTurnedFactorsMakeTheTurnedProduct: what rows and columns are to a product on one side, they are to the other.
func TestTurnedFactorsMakeTheTurnedProduct(t *testing.T) {
	for _, d := range lawDims() {
		for _, a := range someOf(d[0], d[1]) {
			for _, b := range someOf(d[1], d[2]) {
				expectProduct(t, turned(b), turned(a), turned(product(t, a, b)))
			}
		}
	}
}

// R1

// FuzzAll: R1, P7.1 and P7.2 for any two tensors: no call panics, and an error comes alone.
func FuzzAll(f *testing.F) {
	f.Add([]byte(nil), 0, []byte(nil), 0, uint32(0))
	f.Add([]byte{2, 3}, 6, []byte{3, 4}, 12, uint32(1))
	f.Add([]byte{2, 3}, 6, []byte{2, 3}, 6, uint32(2))
	f.Add([]byte{2, 3}, 5, []byte{3, 2}, 6, uint32(3))
	f.Add([]byte{64, 64}, 4096, []byte{64, 64}, 4096, uint32(4))
	f.Add([]byte{1, 1, 1, 1, 1}, 1, []byte{255}, 1, uint32(5))
	f.Add([]byte{65, 1}, 65, []byte{1, 65}, 65, uint32(6))
	f.Fuzz(func(t *testing.T, shapeA []byte, manyA int, shapeB []byte, manyB int, seed uint32) {
		a, b := fuzzTensor(shapeA, manyA, seed), fuzzTensor(shapeB, manyB, seed+1)
		want, e := plainShape(a.Shape, b.Shape)
		if e != api.OK {
			expectNoShape(t, a.Shape, b.Shape, e)
		} else {
			expectShape(t, a.Shape, b.Shape, want)
		}
		switch {
		case !isValid(a) || !isValid(b):
			expectNoOf(t, a, b, api.ErrArg)
		case e != api.OK:
			expectNoOf(t, a, b, e)
		default:
			expectOf(t, a, b)
		}
	})
}

func fuzzTensor(shape []byte, many int, seed uint32) api.Tensor {
	var s []int
	for _, dim := range shape {
		s = append(s, int(int8(dim)))
	}
	return of(s, mixed(max(0, min(many, 5000)), seed)...)
}
