package shapes_test

import (
	"math"
	"math/big"
	"slices"
	"testing"

	"drydock/api"
	"drydock/shapes"
)

// plainSize is the size as the document words it, reckoned with numbers that don't wrap around; 0 if s is no shape.
func plainSize(s []int) int {
	if len(s) == 0 || len(s) > api.MaxDims {
		return 0
	}
	product := big.NewInt(1)
	for _, dim := range s {
		if dim < 1 || dim > api.MaxDim {
			return 0
		}
		product.Mul(product, big.NewInt(int64(dim)))
	}
	if product.Cmp(big.NewInt(api.MaxSize)) > 0 {
		return 0
	}
	return int(product.Int64())
}

// plainPlaces are the coordinates of all numbers of a shape, in order: for each coordinate of the first dimension, those of the others.
func plainPlaces(s []int) [][]int {
	if len(s) == 0 {
		return [][]int{nil}
	}
	var all [][]int
	for first := range s[0] {
		for _, others := range plainPlaces(s[1:]) {
			all = append(all, append([]int{first}, others...))
		}
	}
	return all
}

// lists are all lists of numbers, up to a length.
func lists(numbers []int, length int) [][]int {
	all := [][]int{nil}
	last := all
	for range length {
		var longer [][]int
		for _, l := range last {
			for _, n := range numbers {
				longer = append(longer, append(slices.Clone(l), n))
			}
		}
		all = append(all, longer...)
		last = longer
	}
	return all
}

// someShapes are small ones of each length, and great ones.
func someShapes() [][]int {
	all := lists([]int{1, 2, 3, 5}, api.MaxDims)[1:]
	return append(all,
		[]int{64}, []int{63}, []int{64, 64}, []int{64, 63}, []int{63, 63, 1}, []int{1, 64, 1, 64}, []int{64, 1, 64},
		[]int{4, 64, 16}, []int{8, 8, 8, 8}, []int{63, 13, 5}, []int{2, 3, 11, 61}, []int{61, 11, 3, 2})
}

// notShapes are lists that are no shape, each for one reason or for several.
func notShapes() [][]int {
	return [][]int{
		nil, {}, {0}, {-1}, {65}, {math.MinInt}, {math.MaxInt},
		{2, 0}, {0, 2}, {2, 65}, {65, 2}, {2, -3}, {-2, 3}, {-2, -3}, {-1, -1},
		{64, 64, 2}, {41, 50, 2}, {8, 8, 8, 9}, {64, 64, 64, 64},
		{1, 1, 1, 1, 1}, {2, 2, 2, 2, 2}, {0, 0, 0, 0, 0}, make([]int, 1000),
	}
}

func expectSize(t *testing.T, s []int, want int) {
	t.Helper()
	if n := shapes.Size(s); n != want {
		t.Errorf("Size(%v) = %d, want %d", s, n, want)
	}
	if ok := shapes.Check(s); ok != (want > 0) {
		t.Errorf("Check(%v) = %v, with the size %d", s, ok, want)
	}
}

func expectIndex(t *testing.T, s, at []int, want int) {
	t.Helper()
	if n, e := shapes.Index(s, at); n != want || e != api.OK {
		t.Errorf("Index(%v, %v) = %d, %d; want %d", s, at, n, e, want)
	}
}

func expectAt(t *testing.T, s []int, i int, want []int) {
	t.Helper()
	if at, e := shapes.At(s, i); !slices.Equal(at, want) || e != api.OK {
		t.Errorf("At(%v, %d) = %v, %d; want %v", s, i, at, e, want)
	}
}

// expectNoIndex asks for ErrArg, and for zero values beside it (R2).
func expectNoIndex(t *testing.T, s, at []int) {
	t.Helper()
	if n, e := shapes.Index(s, at); n != 0 || e != api.ErrArg {
		t.Errorf("Index(%v, %v) = %d, %d; want an error", s, at, n, e)
	}
}

// expectNoPlace asks for ErrArg, and for zero values beside it (R2).
func expectNoPlace(t *testing.T, s []int, i int) {
	t.Helper()
	if at, e := shapes.At(s, i); len(at) != 0 || e != api.ErrArg {
		t.Errorf("At(%v, %d) = %v, %d; want an error", s, i, at, e)
	}
}

// P4.1, P4.2

func TestExamples(t *testing.T) {
	expectSize(t, []int{2, 3}, 6)
	expectIndex(t, []int{2, 3}, []int{1, 2}, 5)
	expectAt(t, []int{2, 3}, 4, []int{1, 1})
	expectNoPlace(t, []int{2, 3}, 6)
	for _, c := range []struct {
		s    []int
		want bool
	}{
		{nil, false},
		{[]int{}, false},
		{[]int{64, 64}, true},
		{[]int{64, 64, 2}, false},
		{[]int{0}, false},
		{[]int{1, 1, 1, 1, 1}, false},
		{[]int{65}, false},
	} {
		if ok := shapes.Check(c.s); ok != c.want {
			t.Errorf("Check(%v) = %v", c.s, ok)
		}
	}
}

func TestSizeOfEachLength(t *testing.T) {
	for length := range 3 * api.MaxDims {
		for _, dim := range []int{1, 2} {
			s := slices.Repeat([]int{dim}, length)
			want := 0
			if length >= 1 && length <= 4 {
				want = []int{1, 1 << length}[dim-1]
			}
			expectSize(t, s, want)
		}
	}
	expectSize(t, slices.Repeat([]int{1}, 1<<20), 0)
}

// TestSizeOfEachNumber: whichever place the number has, and however many there are beside it.
func TestSizeOfEachNumber(t *testing.T) {
	far := []int{math.MinInt, math.MinInt + 1, math.MinInt32, -1 << 16, math.MaxInt32, 1 << 32, 1<<32 + 1, math.MaxInt - 1, math.MaxInt}
	for length := 1; length <= api.MaxDims; length++ {
		for place := range length {
			s := slices.Repeat([]int{1}, length)
			for n := -200; n <= 400; n++ {
				s[place] = n
				want := n
				if n < 1 || n > 64 {
					want = 0
				}
				expectSize(t, s, want)
			}
			for _, n := range far {
				s[place] = n
				expectSize(t, s, 0)
			}
		}
	}
}

func TestSizeAtTheGreatest(t *testing.T) {
	for _, s := range [][]int{{64, 64}, {1, 64, 64}, {64, 1, 64, 1}, {32, 64, 2}, {8, 8, 8, 8}, {2, 32, 64, 1}, {4, 4, 4, 64}} {
		expectSize(t, s, 4096)
	}
	for _, s := range [][]int{{63, 13, 5}, {13, 35, 9}, {9, 5, 7, 13}} {
		expectSize(t, s, 4095)
	}
	// 4100 is the smallest product above 4096 of numbers that may be dimensions.
	for _, s := range [][]int{{41, 50, 2}, {2, 50, 41}, {41, 10, 10, 1}, {41, 5, 5, 4}, {64, 64, 2}, {2, 64, 64}, {8, 8, 8, 9}, {64, 64, 64, 64}} {
		expectSize(t, s, 0)
	}
}

// TestSizeThatWouldWrapAround has numbers whose product is one of 1 to 4096, if it is cut to 32 or 64 bits.
func TestSizeThatWouldWrapAround(t *testing.T) {
	for _, s := range [][]int{
		{7, 7905747460161236407},
		{7905747460161236407, 7, 64},
		{3, -6148914691236517205},
		{641, 6700417},
		{641, 6700417, 2, 1},
		{64, 67108865},
		{math.MinInt + 1, math.MinInt + 1},
		{math.MaxInt, math.MaxInt},
		{math.MinInt, 2},
		{2, math.MinInt},
		{1 << 62, 4},
		{1 << 32, 1 << 32},
		{1 << 16, 1 << 16, 1 << 16, 1 << 16},
		{-1, -1},
		{-1, -64, 2},
		{-64, -64},
		{1, -1, -1, 1},
	} {
		expectSize(t, s, 0)
	}
}

// TestSizeAsTheDocumentWordsIt: all lists of up to one number more than MaxDims, of numbers at the edges.
func TestSizeAsTheDocumentWordsIt(t *testing.T) {
	for _, s := range lists([]int{math.MinInt, -1, 0, 1, 2, 7, 8, 63, 64, 65}, api.MaxDims+1) {
		expectSize(t, s, plainSize(s))
	}
	for a := -1; a <= 66; a++ {
		for b := -1; b <= 66; b++ {
			expectSize(t, []int{a, b}, plainSize([]int{a, b}))
			expectSize(t, []int{a, 2, b}, plainSize([]int{a, 2, b}))
		}
	}
}

// P4.3

func TestNoShapeHasNoPlaces(t *testing.T) {
	for _, s := range notShapes() {
		expectSize(t, s, 0)
		expectNoIndex(t, s, nil)
		expectNoIndex(t, s, []int{0})
		expectNoIndex(t, s, make([]int, len(s)))
		expectNoIndex(t, s, slices.Repeat([]int{1}, len(s)))
		expectNoIndex(t, s, s)
		for _, i := range []int{math.MinInt, -1, 0, 1, 5, 4095, 4096, math.MaxInt} {
			expectNoPlace(t, s, i)
		}
	}
}

func TestIndexWithTooFewOrTooManyCoordinates(t *testing.T) {
	for length := 1; length <= api.MaxDims; length++ {
		s := slices.Repeat([]int{2}, length)
		for many := range 3 * api.MaxDims {
			for _, coordinate := range []int{0, 1} {
				at := slices.Repeat([]int{coordinate}, many)
				if many != length {
					expectNoIndex(t, s, at)
				} else {
					expectIndex(t, s, at, coordinate*(1<<length-1))
				}
			}
		}
		expectNoIndex(t, s, nil)
		expectNoIndex(t, s, []int{})
		expectNoIndex(t, s, make([]int, 1<<20))
	}
}

// TestIndexWithACoordinateOutside: in each place, whatever the others are; and where the index would be one of the shape's even so.
func TestIndexWithACoordinateOutside(t *testing.T) {
	for _, s := range [][]int{{1}, {6}, {64}, {2, 3}, {3, 2}, {1, 4}, {2, 3, 4}, {3, 1, 2}, {64, 64}, {2, 3, 4, 5}, {8, 8, 8, 8}, {1, 1, 1, 1}} {
		for place, dim := range s {
			for _, fill := range []int{0, 1} {
				at := make([]int, len(s))
				for k := range at {
					at[k] = fill * (s[k] - 1)
				}
				for _, n := range []int{math.MinInt, math.MinInt32, -dim, -1, dim, dim + 1, 2 * dim, 64, 4096, 1 << 32, 1 << 62, math.MaxInt} {
					at[place] = n
					if n >= dim || n < 0 {
						expectNoIndex(t, s, at)
					}
				}
			}
		}
	}
	expectNoIndex(t, []int{2, 3}, []int{1, -1})
	expectNoIndex(t, []int{2, 3}, []int{0, 3})
	expectNoIndex(t, []int{2, 3}, []int{0, 5})
	expectNoIndex(t, []int{2, 3}, []int{-1, 5})
	expectNoIndex(t, []int{2, 3}, []int{-1, -1})
	expectNoIndex(t, []int{2, 3}, []int{2, 3})
	expectNoIndex(t, []int{2, 3}, []int{2, -3})
	expectNoIndex(t, []int{4, 64}, []int{1 << 58, 5})
}

func TestAtTheEdges(t *testing.T) {
	for _, s := range someShapes() {
		size := shapes.Size(s)
		last := slices.Clone(s)
		for k := range last {
			last[k]--
		}
		expectAt(t, s, 0, make([]int, len(s)))
		expectAt(t, s, size-1, last)
		expectIndex(t, s, make([]int, len(s)), 0)
		expectIndex(t, s, last, size-1)
		expectNoIndex(t, s, s)
		for _, i := range []int{math.MinInt, math.MinInt32, -size, -1, size, size + 1, 2 * size, 4096, 4097, 1 << 32, math.MaxInt} {
			expectNoPlace(t, s, i)
		}
	}
}

// TestLastDimensionVariesFastest has places that were worked out by hand.
func TestLastDimensionVariesFastest(t *testing.T) {
	for _, c := range []struct {
		s, at []int
		i     int
	}{
		{[]int{5}, []int{3}, 3},
		{[]int{2, 3}, []int{0, 1}, 1},
		{[]int{2, 3}, []int{1, 0}, 3},
		{[]int{3, 2}, []int{1, 0}, 2},
		{[]int{3, 2}, []int{2, 1}, 5},
		{[]int{2, 3, 4}, []int{0, 0, 1}, 1},
		{[]int{2, 3, 4}, []int{0, 1, 0}, 4},
		{[]int{2, 3, 4}, []int{1, 0, 0}, 12},
		{[]int{2, 3, 4}, []int{1, 2, 3}, 23},
		{[]int{2, 3, 4, 5}, []int{1, 0, 0, 0}, 60},
		{[]int{2, 3, 4, 5}, []int{0, 1, 0, 0}, 20},
		{[]int{2, 3, 4, 5}, []int{0, 0, 1, 0}, 5},
		{[]int{2, 3, 4, 5}, []int{1, 2, 3, 4}, 119},
		{[]int{1, 4, 1, 2}, []int{0, 3, 0, 1}, 7},
		{[]int{64, 64}, []int{1, 2}, 66},
		{[]int{8, 8, 8, 8}, []int{1, 2, 3, 4}, 668},
	} {
		expectIndex(t, c.s, c.at, c.i)
		expectAt(t, c.s, c.i, c.at)
	}
}

// P4.4

// TestEachIndexToCoordinatesAndBack: Index and At are inverse to each other, and give the places in the document's order.
func TestEachIndexToCoordinatesAndBack(t *testing.T) {
	for _, s := range someShapes() {
		places := plainPlaces(s)
		expectSize(t, s, len(places))
		for i, at := range places {
			expectAt(t, s, i, at)
			expectIndex(t, s, at, i)
			got, _ := shapes.At(s, i)
			expectIndex(t, s, got, i)
		}
	}
}

// TestCoordinatesAscend by the first dimension in which they differ.
func TestCoordinatesAscend(t *testing.T) {
	for _, s := range someShapes() {
		var before []int
		for i := range shapes.Size(s) {
			at, _ := shapes.At(s, i)
			if slices.Compare(before, at) >= 0 {
				t.Errorf("%v: %v is followed by %v", s, before, at)
			}
			before = at
		}
	}
}

// TestCoordinatesAscendNotOnlyFromOneToTheNext: any two indices of a shape.
func TestCoordinatesAscendNotOnlyFromOneToTheNext(t *testing.T) {
	for _, s := range [][]int{{7}, {3, 4}, {4, 3}, {2, 3, 4}, {2, 1, 3, 2}, {3, 2, 2, 3}} {
		for i := range shapes.Size(s) {
			for j := range shapes.Size(s) {
				a, _ := shapes.At(s, i)
				b, _ := shapes.At(s, j)
				ascends := slices.Compare(a, b)
				if ascends < 0 && i >= j || ascends > 0 && i <= j || ascends == 0 && i != j {
					t.Errorf("%v: %d is %v, %d is %v", s, i, a, j, b)
				}
			}
		}
	}
}

// R1

// numbersOf makes numbers out of bytes: most of them near the limits, some far from them.
func numbersOf(b []byte) []int {
	l := make([]int, len(b))
	for k, n := range b {
		switch {
		case n < 128:
			l[k] = int(n) - 4
		case n < 192:
			l[k] = 1 << (n - 128)
		default:
			l[k] = math.MaxInt - 1<<(n-192)
		}
	}
	return l
}

// FuzzAll: R1 and P4.1 to P4.4 for any lists: no call panics, an error comes alone, and what there is leads back.
func FuzzAll(f *testing.F) {
	f.Add([]byte(nil), []byte(nil), 0)
	f.Add([]byte{6, 7}, []byte{5, 6}, 4)
	f.Add([]byte{68, 68}, []byte{67, 67}, 4095)
	f.Add([]byte{68, 68, 6}, []byte{4, 4, 4}, 0)
	f.Add([]byte{190, 6}, []byte{200, 3}, -1)
	f.Add([]byte{5, 5, 5, 5, 5}, []byte{4, 4, 4, 4, 4}, 0)
	f.Fuzz(func(t *testing.T, shape, coordinates []byte, i int) {
		s, at := numbersOf(shape), numbersOf(coordinates)
		size := plainSize(s)
		expectSize(t, s, size)
		within := size > 0 && len(at) == len(s)
		for k := 0; within && k < len(s); k++ {
			within = at[k] >= 0 && at[k] < s[k]
		}
		if !within {
			expectNoIndex(t, s, at)
		} else if n, e := shapes.Index(s, at); e != api.OK || n < 0 || n >= size {
			t.Errorf("Index(%v, %v) = %d, %d", s, at, n, e)
		} else {
			expectAt(t, s, n, at)
		}
		if i < 0 || i >= size {
			expectNoPlace(t, s, i)
			return
		}
		got, e := shapes.At(s, i)
		if e != api.OK {
			t.Errorf("At(%v, %d) = %v, %d", s, i, got, e)
		}
		expectIndex(t, s, got, i)
	})
}
