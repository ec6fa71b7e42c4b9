package windows_test

import (
	"math"
	"slices"
	"testing"

	"drydock/api"
	"drydock/maths"
	"drydock/windows"
)

const (
	least    = math.MinInt32
	greatest = math.MaxInt32
)

func TestExamples(t *testing.T) {
	x := counted(1, 3, 3)
	expectWindow(t, x, alike(1, 1, 1, 2, 2), 1, 0, of(dims(1, 2, 2), 12, 16, 24, 28))
	expectWindow(t, x, alike(1, 1, 1, 1, 1), 2, 1, of(dims(1, 3, 3), 0, 0, 0, 0, 5, 0, 0, 0, 0))
	expectPooled(t, x, 2, of(dims(1, 1, 1), 5))
	expectNoPool(t, x, 4, api.ErrShape)
	expectNoShape(t, call{dims(1, 3, 3), dims(1, 1, 2, 2), 9, 0}, api.ErrArg)
	expectNoShape(t, call{dims(1, 3, 3), dims(1, 2, 2, 2), 1, 0}, api.ErrShape)
}

// P8.1

// TestOfByHand: convolutions that were worked out by hand. A filter is laid on as it is, not turned round.
func TestOfByHand(t *testing.T) {
	x := counted(1, 3, 3)
	for _, c := range []struct {
		t, w      api.Tensor
		step, pad int
		want      api.Tensor
	}{
		{x, of(dims(1, 1, 2, 2), 1, 10, 100, 1000), 1, 0, of(dims(1, 2, 2), 5421, 6532, 8754, 9865)},
		{x, of(dims(1, 1, 1, 2), 1, -1), 1, 0, of(dims(1, 3, 2), -1, -1, -1, -1, -1, -1)},
		{x, of(dims(1, 1, 2, 1), 1, -1), 1, 0, of(dims(1, 2, 3), -3, -3, -3, -3, -3, -3)},
		{x, alike(1, 1, 1, 2, 2), 2, 1, of(dims(1, 2, 2), 1, 5, 11, 28)},
		{x, alike(1, 1, 1, 2, 2), 2, 0, of(dims(1, 1, 1), 12)},
		{x, alike(1, 1, 1, 3, 3), 1, 0, of(dims(1, 1, 1), 45)},
		{x, alike(1, 1, 1, 3, 3), 1, 1, of(dims(1, 3, 3), 12, 21, 16, 27, 45, 33, 24, 39, 28)},
		{x, of(dims(1, 1, 1, 1), 2), 2, 0, of(dims(1, 2, 2), 2, 6, 14, 18)},
		{x, of(dims(1, 1, 1, 1), 2), 1, 1, of(dims(1, 5, 5), 0, 0, 0, 0, 0, 0, 2, 4, 6, 0, 0, 8, 10, 12, 0, 0, 14, 16, 18, 0, 0, 0, 0, 0, 0)},
		{x, of(dims(2, 1, 1, 1), 1, -1), 2, 0, of(dims(2, 2, 2), 1, 3, 7, 9, -1, -3, -7, -9)},
		{x, of(dims(1, 1, 1, 3), 1, 10, 100), 1, 0, of(dims(1, 3, 1), 321, 654, 987)},
		{x, of(dims(1, 1, 3, 1), 1, 10, 100), 1, 0, of(dims(1, 1, 3), 741, 852, 963)},
		{counted(2, 1, 2), of(dims(2, 2, 1, 1), 1, 10, 0, -1), 1, 0, of(dims(2, 1, 2), 31, 42, -3, -4)},
		{counted(2, 1, 2), of(dims(1, 2, 1, 2), 1, 10, 100, 1000), 1, 0, of(dims(1, 1, 1), 4321)},
		{counted(1, 1, 5), of(dims(1, 1, 1, 2), 1, 10), 2, 0, of(dims(1, 1, 2), 21, 43)},
		{counted(1, 5, 1), of(dims(1, 1, 2, 1), 1, 10), 2, 0, of(dims(1, 2, 1), 21, 43)},
		{counted(1, 1, 4), of(dims(1, 1, 1, 2), 1, 10), 3, 1, of(dims(1, 1, 2), 0, 0)},
		{counted(1, 1, 4), of(dims(1, 1, 1, 2), 1, 10), 2, 1, of(dims(1, 2, 3), 0, 0, 0, 0, 0, 0)},
		{counted(1, 1, 4), of(dims(1, 1, 3, 2), 1, 1, 1, 10, 1, 1), 3, 1, of(dims(1, 1, 2), 10, 43)},
		{of(dims(1, 1, 1), 6), of(dims(1, 1, 1, 1), -7), 1, 0, of(dims(1, 1, 1), -42)},
		{of(dims(1, 1, 1), 6), of(dims(1, 1, 2, 2), 1, 2, 3, 4), 1, 1, of(dims(1, 2, 2), 24, 18, 12, 6)},
		{of(dims(1, 1, 1), 6), of(dims(1, 1, 3, 3), 1, 2, 3, 4, 5, 6, 7, 8, 9), 8, 8, of(dims(1, 2, 2), 0, 0, 0, 6)},
	} {
		expectWindow(t, c.t, c.w, c.step, c.pad, c.want)
	}
}

// TestWrapsRoundByHand: products that wrap round, sums that do, and sums that come back, over c, over rows and over columns.
func TestWrapsRoundByHand(t *testing.T) {
	for _, c := range []struct {
		image, filter []int32
		want          int32
	}{
		{[]int32{greatest}, []int32{greatest}, 1},
		{[]int32{least}, []int32{least}, 0},
		{[]int32{least}, []int32{-1}, least},
		{[]int32{-1}, []int32{least}, least},
		{[]int32{least}, []int32{greatest}, least},
		{[]int32{greatest}, []int32{2}, -2},
		{[]int32{65536}, []int32{65536}, 0},
		{[]int32{65535}, []int32{65537}, -1},
		{[]int32{46341}, []int32{46341}, -2147479015},
		{[]int32{46340}, []int32{46340}, 2147395600},
		{[]int32{greatest, 1}, []int32{1, 1}, least},
		{[]int32{least, -1}, []int32{1, 1}, greatest},
		{[]int32{least, least}, []int32{1, 1}, 0},
		{[]int32{greatest, greatest}, []int32{greatest, greatest}, 2},
		{[]int32{greatest, 1, -1}, []int32{1, 1, 1}, greatest},
		{[]int32{1 << 30, 1 << 30, 1 << 30, 1 << 30}, []int32{1, 1, 1, 1}, 0},
		{[]int32{1 << 30, 1 << 30, 1 << 30}, []int32{1, 1, 1}, -1 << 30},
		{[]int32{1 << 30, 5}, []int32{4, 7}, 35},
	} {
		n, want := len(c.image), of(dims(1, 1, 1), c.want)
		expectWindow(t, of(dims(n, 1, 1), c.image...), of(dims(1, n, 1, 1), c.filter...), 1, 0, want)
		expectWindow(t, of(dims(1, n, 1), c.image...), of(dims(1, 1, n, 1), c.filter...), 1, 0, want)
		expectWindow(t, of(dims(1, 1, n), c.image...), of(dims(1, 1, 1, n), c.filter...), 1, 0, want)
	}
}

// TestOneNumberByOneNumber: each number at the edges with each.
func TestOneNumberByOneNumber(t *testing.T) {
	for _, x := range edgeNumbers() {
		for _, y := range edgeNumbers() {
			want := of(dims(1, 1, 1), plainWrap(int64(x)*int64(y)))
			expectWindow(t, of(dims(1, 1, 1), x), of(dims(1, 1, 1, 1), y), 1, 0, want)
		}
	}
}

// TestSumsOfOneNumber: as many of the same product as a filter may have numbers.
func TestSumsOfOneNumber(t *testing.T) {
	for _, x := range edgeNumbers() {
		for _, y := range []int32{0, 1, -1, 2, least, greatest} {
			want := of(dims(1, 1, 1), plainWrap(4096*int64(plainWrap(int64(x)*int64(y)))))
			expectWindow(t, alike(x, 64, 8, 8), alike(y, 1, 64, 8, 8), 1, 0, want)
			expectWindow(t, alike(x, 1, 64, 64), alike(y, 1, 1, 64, 64), 8, 0, want)
		}
	}
}

func TestOfSomeCalls(t *testing.T) {
	for _, c := range someCalls() {
		expectOf(t, c.image(1), c.filters(2), c.step, c.pad)
		expectOf(t, edgeOf(3, c.t...), edgeOf(11, c.w...), c.step, c.pad)
	}
}

// someSides are pairs of rows and columns.
func someSides(most int) [][2]int {
	var all [][2]int
	for rows := 1; rows <= most; rows++ {
		for columns := 1; columns <= most; columns++ {
			all = append(all, [2]int{rows, columns})
		}
	}
	return all
}

// TestSmallImagesAndFilters: any rows and columns of both, with filters up to two longer than the image, at strides and paddings between and at the limits.
func TestSmallImagesAndFilters(t *testing.T) {
	for _, image := range someSides(4) {
		x := mixedOf(1, 2, image[0], image[1])
		for _, filter := range someSides(6) {
			w := mixedOf(2, 2, 2, filter[0], filter[1])
			for _, step := range []int{1, 2, 3, 8} {
				for _, pad := range []int{0, 1, 2, 8} {
					if filter[0] > image[0]+2*pad || filter[1] > image[1]+2*pad {
						expectNoOf(t, x, w, step, pad, api.ErrShape)
					} else {
						expectOf(t, x, w, step, pad)
					}
				}
			}
		}
	}
}

// TestEachStrideAndPadding, with rows and columns that are left over, and with such that are not.
func TestEachStrideAndPadding(t *testing.T) {
	for _, s := range [][]int{{1, 9, 9}, {2, 10, 17}, {1, 1, 20}, {1, 20, 1}} {
		for _, filter := range [][2]int{{1, 1}, {1, 2}, {3, 1}, {5, 4}} {
			x, w := mixedOf(1, s...), mixedOf(2, 2, s[0], filter[0], filter[1])
			for step := 1; step <= 8; step++ {
				for pad := range 9 {
					if s[1]+2*pad < filter[0] || s[2]+2*pad < filter[1] {
						expectNoOf(t, x, w, step, pad, api.ErrShape)
					} else {
						expectOf(t, x, w, step, pad)
					}
				}
			}
		}
	}
}

// TestRowsAndColumnsLeftOver: what no filter covers is not in the result.
func TestRowsAndColumnsLeftOver(t *testing.T) {
	x, far := counted(1, 5, 5), counted(1, 5, 5)
	for i := range far.L {
		if i%5 == 4 || i/5 == 4 {
			far.L[i] = least
		}
	}
	want := of(dims(1, 2, 2), 16, 24, 56, 64)
	expectWindow(t, x, alike(1, 1, 1, 2, 2), 2, 0, want)
	expectWindow(t, far, alike(1, 1, 1, 2, 2), 2, 0, want)
}

// TestNothingButPadding: a filter that the padding alone lies under makes a 0, whatever its numbers are.
func TestNothingButPadding(t *testing.T) {
	for _, number := range edgeNumbers() {
		x, w := of(dims(1, 1, 1), 5), alike(number, 1, 1, 8, 8)
		want := alike(0, 1, 10, 10)
		for y := 1; y <= 8; y++ {
			for z := 1; z <= 8; z++ {
				want.L[10*y+z] = plainWrap(5 * int64(number))
			}
		}
		expectWindow(t, x, w, 1, 8, want)
		double := plainWrap(2 * int64(number))
		expectWindow(t, alike(1, 1, 2, 3), alike(number, 1, 1, 8, 1), 8, 8, withNumberAt(alike(0, 1, 2, 3), 4, double))
		expectWindow(t, alike(number, 1, 1, 1), alike(number, 1, 1, 1, 1), 8, 4, alike(0, 1, 2, 2))
	}
}

// TestFiltersAsGreatAsTheImage: there is one position, and with one more row or column there is none.
func TestFiltersAsGreatAsTheImage(t *testing.T) {
	for _, s := range [][]int{{1, 1, 1}, {1, 1, 5}, {1, 5, 1}, {2, 3, 4}, {3, 4, 3}} {
		for _, pad := range []int{0, 1, 2, 8} {
			for _, step := range []int{1, 8} {
				x, rows, columns := mixedOf(1, s...), s[1]+2*pad, s[2]+2*pad
				w := mixedOf(2, 1, s[0], rows, columns)
				expectOf(t, x, w, step, pad)
				expectShape(t, call{x.Shape, w.Shape, step, pad}, dims(1, 1, 1))
				expectNoOf(t, x, mixedOf(2, 1, s[0], rows+1, columns), step, pad, api.ErrShape)
				expectNoOf(t, x, mixedOf(2, 1, s[0], rows, columns+1), step, pad, api.ErrShape)
				expectNoOf(t, x, mixedOf(2, 1, s[0], rows+1, 1), step, pad, api.ErrShape)
				expectNoOf(t, x, mixedOf(2, 1, s[0], 1, columns+1), step, pad, api.ErrShape)
			}
		}
	}
}

// TestEachNumberComesFromItsPlaces: with a single 1 on either side, it is told which number of the image meets which one of the filters, and where their product stands.
func TestEachNumberComesFromItsPlaces(t *testing.T) {
	image, filters := dims(2, 3, 4), dims(2, 2, 2, 3)
	for _, c := range [][2]int{{1, 0}, {1, 1}, {2, 1}, {3, 2}} {
		for i := range product(image) {
			for j := range product(filters) {
				x, w := onlyOne(i, image...), onlyOne(j, filters...)
				expectWindow(t, x, w, c[0], c[1], whereTheyMeet(i, j, c[0], c[1]))
			}
		}
	}
}

// whereTheyMeet is the result for an image of 2, 3 and 4 with a single 1, and for filters of 2, 2, 2 and 3 with a single 1.
func whereTheyMeet(i, j, step, pad int) api.Tensor {
	s, _ := plainShape(dims(2, 3, 4), dims(2, 2, 2, 3), step, pad)
	result := alike(0, s...)
	if i/12 != j/6%2 {
		return result
	}
	for y := range s[1] {
		for x := range s[2] {
			if y*step-pad+j/3%2 == i/4%3 && x*step-pad+j%3 == i%4 {
				result.L[(j/12*s[1]+y)*s[2]+x] = 1
			}
		}
	}
	return result
}

// TestEachFilterByItself: several filters make, one after the other, what each makes alone.
func TestEachFilterByItself(t *testing.T) {
	for _, c := range someCalls() {
		x, w := c.image(1), c.filters(2)
		s, _ := plainShape(c.t, c.w, c.step, c.pad)
		together := of(s)
		for filter := range slices.Chunk(w.L, product(c.w[1:])) {
			alone := convolved(t, x, of(dims(1, c.w[1], c.w[2], c.w[3]), filter...), c.step, c.pad)
			together.L = append(together.L, alone.L...)
		}
		expectWindow(t, x, w, c.step, c.pad, together)
	}
}

// TestEachCByItself: what several c make is the sum of what each makes alone.
func TestEachCByItself(t *testing.T) {
	for _, c := range [][]int{{2, 3, 4, 2, 2}, {5, 4, 3, 3, 1}, {64, 2, 2, 1, 2}} {
		x, w := mixedOf(1, c[0], c[1], c[2]), edgeOf(4, 1, c[0], c[3], c[4])
		sheets := slices.Collect(slices.Chunk(w.L, c[3]*c[4]))
		all := convolved(t, of(dims(1, c[1], c[2]), x.L[:c[1]*c[2]]...), of(dims(1, 1, c[3], c[4]), sheets[0]...), 1, 1)
		for i, sheet := range sheets[1:] {
			from := (i + 1) * c[1] * c[2]
			one := of(dims(1, c[1], c[2]), x.L[from:from+c[1]*c[2]]...)
			all = sum(t, all, convolved(t, one, of(dims(1, 1, c[3], c[4]), sheet...), 1, 1))
		}
		expectWindow(t, x, w, 1, 1, all)
	}
}

// TestResultsAtMaxSize: of MaxSize numbers, and just above, by filters, by rows and by columns.
func TestResultsAtMaxSize(t *testing.T) {
	for _, c := range []struct {
		t, w []int
		pad  int
		fits bool
	}{
		{dims(1, 64, 64), dims(1, 1, 1, 1), 0, true}, {dims(1, 8, 8), dims(64, 1, 1, 1), 0, true}, {dims(1, 6, 6), dims(64, 1, 1, 1), 1, true}, {dims(64, 8, 8), dims(64, 64, 1, 1), 0, true},
		{dims(2, 32, 32), dims(4, 2, 3, 3), 1, true}, {dims(1, 1, 64), dims(64, 1, 1, 1), 0, true}, {dims(1, 64, 1), dims(64, 1, 1, 1), 0, true}, {dims(1, 63, 63), dims(1, 1, 2, 2), 1, true},
		{dims(1, 8, 9), dims(64, 1, 1, 1), 0, false}, {dims(1, 9, 8), dims(64, 1, 1, 1), 0, false}, {dims(1, 41, 50), dims(2, 1, 1, 1), 0, false}, {dims(2, 32, 32), dims(5, 2, 3, 3), 1, false},
		{dims(1, 64, 64), dims(2, 1, 1, 1), 0, false}, {dims(1, 64, 64), dims(1, 1, 2, 1), 1, false}, {dims(1, 64, 64), dims(1, 1, 1, 2), 1, false},
	} {
		x, w := mixedOf(1, c.t...), mixedOf(2, c.w...)
		if c.fits {
			expectOf(t, x, w, 1, c.pad)
		} else {
			expectNoOf(t, x, w, 1, c.pad, api.ErrShape)
		}
	}
}

// TestResultsOfMoreThanMaxDimPositions: 64 along a side are a shape, 65 are none, however few numbers there are in all.
func TestResultsOfMoreThanMaxDimPositions(t *testing.T) {
	for long := 1; long <= 18; long++ {
		for pad := range 9 {
			wide, high := call{dims(1, 1, 64), dims(1, 1, 1+2*pad, long), 1, pad}, call{dims(1, 64, 1), dims(1, 1, long, 1+2*pad), 1, pad}
			if many := 64 + 2*pad - long + 1; many > 64 {
				expectNoShape(t, wide, api.ErrShape)
				expectNoShape(t, high, api.ErrShape)
				expectNoOf(t, wide.image(1), wide.filters(2), 1, pad, api.ErrShape)
				expectNoOf(t, high.image(1), high.filters(2), 1, pad, api.ErrShape)
			} else {
				expectShape(t, wide, dims(1, 1, many))
				expectShape(t, high, dims(1, many, 1))
				expectOf(t, wide.image(1), wide.filters(2), 1, pad)
				expectOf(t, high.image(1), high.filters(2), 1, pad)
			}
		}
	}
}

// TestOneOfTwoIsInvalid: the first one or the second one, whether the rest would fit or not.
func TestOneOfTwoIsInvalid(t *testing.T) {
	image, filters := mixedOf(1, 1, 3, 3), mixedOf(2, 1, 1, 2, 2)
	for _, x := range notTensors() {
		expectNoOf(t, x, filters, 1, 0, api.ErrArg)
		expectNoOf(t, image, x, 1, 0, api.ErrArg)
		for _, y := range []api.Tensor{image, filters, mixedOf(1, 3, 3), mixedOf(1, 5), mixedOf(2, 2, 2, 2, 2), mixedOf(1, 64, 8, 8)} {
			expectNoOf(t, x, y, 1, 1, api.ErrArg)
			expectNoOf(t, y, x, 1, 1, api.ErrArg)
			expectNoOf(t, x, y, 0, 9, api.ErrArg)
		}
	}
}

func TestBothAreInvalid(t *testing.T) {
	all := notTensors()
	for _, x := range all {
		for _, y := range all {
			expectNoOf(t, x, y, 1, 1, api.ErrArg)
		}
	}
}

// TestTheWrongCountOfNumbers: shapes that fit do not help.
func TestTheWrongCountOfNumbers(t *testing.T) {
	x, w := mixedOf(1, 2, 3, 3), mixedOf(2, 2, 2, 2, 2)
	for many := range 3 * len(x.L) {
		if many != len(x.L) {
			expectNoOf(t, of(x.Shape, mixed(many, 1)...), w, 1, 0, api.ErrArg)
			expectNoPool(t, of(x.Shape, mixed(many, 1)...), 1, api.ErrArg)
		}
		if many != len(w.L) {
			expectNoOf(t, x, of(w.Shape, mixed(many, 2)...), 1, 0, api.ErrArg)
		}
	}
}

// TestOfWhereShapeAnswersAnError: what Of answers, too.
func TestOfWhereShapeAnswersAnError(t *testing.T) {
	for _, c := range misfits() {
		expectNoOf(t, c.image(1), c.filters(2), c.step, c.pad, api.ErrShape)
		for _, step := range notSteps() {
			expectNoOf(t, c.image(1), c.filters(2), step, c.pad, api.ErrArg)
		}
		for _, pad := range notPads() {
			expectNoOf(t, c.image(1), c.filters(2), c.step, pad, api.ErrArg)
		}
	}
	for _, c := range someCalls() {
		for _, step := range notSteps() {
			expectNoOf(t, c.image(1), c.filters(2), step, c.pad, api.ErrArg)
		}
		for _, pad := range notPads() {
			expectNoOf(t, c.image(1), c.filters(2), c.step, pad, api.ErrArg)
		}
	}
}

// TestTheSameTensorTwice: none is both an image and filters.
func TestTheSameTensorTwice(t *testing.T) {
	for _, c := range slices.Concat(someCalls(), misfits()) {
		for _, x := range []api.Tensor{c.image(1), c.filters(2)} {
			expectNoOf(t, x, x, 1, 0, api.ErrShape)
			expectNoOf(t, x, x, 1, 8, api.ErrShape)
			expectNoOf(t, x, x, 9, 0, api.ErrArg)
		}
	}
	for _, x := range notTensors() {
		expectNoOf(t, x, x, 1, 0, api.ErrArg)
	}
}

// P8.2

// TestPoolByHand: results that were worked out by hand.
func TestPoolByHand(t *testing.T) {
	for _, c := range []struct {
		t    api.Tensor
		wide int
		want api.Tensor
	}{
		{counted(1, 4, 4), 2, of(dims(1, 2, 2), 6, 8, 14, 16)},
		{counted(2, 3, 2), 2, of(dims(2, 1, 1), 4, 10)},
		{counted(1, 3, 3), 3, of(dims(1, 1, 1), 9)},
		{counted(1, 3, 3), 1, counted(1, 3, 3)},
		{counted(1, 5, 7), 2, of(dims(1, 2, 3), 9, 11, 13, 23, 25, 27)},
		{counted(1, 5, 7), 3, of(dims(1, 1, 2), 17, 20)},
		{counted(1, 2, 6), 2, of(dims(1, 1, 3), 8, 10, 12)},
		{counted(1, 6, 2), 2, of(dims(1, 3, 1), 4, 8, 12)},
		{of(dims(1, 2, 2), -5, -2, -9, least), 2, of(dims(1, 1, 1), -2)},
		{of(dims(1, 2, 2), least, least, least, least), 2, of(dims(1, 1, 1), least)},
		{of(dims(1, 2, 2), least, greatest, -1, 0), 2, of(dims(1, 1, 1), greatest)},
		{of(dims(1, 2, 4), 9, 1, -3, -4, 2, 3, -5, -6), 2, of(dims(1, 1, 2), 9, -3)},
		{of(dims(2, 2, 2), -1, 1, 0, 0, -1, -1, 0, -1), 2, of(dims(2, 1, 1), 1, 0)},
	} {
		expectPooled(t, c.t, c.wide, c.want)
	}
}

// TestPoolOfEachSide: squares from 1 to as wide as the image, and one wider; also such that rows and columns are left over.
func TestPoolOfEachSide(t *testing.T) {
	for _, sides := range someSides(7) {
		for _, c := range []int{1, 3} {
			for wide := 1; wide <= 8; wide++ {
				for _, x := range []api.Tensor{mixedOf(1, c, sides[0], sides[1]), edgeOf(2, c, sides[0], sides[1]), belowZero(c, sides[0], sides[1])} {
					if wide > sides[0] || wide > sides[1] {
						expectNoPool(t, x, wide, api.ErrShape)
					} else {
						expectPool(t, x, wide)
					}
				}
			}
		}
	}
}

// belowZero is an image whose numbers are all below 0.
func belowZero(s ...int) api.Tensor {
	x := mixedOf(7, s...)
	for i, number := range x.L {
		x.L[i] = min(number, -1-number)
	}
	return x
}

func TestPoolOfGreatImages(t *testing.T) {
	for _, s := range [][]int{{1, 64, 64}, {64, 8, 8}, {4, 32, 32}, {1, 64, 63}, {2, 31, 64}, {64, 1, 64}, {64, 64, 1}, {64, 1, 1}} {
		for wide := 1; wide <= 64; wide++ {
			if wide > s[1] || wide > s[2] {
				expectNoPool(t, mixedOf(1, s...), wide, api.ErrShape)
				continue
			}
			expectPool(t, mixedOf(1, s...), wide)
			expectPool(t, belowZero(s...), wide)
		}
		for _, wide := range notWides() {
			expectNoPool(t, mixedOf(1, s...), wide, api.ErrArg)
		}
	}
}

// TestPoolOfOneNumberAllOver: also of the least one, the greatest one and those below 0.
func TestPoolOfOneNumberAllOver(t *testing.T) {
	for _, number := range edgeNumbers() {
		expectPooled(t, alike(number, 2, 5, 6), 2, alike(number, 2, 2, 3))
		expectPooled(t, alike(number, 1, 64, 64), 64, alike(number, 1, 1, 1))
		expectPooled(t, alike(number, 1, 1, 1), 1, alike(number, 1, 1, 1))
	}
}

// TestEachNumberIsInItsSquare: the greatest number of the image is the greatest of one square, and of none if it is in the rows and columns that are left over.
func TestEachNumberIsInItsSquare(t *testing.T) {
	const c, h, w = 2, 5, 7
	for _, number := range []int32{5, greatest, -1, least + 1} {
		for wide := 1; wide <= 5; wide++ {
			for i := range c * h * w {
				x := withNumberAt(alike(least, c, h, w), i, number)
				rows, columns := h/wide, w/wide
				want := alike(least, c, rows, columns)
				if y, z := i/w%h/wide, i%w/wide; y < rows && z < columns {
					want.L[(i/(h*w)*rows+y)*columns+z] = number
				}
				expectPooled(t, x, wide, want)
			}
		}
	}
}

// TestPoolWherePoolShapeAnswersAnError: what Pool answers, too; an invalid tensor comes first.
func TestPoolWherePoolShapeAnswersAnError(t *testing.T) {
	for _, s := range [][]int{{1}, {64}, {1, 1}, {3, 3}, {64, 64}, {1, 1, 1, 1}, {1, 1, 3, 3}, {1, 3, 3, 1}, {8, 8, 8, 8}} {
		for _, wide := range []int{1, 2, 3, 4, 63, 64} {
			expectNoPool(t, mixedOf(1, s...), wide, api.ErrShape)
		}
		for _, wide := range notWides() {
			expectNoPool(t, mixedOf(1, s...), wide, api.ErrArg)
		}
	}
	for _, x := range notTensors() {
		for _, wide := range append(notWides(), 1, 2, 63, 64) {
			expectNoPool(t, x, wide, api.ErrArg)
		}
	}
}

// P8.3

func TestShapeOfSomeCalls(t *testing.T) {
	for _, c := range someCalls() {
		want, _ := plainShape(c.t, c.w, c.step, c.pad)
		expectShape(t, c, want)
	}
}

// TestShapeByHand: positions that were counted by hand.
func TestShapeByHand(t *testing.T) {
	for _, c := range []struct {
		call
		want []int
	}{
		{call{dims(1, 3, 3), dims(1, 1, 2, 2), 1, 0}, dims(1, 2, 2)},
		{call{dims(1, 3, 3), dims(2, 1, 4, 1), 1, 1}, dims(2, 2, 5)},
		{call{dims(1, 3, 3), dims(1, 1, 1, 1), 2, 0}, dims(1, 2, 2)},
		{call{dims(1, 4, 4), dims(1, 1, 1, 1), 2, 0}, dims(1, 2, 2)},
		{call{dims(1, 5, 4), dims(1, 1, 1, 1), 2, 0}, dims(1, 3, 2)},
		{call{dims(1, 1, 1), dims(1, 1, 1, 1), 8, 8}, dims(1, 3, 3)},
		{call{dims(1, 1, 1), dims(1, 1, 1, 1), 1, 8}, dims(1, 17, 17)},
		{call{dims(5, 64, 9), dims(7, 5, 1, 2), 8, 0}, dims(7, 8, 1)},
		{call{dims(5, 9, 64), dims(7, 5, 2, 1), 8, 0}, dims(7, 1, 8)},
		{call{dims(1, 64, 64), dims(1, 1, 64, 1), 8, 8}, dims(1, 3, 10)},
	} {
		expectShape(t, c.call, c.want)
	}
}

// TestShapeOfEachStrideAndPadding: the limits, what is beside them, and what is far off.
func TestShapeOfEachStrideAndPadding(t *testing.T) {
	for _, s := range []call{{dims(1, 3, 3), dims(1, 1, 2, 2), 0, 0}, {dims(3, 17, 30), dims(2, 3, 4, 1), 0, 0}, {dims(1, 1, 1), dims(1, 1, 5, 5), 0, 0}, {dims(1, 64, 64), dims(1, 1, 3, 3), 0, 0}} {
		for step := -2; step <= 11; step++ {
			for pad := -2; pad <= 11; pad++ {
				expectPlainShape(t, call{s.t, s.w, step, pad})
			}
			for _, pad := range notPads() {
				expectNoShape(t, call{s.t, s.w, step, pad}, api.ErrArg)
			}
		}
		for _, step := range notSteps() {
			for pad := -1; pad <= 9; pad++ {
				expectNoShape(t, call{s.t, s.w, step, pad}, api.ErrArg)
			}
		}
	}
}

func TestShapeOfMisfits(t *testing.T) {
	for _, c := range misfits() {
		expectNoShape(t, c, api.ErrShape)
	}
}

// TestErrArgOfShapeComesFirst: also where the shapes would not fit, and where two things are wrong.
func TestErrArgOfShapeComesFirst(t *testing.T) {
	for _, c := range slices.Concat(someCalls(), misfits()) {
		expectNoShape(t, call{c.t, c.w, 0, c.pad}, api.ErrArg)
		expectNoShape(t, call{c.t, c.w, 9, c.pad}, api.ErrArg)
		expectNoShape(t, call{c.t, c.w, c.step, -1}, api.ErrArg)
		expectNoShape(t, call{c.t, c.w, c.step, 9}, api.ErrArg)
		for _, s := range notShapes() {
			expectNoShape(t, call{s, c.w, c.step, c.pad}, api.ErrArg)
			expectNoShape(t, call{c.t, s, c.step, c.pad}, api.ErrArg)
			expectNoShape(t, call{s, s, 9, -1}, api.ErrArg)
		}
	}
}

// TestShapeOfLongLists: lists that are far longer than a shape.
func TestShapeOfLongLists(t *testing.T) {
	long := slices.Repeat([]int{1}, 1<<20)
	expectNoShape(t, call{long, dims(1, 1, 1, 1), 1, 0}, api.ErrArg)
	expectNoShape(t, call{dims(1, 1, 1), long, 1, 0}, api.ErrArg)
	expectNoPoolShape(t, long, 1, api.ErrArg)
}

// TestShapeAtTheLimits of one dimension, in each of the seven places.
func TestShapeAtTheLimits(t *testing.T) {
	for _, dim := range []int{math.MinInt, math.MinInt32, -64, -1, 0, 1, 2, 3, 4, 62, 63, 64, 65, 66, 128, 257, 4096, 1<<32 + 1, math.MaxInt} {
		for _, pad := range []int{0, 1, 8} {
			for _, step := range []int{1, 7, 8} {
				for place := range 3 {
					s := dims(1, 3, 3)
					s[place] = dim
					expectPlainShape(t, call{s, dims(1, 1, 2, 2), step, pad})
					expectPlainPoolShape(t, s, step)
				}
				for place := range 4 {
					s := dims(1, 1, 2, 2)
					s[place] = dim
					expectPlainShape(t, call{dims(1, 3, 3), s, step, pad})
				}
				expectPlainShape(t, call{dims(dim, 3, 3), dims(2, dim, 2, 2), step, pad})
				expectPlainShape(t, call{dims(1, dim, 3), dims(2, 1, dim, 2), step, pad})
				expectPlainShape(t, call{dims(1, 3, dim), dims(2, 1, 2, dim), step, pad})
			}
		}
	}
}

// lists are all lists of these numbers, up to a length.
func lists(numbers []int, length int) [][]int {
	all := [][]int{nil}
	last := all
	for range length {
		var longer [][]int
		for _, l := range last {
			for _, n := range numbers {
				longer = append(longer, append(slices.Clone(l), n))
			}
		}
		all = append(all, longer...)
		last = longer
	}
	return all
}

// TestShapeAsTheDocumentWordsIt: any two lists of up to five numbers.
func TestShapeAsTheDocumentWordsIt(t *testing.T) {
	all := lists([]int{0, 1, 3, 64}, 4)
	all = append(all, dims(1, 1, 1, 1, 1), dims(1, 1, 3, 3, 1))
	for _, x := range all {
		for _, w := range all {
			for _, c := range [][2]int{{1, 0}, {2, 1}, {8, 8}, {9, 0}} {
				expectPlainShape(t, call{x, w, c[0], c[1]})
			}
		}
	}
}

// TestShapeOfEachSide: any rows of images and of filters, and any columns of them.
func TestShapeOfEachSide(t *testing.T) {
	for image := 1; image <= 64; image++ {
		for filter := 1; filter <= 64; filter++ {
			for _, c := range [][2]int{{1, 0}, {1, 1}, {1, 8}, {2, 0}, {3, 1}, {7, 5}, {8, 8}} {
				expectPlainShape(t, call{dims(1, image, 1), dims(1, 1, filter, 1), c[0], c[1]})
				expectPlainShape(t, call{dims(1, 1, image), dims(1, 1, 1, filter), c[0], c[1]})
			}
		}
	}
}

// TestPoolShapeOfEachSide, with squares from one below the limit to one above it.
func TestPoolShapeOfEachSide(t *testing.T) {
	for side := 1; side <= 64; side++ {
		for wide := 0; wide <= 65; wide++ {
			expectPlainPoolShape(t, dims(1, side, side), wide)
			expectPlainPoolShape(t, dims(2, side, 32), wide)
			expectPlainPoolShape(t, dims(2, 32, side), wide)
			expectPlainPoolShape(t, dims(side, 8, 7), wide)
		}
	}
	expectPoolShape(t, dims(5, 7, 9), 2, dims(5, 3, 4))
	expectPoolShape(t, dims(5, 7, 9), 7, dims(5, 1, 1))
	expectPoolShape(t, dims(1, 64, 64), 64, dims(1, 1, 1))
	expectPoolShape(t, dims(1, 64, 64), 1, dims(1, 64, 64))
	expectNoPoolShape(t, dims(1, 64, 63), 64, api.ErrShape)
	expectNoPoolShape(t, dims(1, 63, 64), 64, api.ErrShape)
	expectNoPoolShape(t, dims(1, 64, 64), 65, api.ErrArg)
	expectNoPoolShape(t, dims(1, 64, 64), 0, api.ErrArg)
}

// TestPoolShapeAsTheDocumentWordsIt: any list of up to five numbers, and what is no shape.
func TestPoolShapeAsTheDocumentWordsIt(t *testing.T) {
	for _, s := range append(lists([]int{0, 1, 2, 3, 64, 65}, 5), notShapes()...) {
		for _, wide := range append(notWides(), 1, 2, 3, 4, 63, 64) {
			expectPlainPoolShape(t, s, wide)
		}
	}
}

// P8.4

// convolved is what Of returns where it must return something.
func convolved(t *testing.T, x, w api.Tensor, step, pad int) api.Tensor {
	t.Helper()
	result, e := windows.Of(x, w, step, pad)
	if e != api.OK {
		t.Fatalf("Of(%v.., %v.., %d, %d): %d", short(x), short(w), step, pad, e)
	}
	return result
}

// sum is the element-wise sum of two tensors with the same shape.
func sum(t *testing.T, a, b api.Tensor) api.Tensor {
	t.Helper()
	x, e := maths.Add(a, b)
	if e != api.OK {
		t.Fatalf("Add(%v.., %v..): %d", short(a), short(b), e)
	}
	return x
}

// times is a tensor whose numbers are all multiplied by the same one.
func times(t *testing.T, x api.Tensor, number int32) api.Tensor {
	t.Helper()
	y, e := maths.Mul(x, alike(number, x.Shape...))
	if e != api.OK {
		t.Fatalf("Mul(%v.., %d): %d", short(x), number, e)
	}
	return y
}

func expectEqual(t *testing.T, law string, a, b api.Tensor) {
	t.Helper()
	if !plainSame(a, b) {
		t.Errorf("%s: %v.. and %v..", law, short(a), short(b))
	}
}

// someOf are tensors of the same shape, with numbers of all kinds.
func someOf(s []int) []api.Tensor {
	return []api.Tensor{mixedOf(1, s...), mixedOf(2, s...), edgeOf(0, s...), edgeOf(11, s...), alike(greatest, s...), alike(least, s...), alike(-1, s...), alike(0, s...), alike(1, s...)}
}

func TestConvolutionIsLinearInImages(t *testing.T) {
	for _, c := range smallCalls() {
		w := edgeOf(5, c.w...)
		for _, x := range someOf(c.t) {
			first := convolved(t, x, w, c.step, c.pad)
			for _, y := range someOf(c.t) {
				second := convolved(t, y, w, c.step, c.pad)
				expectEqual(t, "sums of images", convolved(t, sum(t, x, y), w, c.step, c.pad), sum(t, first, second))
			}
			for _, number := range edgeNumbers() {
				expectEqual(t, "multiples of images", convolved(t, times(t, x, number), w, c.step, c.pad), times(t, first, number))
			}
		}
	}
}

func TestConvolutionIsLinearInFilters(t *testing.T) {
	for _, c := range smallCalls() {
		x := edgeOf(5, c.t...)
		for _, v := range someOf(c.w) {
			first := convolved(t, x, v, c.step, c.pad)
			for _, w := range someOf(c.w) {
				second := convolved(t, x, w, c.step, c.pad)
				expectEqual(t, "sums of filters", convolved(t, x, sum(t, v, w), c.step, c.pad), sum(t, first, second))
			}
			for _, number := range edgeNumbers() {
				expectEqual(t, "multiples of filters", convolved(t, x, times(t, v, number), c.step, c.pad), times(t, first, number))
			}
		}
	}
}

// smallCalls are those of someCalls that take little time.
func smallCalls() []call {
	return slices.DeleteFunc(someCalls(), func(c call) bool { return product(c.t)*product(c.w) > 10000 })
}

// TestConvolutionOfGreatOnesIsLinear, in both.
func TestConvolutionOfGreatOnesIsLinear(t *testing.T) {
	for _, c := range someCalls() {
		x, y, v, w := c.image(1), edgeOf(2, c.t...), c.filters(3), edgeOf(4, c.w...)
		all := sum(t, sum(t, convolved(t, x, v, c.step, c.pad), convolved(t, x, w, c.step, c.pad)), sum(t, convolved(t, y, v, c.step, c.pad), convolved(t, y, w, c.step, c.pad)))
		expectEqual(t, "sums of both", convolved(t, sum(t, x, y), sum(t, v, w), c.step, c.pad), all)
	}
}

// TestOneNumberIsAProductWithIt: a filter of one by one number, with the stride 1. With padding, zeros lie around.
func TestOneNumberIsAProductWithIt(t *testing.T) {
	for _, s := range [][]int{{1, 1, 1}, {1, 1, 9}, {1, 9, 1}, {1, 4, 5}, {1, 64, 64}} {
		for _, x := range someOf(s) {
			for _, number := range edgeNumbers() {
				expectWindow(t, x, of(dims(1, 1, 1, 1), number), 1, 0, times(t, x, number))
			}
		}
	}
	for pad := range 9 {
		x := mixedOf(1, 1, 4, 5)
		want := of(dims(1, 4+2*pad, 5+2*pad), slices.Concat(bordered(sheetsOf(times(t, x, -3))[0], pad)...)...)
		expectWindow(t, x, of(dims(1, 1, 1, 1), -3), 1, pad, want)
	}
}

// TestSquaresOfOneNumberChangeNothing: whatever the image is.
func TestSquaresOfOneNumberChangeNothing(t *testing.T) {
	for _, c := range someCalls() {
		for _, x := range someOf(c.t) {
			expectPooled(t, x, 1, x)
		}
	}
}

// R1

// FuzzAll: R1 and P8.1 to P8.3 for any two tensors and any numbers: no call panics, and an error comes alone.
func FuzzAll(f *testing.F) {
	f.Add([]byte(nil), 0, []byte(nil), 0, 0, 0, uint32(0))
	f.Add([]byte{1, 3, 3}, 9, []byte{1, 1, 2, 2}, 4, 1, 0, uint32(1))
	f.Add([]byte{2, 3, 4}, 24, []byte{3, 2, 2, 3}, 36, 2, 1, uint32(2))
	f.Add([]byte{2, 3, 4}, 23, []byte{3, 2, 2, 3}, 36, 2, 1, uint32(3))
	f.Add([]byte{2, 3, 4}, 24, []byte{3, 2, 2, 3}, 37, 2, 1, uint32(3))
	f.Add([]byte{1, 64, 64}, 4096, []byte{1, 1, 64, 64}, 4096, 1, 8, uint32(4))
	f.Add([]byte{1, 3, 3}, 9, []byte{1, 1, 4, 3}, 12, 8, 0, uint32(5))
	f.Add([]byte{1, 3, 3}, 9, []byte{1, 1, 2, 2}, 4, 9, -1, uint32(6))
	f.Add([]byte{1, 3, 3, 1}, 9, []byte{1, 2, 2}, 4, math.MinInt, math.MaxInt, uint32(7))
	f.Add([]byte{1, 65, 1}, 65, []byte{255, 1, 1, 1}, 1, 1, 1, uint32(8))
	f.Fuzz(func(t *testing.T, shapeX []byte, manyX int, shapeW []byte, manyW int, step, pad int, seed uint32) {
		x, w := fuzzTensor(shapeX, manyX, seed), fuzzTensor(shapeW, manyW, seed+1)
		expectPlainShape(t, call{x.Shape, w.Shape, step, pad})
		_, e := plainShape(x.Shape, w.Shape, step, pad)
		switch {
		case !isValid(x) || !isValid(w):
			expectNoOf(t, x, w, step, pad, api.ErrArg)
		case e != api.OK:
			expectNoOf(t, x, w, step, pad, e)
		default:
			expectOf(t, x, w, step, pad)
		}
		fuzzPool(t, x, step)
		fuzzPool(t, w, pad)
	})
}

func fuzzPool(t *testing.T, x api.Tensor, wide int) {
	t.Helper()
	expectPlainPoolShape(t, x.Shape, wide)
	_, e := plainPoolShape(x.Shape, wide)
	switch {
	case !isValid(x):
		expectNoPool(t, x, wide, api.ErrArg)
	case e != api.OK:
		expectNoPool(t, x, wide, e)
	default:
		expectPool(t, x, wide)
	}
}

func fuzzTensor(shape []byte, many int, seed uint32) api.Tensor {
	var s []int
	for _, dim := range shape {
		s = append(s, int(int8(dim)))
	}
	return of(s, mixed(max(0, min(many, 5000)), seed)...)
}
