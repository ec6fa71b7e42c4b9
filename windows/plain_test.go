package windows_test

import (
	"math"
	"slices"
	"testing"

	"drydock/api"
	"drydock/windows"
)

// of is a tensor, valid or not, with memory of its own.
func of(s []int, l ...int32) api.Tensor {
	return api.Tensor{Shape: slices.Clone(s), L: slices.Clone(l)}
}

// dims is a shape.
func dims(s ...int) []int { return s }

// product is that of all dimensions; none of the lists here has one that is too great for an int and yet is a size.
func product(s []int) int {
	all := 1
	for _, dim := range s {
		all *= dim
	}
	return all
}

// mixed is n numbers of either sign, small ones and great ones.
func mixed(n int, seed uint32) []int32 {
	l := make([]int32, n)
	x := seed
	for i := range l {
		x = x*1664525 + 1013904223
		l[i] = int32(x) >> (x >> 10 % 31)
	}
	return l
}

// mixedOf is a tensor of mixed numbers.
func mixedOf(seed uint32, s ...int) api.Tensor { return of(s, mixed(product(s), seed)...) }

// counted is a tensor of 1, 2, 3 and so on.
func counted(s ...int) api.Tensor {
	x := of(s)
	for i := range product(s) {
		x.L = append(x.L, int32(i+1))
	}
	return x
}

// alike is a tensor whose numbers are all the same.
func alike(number int32, s ...int) api.Tensor {
	return of(s, slices.Repeat([]int32{number}, product(s))...)
}

// withNumberAt is a copy of x with another number at one index.
func withNumberAt(x api.Tensor, index int, number int32) api.Tensor {
	y := of(x.Shape, x.L...)
	y.L[index] = number
	return y
}

// onlyOne is a tensor of zeros with a 1 at one index.
func onlyOne(index int, s ...int) api.Tensor { return withNumberAt(alike(0, s...), index, 1) }

// edgeNumbers are those at which a sign or an end is near, and those whose products just wrap round, or just don't.
func edgeNumbers() []int32 {
	return []int32{
		0, 1, -1, 2, -2, 3, -3, 127, 128, -128, 255, -256, 46340, 46341, -46340, -46341, 65535, 65536, -65536, 0x01020304, -0x01020304,
		1<<30 - 1, 1 << 30, 1<<30 + 1, -1 << 30, math.MaxInt32 - 1, math.MaxInt32, math.MinInt32, math.MinInt32 + 1,
	}
}

// edgeOf is a tensor whose numbers are those at the edges, over and over from the one that is given.
func edgeOf(from int, s ...int) api.Tensor {
	edges := edgeNumbers()
	x := alike(0, s...)
	for i := range x.L {
		x.L[i] = edges[(from+i)%len(edges)]
	}
	return x
}

// plainWrap is the number of 32 bits that n wraps round to.
func plainWrap(n int64) int32 {
	const all = 1 << 32
	n = (n%all + all) % all
	if n >= all/2 {
		n -= all
	}
	return int32(n)
}

// isShape is the document's definition. The limits stand as numbers; no product of such dimensions is too great for an int.
func isShape(s []int) bool {
	if len(s) < 1 || len(s) > 4 {
		return false
	}
	for _, dim := range s {
		if dim < 1 || dim > 64 {
			return false
		}
	}
	return product(s) <= 4096
}

// isValid is the definition of chapter 5.
func isValid(t api.Tensor) bool { return isShape(t.Shape) && len(t.L) == product(t.Shape) }

// steps is how many steps there are, the first place included, till what is that long reaches beyond all.
func steps(all, long, step int) int {
	n := 0
	for from := 0; from+long <= all; from += step {
		n++
	}
	return n
}

// plainShape is P8.3 as the document words it.
func plainShape(t, w []int, step, pad int) ([]int, api.Errno) {
	switch {
	case !isShape(t) || !isShape(w) || step < 1 || step > 8 || pad < 0 || pad > 8:
		return nil, 1
	case len(t) != 3 || len(w) != 4 || t[0] != w[1]:
		return nil, 10
	case t[1]+2*pad < w[2] || t[2]+2*pad < w[3]:
		return nil, 10
	}
	s := []int{w[0], steps(t[1]+2*pad, w[2], step), steps(t[2]+2*pad, w[3], step)}
	if !isShape(s) {
		return nil, 10
	}
	return s, 0
}

// plainPoolShape is P8.3 as the document words it.
func plainPoolShape(t []int, wide int) ([]int, api.Errno) {
	switch {
	case !isShape(t) || wide < 1 || wide > 64:
		return nil, 1
	case len(t) != 3 || t[1] < wide || t[2] < wide:
		return nil, 10
	}
	return []int{t[0], steps(t[1], wide, wide), steps(t[2], wide, wide)}, 0
}

// sheetsOf cuts a tensor along its last two dimensions: into sheets of rows.
func sheetsOf(t api.Tensor) [][][]int32 {
	last := t.Shape[len(t.Shape)-2:]
	rows := slices.Collect(slices.Chunk(t.L, last[1]))
	return slices.Collect(slices.Chunk(rows, last[0]))
}

// bordered is a sheet with so many zeros on each side.
func bordered(sheet [][]int32, pad int) [][]int32 {
	var all [][]int32
	side, edge := make([]int32, pad), make([]int32, len(sheet[0])+2*pad)
	for range pad {
		all = append(all, edge)
	}
	for _, row := range sheet {
		all = append(all, slices.Concat(side, row, side))
	}
	for range pad {
		all = append(all, edge)
	}
	return all
}

// plainOf is P8.1 for an image and filters that fit: it lays the zeros around the image, and then each filter on it.
func plainOf(t, w api.Tensor, step, pad int) api.Tensor {
	s, _ := plainShape(t.Shape, w.Shape, step, pad)
	result := of(s)
	var image [][][]int32
	for _, sheet := range sheetsOf(t) {
		image = append(image, bordered(sheet, pad))
	}
	for filter := range slices.Chunk(sheetsOf(w), w.Shape[1]) {
		for top := 0; top+w.Shape[2] <= len(image[0]); top += step {
			for left := 0; left+w.Shape[3] <= len(image[0][0]); left += step {
				result.L = append(result.L, plainSum(image, filter, top, left))
			}
		}
	}
	return result
}

func plainSum(image, filter [][][]int32, top, left int) int32 {
	sum := int32(0)
	for c, sheet := range filter {
		for i, row := range sheet {
			for j, number := range row {
				sum = plainWrap(int64(sum) + int64(plainWrap(int64(number)*int64(image[c][top+i][left+j]))))
			}
		}
	}
	return sum
}

// plainPool is P8.2 for an image that has squares so wide.
func plainPool(t api.Tensor, wide int) api.Tensor {
	s, _ := plainPoolShape(t.Shape, wide)
	result := of(s)
	for _, sheet := range sheetsOf(t) {
		for top := 0; top+wide <= len(sheet); top += wide {
			for left := 0; left+wide <= len(sheet[0]); left += wide {
				var square []int32
				for _, row := range sheet[top : top+wide] {
					square = append(square, row[left:left+wide]...)
				}
				result.L = append(result.L, slices.Max(square))
			}
		}
	}
	return result
}

func plainSame(a, b api.Tensor) bool {
	return slices.Equal(a.Shape, b.Shape) && slices.Equal(a.L, b.L)
}

// call is what a call of Of or of Shape is given, but for the numbers.
type call struct {
	t, w      []int
	step, pad int
}

// someCalls have a result: images of one row, of one column and of one number, filters of one by one number, as great as the image, and as great as that with its padding, several filters and several c, strides that leave rows and columns over, and results of MaxSize numbers.
func someCalls() []call {
	return []call{
		{dims(1, 1, 1), dims(1, 1, 1, 1), 1, 0}, {dims(1, 1, 1), dims(1, 1, 1, 1), 8, 8}, {dims(1, 1, 1), dims(1, 1, 17, 17), 1, 8}, {dims(1, 1, 1), dims(2, 1, 3, 2), 1, 1},
		{dims(1, 1, 7), dims(1, 1, 1, 1), 1, 0}, {dims(2, 1, 7), dims(3, 2, 1, 3), 2, 0}, {dims(2, 1, 7), dims(1, 2, 3, 2), 1, 1}, {dims(1, 1, 64), dims(1, 1, 1, 64), 8, 0},
		{dims(1, 7, 1), dims(1, 1, 1, 1), 1, 0}, {dims(2, 7, 1), dims(3, 2, 3, 1), 2, 0}, {dims(2, 7, 1), dims(1, 2, 2, 3), 1, 1}, {dims(1, 64, 1), dims(1, 1, 64, 1), 8, 0},
		{dims(1, 3, 3), dims(1, 1, 2, 2), 1, 0}, {dims(1, 3, 3), dims(1, 1, 2, 2), 2, 0}, {dims(1, 3, 3), dims(1, 1, 2, 2), 2, 1}, {dims(1, 3, 3), dims(1, 1, 3, 3), 1, 0}, {dims(1, 3, 3), dims(1, 1, 5, 5), 1, 1},
		{dims(3, 4, 5), dims(2, 3, 2, 3), 1, 0}, {dims(3, 4, 5), dims(2, 3, 3, 2), 1, 2}, {dims(3, 4, 5), dims(2, 3, 4, 5), 1, 0}, {dims(3, 4, 5), dims(2, 3, 8, 9), 3, 2}, {dims(3, 5, 4), dims(2, 3, 1, 2), 3, 1},
		{dims(2, 10, 13), dims(2, 2, 3, 3), 4, 0}, {dims(2, 10, 13), dims(2, 2, 2, 1), 8, 8}, {dims(2, 10, 13), dims(2, 2, 1, 4), 7, 3}, {dims(4, 6, 6), dims(5, 4, 3, 3), 1, 1},
		{dims(64, 1, 1), dims(64, 64, 1, 1), 1, 0}, {dims(64, 8, 8), dims(1, 64, 8, 8), 1, 0}, {dims(64, 8, 8), dims(64, 64, 1, 1), 1, 0}, {dims(1, 8, 8), dims(64, 1, 1, 1), 1, 0},
		{dims(1, 64, 64), dims(1, 1, 1, 1), 1, 0}, {dims(1, 64, 64), dims(1, 1, 3, 3), 1, 1}, {dims(1, 64, 64), dims(1, 1, 17, 17), 1, 8}, {dims(1, 64, 64), dims(1, 1, 64, 64), 1, 8},
	}
}

// image and filters are tensors for a call.
func (c call) image(seed uint32) api.Tensor   { return mixedOf(seed, c.t...) }
func (c call) filters(seed uint32) api.Tensor { return mixedOf(seed, c.w...) }

// misfits are calls with shapes, a stride and a padding that Shape lets pass each by itself, but not together.
func misfits() []call {
	return []call{
		{dims(1), dims(1, 1, 1, 1), 1, 0}, {dims(3, 3), dims(1, 1, 1, 1), 1, 0}, {dims(1, 1, 3, 3), dims(1, 1, 1, 1), 1, 0}, {dims(1, 3, 3, 1), dims(1, 1, 1, 1), 1, 0},
		{dims(1, 3, 3), dims(1), 1, 0}, {dims(1, 3, 3), dims(1, 1), 1, 0}, {dims(1, 3, 3), dims(1, 1, 1), 1, 0}, {dims(1, 3, 3), dims(1, 2, 2), 1, 0},
		{dims(1, 1), dims(1, 1, 1), 1, 0}, {dims(1, 1, 1, 1), dims(1, 1, 1), 1, 0}, {dims(1, 1, 1, 1), dims(1, 1, 1, 1), 1, 0}, {dims(1, 1, 1), dims(1, 1, 1), 1, 0},
		{dims(1, 3, 3), dims(1, 2, 2, 2), 1, 0}, {dims(2, 3, 3), dims(1, 1, 2, 2), 1, 0}, {dims(2, 3, 3), dims(2, 1, 2, 2), 1, 0}, {dims(2, 3, 3), dims(2, 3, 2, 2), 1, 0}, {dims(3, 2, 2), dims(3, 2, 2, 2), 1, 0}, {dims(64, 2, 2), dims(1, 63, 2, 2), 1, 0},
		{dims(1, 3, 3), dims(1, 1, 4, 3), 1, 0}, {dims(1, 3, 3), dims(1, 1, 3, 4), 1, 0}, {dims(1, 3, 3), dims(1, 1, 4, 4), 8, 0}, {dims(1, 3, 3), dims(1, 1, 6, 5), 1, 1}, {dims(1, 3, 3), dims(1, 1, 5, 6), 8, 1},
		{dims(1, 3, 4), dims(1, 1, 4, 3), 1, 0}, {dims(1, 4, 3), dims(1, 1, 3, 4), 1, 0}, {dims(1, 1, 1), dims(1, 1, 18, 17), 1, 8}, {dims(1, 1, 1), dims(1, 1, 17, 18), 8, 8}, {dims(1, 1, 1), dims(1, 1, 64, 64), 8, 8},
		{dims(1, 1, 64), dims(1, 1, 1, 1), 1, 1}, {dims(1, 64, 1), dims(1, 1, 1, 1), 1, 1}, {dims(1, 1, 64), dims(1, 1, 1, 2), 1, 1}, {dims(1, 64, 1), dims(1, 1, 2, 1), 1, 1}, {dims(1, 64, 64), dims(1, 1, 16, 17), 1, 8}, {dims(1, 64, 64), dims(1, 1, 17, 16), 1, 8}, {dims(1, 64, 64), dims(1, 1, 1, 1), 1, 8},
		{dims(1, 8, 9), dims(64, 1, 1, 1), 1, 0}, {dims(1, 9, 8), dims(64, 1, 1, 1), 1, 0}, {dims(1, 64, 64), dims(2, 1, 1, 1), 1, 0}, {dims(1, 8, 8), dims(64, 1, 1, 1), 1, 1}, {dims(1, 41, 50), dims(2, 1, 1, 1), 1, 0}, {dims(64, 8, 8), dims(64, 64, 1, 1), 1, 1},
	}
}

// notShapes are lists that are no shape, many of them of three or of four dimensions. The least product above MaxSize that there is, is 4100.
func notShapes() [][]int {
	return [][]int{
		nil, {}, {0}, {-1}, {65}, {math.MinInt}, {math.MaxInt}, {0, 0}, {2, 0}, {64, 65}, {math.MinInt, 2}, {1 << 32, 1 << 32},
		{0, 1, 1}, {1, 0, 1}, {1, 1, 0}, {0, 0, 0}, {65, 1, 1}, {1, 65, 1}, {1, 1, 65}, {65, 65, 65}, {-1, 3, 3}, {1, -3, 3}, {1, 3, -3}, {-1, -1, 1}, {math.MinInt, 3, 3}, {1, math.MaxInt, 3}, {1 << 32, 1 << 32, 1}, {257, 3, 3},
		{41, 50, 2}, {2, 41, 50}, {64, 64, 2}, {64, 2, 64}, {2, 64, 64}, {64, 64, 64},
		{0, 1, 1, 1}, {1, 0, 1, 1}, {1, 1, 0, 1}, {1, 1, 1, 0}, {0, 0, 0, 0}, {65, 1, 1, 1}, {1, 65, 1, 1}, {1, 1, 65, 1}, {1, 1, 1, 65}, {-1, 1, 2, 2}, {1, -1, 2, 2}, {1, 1, -2, -2}, {1, 1, 2, math.MinInt}, {1 << 32, 1, 1 << 32, 1},
		{8, 8, 8, 9}, {2, 1, 41, 50}, {1, 2, 64, 64}, {2, 1, 64, 64}, {64, 64, 64, 64},
		{1, 1, 1, 1, 1}, {1, 1, 3, 3, 1}, {0, 0, 0, 0, 0}, slices.Repeat([]int{1}, 1000),
	}
}

// notTensors are invalid: what is no shape, with as many numbers as its product, with one, or with none; and shapes of images and of filters with no number, with one too few, and with one too many.
func notTensors() []api.Tensor {
	all := []api.Tensor{{}}
	for _, s := range notShapes() {
		all = append(all, of(s), of(s, 1))
		if many := product(s); many > 1 && many <= 1<<13 {
			all = append(all, of(s, mixed(many, 3)...))
		}
	}
	for _, s := range [][]int{{1}, {3, 3}, {1, 1, 1}, {1, 3, 3}, {2, 4, 3}, {1, 64, 64}, {1, 1, 1, 1}, {1, 1, 2, 2}, {2, 2, 3, 3}, {8, 8, 8, 8}} {
		l := mixed(product(s)+1, 4)
		all = append(all, of(s), of(s, l[:product(s)-1]...), of(s, l...))
	}
	return all
}

// notSteps and notPads are beside the limits, or far off.
func notSteps() []int { return []int{0, 9, -1, -8, 16, 256 + 1, 1<<32 + 1, math.MaxInt, math.MinInt} }
func notPads() []int {
	return []int{-1, 9, -8, 16, 256, 1 << 32, math.MaxInt, math.MaxInt / 2, math.MinInt, math.MinInt / 2}
}

// notWides are beside the limits, or far off.
func notWides() []int {
	return []int{0, 65, -1, -64, 128, 256 + 1, 1<<32 + 1, math.MaxInt, math.MinInt}
}

func isNothing(t api.Tensor) bool { return len(t.Shape) == 0 && len(t.L) == 0 }

// short is a tensor as a message shows it.
func short(t api.Tensor) api.Tensor {
	t.Shape = t.Shape[:min(len(t.Shape), 8)]
	t.L = t.L[:min(len(t.L), 8)]
	return t
}

func expectShape(t *testing.T, c call, want []int) {
	t.Helper()
	if s, e := windows.Shape(c.t, c.w, c.step, c.pad); e != api.OK || !slices.Equal(s, want) {
		t.Errorf("Shape(%v) = %v, %d; want %v", c, s, e, want)
	}
}

// expectNoShape asks for an error, and for zero values beside it (R2).
func expectNoShape(t *testing.T, c call, want api.Errno) {
	t.Helper()
	if s, e := windows.Shape(c.t, c.w, c.step, c.pad); e != want || len(s) != 0 {
		t.Errorf("Shape(%v) = %v, %d; want %d", c, s, e, want)
	}
}

// expectPlainShape asks for what the document says, an error or none.
func expectPlainShape(t *testing.T, c call) {
	t.Helper()
	if want, e := plainShape(c.t, c.w, c.step, c.pad); e != api.OK {
		expectNoShape(t, c, e)
	} else {
		expectShape(t, c, want)
	}
}

func expectPoolShape(t *testing.T, s []int, wide int, want []int) {
	t.Helper()
	if got, e := windows.PoolShape(s, wide); e != api.OK || !slices.Equal(got, want) {
		t.Errorf("PoolShape(%v, %d) = %v, %d; want %v", s, wide, got, e, want)
	}
}

// expectNoPoolShape asks for an error, and for zero values beside it (R2).
func expectNoPoolShape(t *testing.T, s []int, wide int, want api.Errno) {
	t.Helper()
	if got, e := windows.PoolShape(s, wide); e != want || len(got) != 0 {
		t.Errorf("PoolShape(%v, %d) = %v, %d; want %d", s, wide, got, e, want)
	}
}

// expectPlainPoolShape asks for what the document says, an error or none.
func expectPlainPoolShape(t *testing.T, s []int, wide int) {
	t.Helper()
	if want, e := plainPoolShape(s, wide); e != api.OK {
		expectNoPoolShape(t, s, wide, e)
	} else {
		expectPoolShape(t, s, wide, want)
	}
}

// expectResult asks for a tensor, and tells the first number that differs.
func expectResult(t *testing.T, got api.Tensor, e api.Errno, want api.Tensor) {
	t.Helper()
	if e != api.OK || !slices.Equal(got.Shape, want.Shape) || len(got.L) != len(want.L) {
		t.Errorf("got %v.., %d numbers, %d; want %v.., %d numbers", short(got), len(got.L), e, short(want), len(want.L))
		return
	}
	for i := range want.L {
		if got.L[i] != want.L[i] {
			t.Errorf("the number %d of shape %v is %d; want %d", i, want.Shape, got.L[i], want.L[i])
			return
		}
	}
}

func expectWindow(t *testing.T, x, w api.Tensor, step, pad int, want api.Tensor) {
	t.Helper()
	got, e := windows.Of(x, w, step, pad)
	expectResult(t, got, e, want)
}

// expectOf asks for what the document says of an image and filters that fit.
func expectOf(t *testing.T, x, w api.Tensor, step, pad int) {
	t.Helper()
	expectWindow(t, x, w, step, pad, plainOf(x, w, step, pad))
}

// expectNoOf asks for an error, and for zero values beside it (R2).
func expectNoOf(t *testing.T, x, w api.Tensor, step, pad int, want api.Errno) {
	t.Helper()
	if got, e := windows.Of(x, w, step, pad); e != want || !isNothing(got) {
		t.Errorf("Of(%v.., %d numbers, %v.., %d numbers, %d, %d) = %v.., %d; want %d", short(x), len(x.L), short(w), len(w.L), step, pad, short(got), e, want)
	}
}

func expectPooled(t *testing.T, x api.Tensor, wide int, want api.Tensor) {
	t.Helper()
	got, e := windows.Pool(x, wide)
	expectResult(t, got, e, want)
}

// expectPool asks for what the document says of an image that has squares so wide.
func expectPool(t *testing.T, x api.Tensor, wide int) {
	t.Helper()
	expectPooled(t, x, wide, plainPool(x, wide))
}

// expectNoPool asks for an error, and for zero values beside it (R2).
func expectNoPool(t *testing.T, x api.Tensor, wide int, want api.Errno) {
	t.Helper()
	if got, e := windows.Pool(x, wide); e != want || !isNothing(got) {
		t.Errorf("Pool(%v.., %d numbers, %d) = %v.., %d; want %d", short(x), len(x.L), wide, short(got), e, want)
	}
}
