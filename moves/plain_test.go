package moves_test

import (
	"math"
	"slices"
	"testing"

	"drydock/api"
	"drydock/moves"
)

const (
	least    = math.MinInt32
	greatest = math.MaxInt32
)

// of is a tensor, valid or not, with memory of its own.
func of(s []int, l ...int32) api.Tensor {
	return api.Tensor{Shape: slices.Clone(s), L: slices.Clone(l)}
}

// dims is a shape, and order which dimension comes where.
func dims(s ...int) []int  { return s }
func order(o ...int) []int { return o }

// list is tensors that are joined.
func list(l ...api.Tensor) []api.Tensor { return l }

// product is that of all dimensions; none of the lists here has one that is too great for an int and yet is a size.
func product(s []int) int {
	all := 1
	for _, dim := range s {
		all *= dim
	}
	return all
}

// mixed is n numbers of either sign, small ones and great ones.
func mixed(n int, seed uint32) []int32 {
	l := make([]int32, n)
	x := seed
	for i := range l {
		x = x*1664525 + 1013904223
		l[i] = int32(x) >> (x >> 10 % 31)
	}
	return l
}

// mixedOf is a tensor of mixed numbers.
func mixedOf(seed uint32, s ...int) api.Tensor { return of(s, mixed(product(s), seed)...) }

// counted is a tensor of 1, 2, 3 and so on.
func counted(s ...int) api.Tensor {
	x := of(s)
	for i := range product(s) {
		x.L = append(x.L, int32(i+1))
	}
	return x
}

// alike is a tensor whose numbers are all the same.
func alike(number int32, s ...int) api.Tensor {
	return of(s, slices.Repeat([]int32{number}, product(s))...)
}

// edgeNumbers are those at which a sign or an end is near, and those whose sums just wrap round, or just don't.
func edgeNumbers() []int32 {
	return []int32{
		0, 1, -1, 2, -2, 3, -3, 127, 128, -128, 255, -256, 65535, 65536, -65536, 0x01020304, -0x01020304,
		1<<30 - 1, 1 << 30, 1<<30 + 1, -1<<30 + 1, -1 << 30, -1<<30 - 1, greatest - 1, greatest, least, least + 1,
	}
}

// edgeOf is a tensor whose numbers are those at the edges, over and over from the one that is given.
func edgeOf(from int, s ...int) api.Tensor {
	edges := edgeNumbers()
	x := alike(0, s...)
	for i := range x.L {
		x.L[i] = edges[(from+i)%len(edges)]
	}
	return x
}

// someOf are tensors of the same shape, with numbers of all kinds.
func someOf(s []int) []api.Tensor {
	return list(mixedOf(1, s...), edgeOf(0, s...), edgeOf(11, s...), counted(s...), alike(greatest, s...), alike(least, s...), alike(-1, s...), alike(0, s...), alike(1, s...))
}

// plainWrap is the number of 32 bits that n wraps round to.
func plainWrap(n int64) int32 {
	const all = 1 << 32
	n = (n%all + all) % all
	if n >= all/2 {
		n -= all
	}
	return int32(n)
}

// isShape is the document's definition. The limits stand as numbers; no product of such dimensions is too great for an int.
func isShape(s []int) bool {
	if len(s) < 1 || len(s) > 4 {
		return false
	}
	for _, dim := range s {
		if dim < 1 || dim > 64 {
			return false
		}
	}
	return product(s) <= 4096
}

// isValid is the definition of chapter 5.
func isValid(t api.Tensor) bool { return isShape(t.Shape) && len(t.L) == product(t.Shape) }

// isOrder reports whether the numbers of l, sorted, are those from 0 on.
func isOrder(l []int, many int) bool {
	if len(l) != many {
		return false
	}
	for i, d := range slices.Sorted(slices.Values(l)) {
		if i != d {
			return false
		}
	}
	return true
}

// coordinates are those of a number; behind its dimensions there are zeros.
type coordinates [4]int

// allOf are the coordinates of all numbers of a shape, the last dimension varying fastest.
func allOf(s []int) []coordinates {
	all := []coordinates{{}}
	for d, long := range s {
		var more []coordinates
		for _, at := range all {
			for i := range long {
				at[d] = i
				more = append(more, at)
			}
		}
		all = more
	}
	return all
}

// numbersOf tells where the numbers of a tensor are.
func numbersOf(t api.Tensor) map[coordinates]int32 {
	numbers := map[coordinates]int32{}
	for i, at := range allOf(t.Shape) {
		numbers[at] = t.L[i]
	}
	return numbers
}

// tensorOf is the tensor whose numbers are there.
func tensorOf(s []int, numbers map[coordinates]int32) api.Tensor {
	t := of(s)
	for _, at := range allOf(s) {
		t.L = append(t.L, numbers[at])
	}
	return t
}

// plainShape is P9.1 as the document words it.
func plainShape(t api.Tensor, s []int) (api.Tensor, api.Errno) {
	switch {
	case !isValid(t) || !isShape(s):
		return api.Tensor{}, 1
	case product(t.Shape) != product(s):
		return api.Tensor{}, 10
	}
	return of(s, t.L...), 0
}

// plainTurn is P9.2 as the document words it: it puts each number at its coordinates in another order.
func plainTurn(t api.Tensor, o []int) (api.Tensor, api.Errno) {
	if !isValid(t) || !isOrder(o, len(t.Shape)) {
		return api.Tensor{}, 1
	}
	var s []int
	for _, d := range o {
		s = append(s, t.Shape[d])
	}
	turned := map[coordinates]int32{}
	for at, number := range numbersOf(t) {
		var to coordinates
		for i, d := range o {
			to[i] = at[d]
		}
		turned[to] = number
	}
	return tensorOf(s, turned), 0
}

// plainJoin is P9.3 as the document words it: it puts the numbers of each tensor behind those of the ones before it.
func plainJoin(l []api.Tensor, along int) (api.Tensor, api.Errno) {
	if len(l) < 1 || len(l) > 4 || slices.ContainsFunc(l, func(t api.Tensor) bool { return !isValid(t) }) || along < 0 || along >= len(l[0].Shape) {
		return api.Tensor{}, 1
	}
	others := func(s []int) []int { return slices.Delete(slices.Clone(s), along, along+1) }
	s := slices.Clone(l[0].Shape)
	for _, t := range l[1:] {
		if len(t.Shape) != len(s) || !slices.Equal(others(t.Shape), others(s)) {
			return api.Tensor{}, 10
		}
		s[along] += t.Shape[along]
	}
	if !isShape(s) {
		return api.Tensor{}, 10
	}
	joined, ahead := map[coordinates]int32{}, 0
	for _, t := range l {
		for at, number := range numbersOf(t) {
			at[along] += ahead
			joined[at] = number
		}
		ahead += t.Shape[along]
	}
	return tensorOf(s, joined), 0
}

// plainSum is P9.4 as the document words it: it adds each number where its coordinates without that dimension are.
func plainSum(t api.Tensor, along int) (api.Tensor, api.Errno) {
	if !isValid(t) || along < 0 || along >= len(t.Shape) {
		return api.Tensor{}, 1
	}
	s := slices.Delete(slices.Clone(t.Shape), along, along+1)
	sums := map[coordinates]int32{}
	for at, number := range numbersOf(t) {
		var to coordinates
		copy(to[:], slices.Delete(slices.Clone(at[:]), along, along+1))
		sums[to] = plainWrap(int64(sums[to]) + int64(number))
	}
	if len(s) == 0 {
		s = dims(1)
	}
	return tensorOf(s, sums), 0
}

func plainSame(a, b api.Tensor) bool {
	return slices.Equal(a.Shape, b.Shape) && slices.Equal(a.L, b.L)
}

// someShapes have one to four dimensions, among them 1 and MaxDim, and from one number to MaxSize of them.
func someShapes() [][]int {
	return [][]int{
		{1}, {2}, {3}, {7}, {63}, {64},
		{1, 1}, {1, 5}, {5, 1}, {2, 3}, {3, 2}, {3, 3}, {5, 7}, {1, 64}, {64, 1}, {64, 3}, {63, 64}, {64, 64},
		{1, 1, 1}, {1, 2, 3}, {2, 1, 3}, {2, 3, 1}, {2, 3, 4}, {4, 3, 2}, {3, 3, 3}, {5, 2, 7}, {1, 1, 64}, {1, 64, 1}, {64, 1, 1}, {2, 64, 3}, {64, 1, 64}, {8, 64, 8}, {16, 16, 16},
		{1, 1, 1, 1}, {1, 2, 1, 3}, {2, 1, 3, 1}, {2, 3, 4, 5}, {5, 4, 3, 2}, {3, 5, 2, 4}, {2, 2, 2, 2}, {1, 1, 1, 64}, {64, 1, 1, 1}, {3, 1, 64, 2}, {1, 64, 64, 1}, {64, 2, 16, 2}, {8, 8, 8, 8},
	}
}

// notShapes are lists that are no shape. The least product above MaxSize that there is, is 4100.
func notShapes() [][]int {
	return [][]int{
		nil, {}, {0}, {-1}, {65}, {128}, {4096}, {math.MinInt}, {math.MaxInt}, {1<<32 + 1},
		{0, 0}, {2, 0}, {0, 2}, {-1, -1}, {-2, -3}, {1, 65}, {65, 1}, {2, 65}, {math.MinInt, 2}, {1 << 32, 1 << 32},
		{0, 1, 1}, {1, 0, 1}, {1, 1, 0}, {65, 1, 1}, {1, 65, 1}, {1, 1, 65}, {-1, -1, 6}, {-2, 3, -1}, {41, 50, 2}, {2, 41, 50}, {64, 64, 2}, {64, 2, 64}, {1, math.MaxInt, 3},
		{0, 1, 1, 1}, {1, 1, 1, 0}, {65, 1, 1, 1}, {1, 1, 1, 65}, {-1, -1, -2, -3}, {8, 8, 8, 9}, {2, 1, 41, 50}, {1, 64, 64, 2}, {64, 64, 64, 64}, {1 << 32, 1, 1 << 32, 1},
		{1, 1, 1, 1, 1}, {1, 1, 2, 3, 1}, {2, 3, 1, 1, 1}, {0, 0, 0, 0, 0}, slices.Repeat([]int{1}, 1000),
	}
}

// notTensors are invalid: what is no shape, with as many numbers as its product, with one, or with none; and shapes with no number, with one too few, and with one too many.
func notTensors() []api.Tensor {
	all := list(api.Tensor{})
	for _, s := range notShapes() {
		all = append(all, of(s), of(s, 1))
		if many := product(s); many > 1 && many <= 1<<13 {
			all = append(all, of(s, mixed(many, 3)...))
		}
	}
	for _, s := range [][]int{{1}, {6}, {64}, {2, 3}, {3, 2}, {64, 64}, {1, 1, 1}, {1, 2, 3}, {2, 1, 3, 1}, {8, 8, 8, 8}} {
		l := mixed(product(s)+1, 4)
		all = append(all, of(s), of(s, l[:product(s)-1]...), of(s, l...))
	}
	return all
}

// notDimensions are none of so many dimensions: beside them, or far off.
func notDimensions(many int) []int {
	return []int{-1, -2, -many, -many - 1, many, many + 1, 64, 256, 1 << 32, -1 << 32, math.MaxInt, math.MinInt}
}

// orders are all of so many dimensions.
func orders(many int) [][]int {
	if many == 0 {
		return [][]int{nil}
	}
	var all [][]int
	for _, o := range orders(many - 1) {
		for i := range many {
			all = append(all, slices.Insert(slices.Clone(o), i, many-1))
		}
	}
	return all
}

// inverse is the order that undoes o.
func inverse(o []int) []int {
	back := make([]int, len(o))
	for i, d := range o {
		back[d] = i
	}
	return back
}

func isNothing(t api.Tensor) bool { return len(t.Shape) == 0 && len(t.L) == 0 }

// short is a tensor as a message shows it.
func short(t api.Tensor) api.Tensor {
	t.Shape = t.Shape[:min(len(t.Shape), 8)]
	t.L = t.L[:min(len(t.L), 8)]
	return t
}

func shortList(l []api.Tensor) []api.Tensor {
	var all []api.Tensor
	for _, t := range l[:min(len(l), 6)] {
		all = append(all, short(t))
	}
	return all
}

// answer is what a call returns.
type answer struct {
	t api.Tensor
	e api.Errno
}

func answerOf(t api.Tensor, e api.Errno) answer { return answer{t, e} }

// good is an answer without an error, and bad one with nothing but that (R2).
func good(t api.Tensor) answer { return answer{t, api.OK} }
func bad(e api.Errno) answer   { return answer{api.Tensor{}, e} }

func expectAnswer(t *testing.T, got, want answer, name string, given ...any) {
	t.Helper()
	switch {
	case want.e != api.OK && (got.e != want.e || !isNothing(got.t)):
		t.Errorf("%s %v: %v.., %d; want the error %d and nothing else", name, given, short(got.t), got.e, want.e)
	case want.e == api.OK && (got.e != api.OK || !plainSame(got.t, want.t)):
		t.Errorf("%s %v: %v.., %d numbers, %d; want %v.., %d numbers", name, given, short(got.t), len(got.t.L), got.e, short(want.t), len(want.t.L))
	}
}

func expectShape(t *testing.T, x api.Tensor, s []int, want answer) {
	t.Helper()
	expectAnswer(t, answerOf(moves.Shape(x, s)), want, "Shape", short(x), s[:min(len(s), 8)])
}

func expectTurn(t *testing.T, x api.Tensor, o []int, want answer) {
	t.Helper()
	expectAnswer(t, answerOf(moves.Turn(x, o)), want, "Turn", short(x), o[:min(len(o), 8)])
}

func expectJoin(t *testing.T, l []api.Tensor, along int, want answer) {
	t.Helper()
	expectAnswer(t, answerOf(moves.Join(l, along)), want, "Join", shortList(l), along)
}

func expectSum(t *testing.T, x api.Tensor, along int, want answer) {
	t.Helper()
	expectAnswer(t, answerOf(moves.Sum(x, along)), want, "Sum", short(x), along)
}

// The next four ask for what the document says, an error or none.

func expectPlainShape(t *testing.T, x api.Tensor, s []int) {
	t.Helper()
	expectShape(t, x, s, answerOf(plainShape(x, s)))
}

func expectPlainTurn(t *testing.T, x api.Tensor, o []int) {
	t.Helper()
	expectTurn(t, x, o, answerOf(plainTurn(x, o)))
}

func expectPlainJoin(t *testing.T, l []api.Tensor, along int) {
	t.Helper()
	expectJoin(t, l, along, answerOf(plainJoin(l, along)))
}

func expectPlainSum(t *testing.T, x api.Tensor, along int) {
	t.Helper()
	expectSum(t, x, along, answerOf(plainSum(x, along)))
}

// The next four are what a call returns where it must return something.

func shaped(t *testing.T, x api.Tensor, s []int) api.Tensor {
	t.Helper()
	y, e := moves.Shape(x, s)
	return must(t, "Shape", y, e)
}

func turned(t *testing.T, x api.Tensor, o []int) api.Tensor {
	t.Helper()
	y, e := moves.Turn(x, o)
	return must(t, "Turn", y, e)
}

func joined(t *testing.T, along int, l ...api.Tensor) api.Tensor {
	t.Helper()
	y, e := moves.Join(l, along)
	return must(t, "Join", y, e)
}

func summed(t *testing.T, x api.Tensor, along int) api.Tensor {
	t.Helper()
	y, e := moves.Sum(x, along)
	return must(t, "Sum", y, e)
}

func must(t *testing.T, name string, x api.Tensor, e api.Errno) api.Tensor {
	t.Helper()
	if e != api.OK {
		t.Fatalf("%s: %d", name, e)
	}
	return x
}
