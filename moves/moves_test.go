package moves_test

import (
	"math"
	"slices"
	"testing"

	"drydock/api"
	"drydock/maths"
	"drydock/moves"
)

func TestExamples(t *testing.T) {
	x := counted(2, 3)
	expectShape(t, x, dims(3, 2), good(of(dims(3, 2), 1, 2, 3, 4, 5, 6)))
	expectTurn(t, x, order(1, 0), good(of(dims(3, 2), 1, 4, 2, 5, 3, 6)))
	expectTurn(t, x, order(0, 0), bad(api.ErrArg))
	expectJoin(t, list(x, x), 1, good(of(dims(2, 6), 1, 2, 3, 1, 2, 3, 4, 5, 6, 4, 5, 6)))
	expectSum(t, x, 0, good(of(dims(3), 5, 7, 9)))
	expectSum(t, x, 1, good(of(dims(2), 6, 15)))
	expectSum(t, counted(3), 0, good(of(dims(1), 6)))
}

// TestErrorNumbers: as the chapter gives them.
func TestErrorNumbers(t *testing.T) {
	if api.ErrArg != 1 || api.ErrShape != 10 || api.OK != 0 {
		t.Error(api.ErrArg, api.ErrShape, api.OK)
	}
	expectShape(t, counted(2, 3), dims(5), bad(10))
	expectShape(t, counted(2, 3), nil, bad(1))
}

// P9.1

// TestShapeOfAnyShape: each one to each other one, whether they have as many numbers or not.
func TestShapeOfAnyShape(t *testing.T) {
	for _, from := range someShapes() {
		x, y := mixedOf(1, from...), edgeOf(3, from...)
		for _, to := range someShapes() {
			expectPlainShape(t, x, to)
			expectPlainShape(t, y, to)
		}
	}
}

func TestShapeByHand(t *testing.T) {
	for _, s := range [][]int{{12}, {1, 12}, {12, 1}, {3, 4}, {4, 3}, {2, 6}, {2, 2, 3}, {3, 1, 4}, {1, 1, 12}, {1, 2, 3, 2}, {3, 2, 1, 2}, {12, 1, 1, 1}} {
		expectShape(t, counted(2, 6), s, good(counted(s...)))
		expectShape(t, counted(3, 2, 1, 2), s, good(counted(s...)))
	}
	expectShape(t, of(dims(1), -5), dims(1, 1, 1, 1), good(of(dims(1, 1, 1, 1), -5)))
	expectShape(t, counted(64, 64), dims(8, 8, 8, 8), good(counted(8, 8, 8, 8)))
	expectShape(t, counted(8, 8, 8, 8), dims(64, 1, 64), good(counted(64, 1, 64)))
}

// TestShapeOfAnotherSize: one number less, one more, and multiples.
func TestShapeOfAnotherSize(t *testing.T) {
	for _, s := range [][]int{{1}, {5}, {7}, {1, 1}, {2, 2}, {2, 4}, {3, 3}, {1, 1, 1}, {1, 1, 5}, {7, 1, 1, 1}, {2, 6}, {64, 64}} {
		expectShape(t, counted(2, 3), s, bad(api.ErrShape))
	}
	for _, s := range [][]int{{1}, {63, 64}, {64, 63}, {8, 8, 8, 7}, {5, 7, 9, 13}} {
		expectShape(t, counted(64, 64), s, bad(api.ErrShape))
	}
	expectShape(t, of(dims(1), 1), dims(2), bad(api.ErrShape))
	expectShape(t, of(dims(1), 1), dims(1, 64, 1), bad(api.ErrShape))
}

// TestShapeOfWhatIsNone: of a shape that is none, also where its product is the tensor's size.
func TestShapeOfWhatIsNone(t *testing.T) {
	for _, x := range list(of(dims(1), 1), counted(6), counted(2, 3), counted(2, 1, 3, 1), counted(64), counted(64, 64)) {
		for _, s := range notShapes() {
			expectShape(t, x, s, bad(api.ErrArg))
		}
	}
	expectShape(t, counted(2, 64), dims(128), bad(api.ErrArg))
	expectShape(t, counted(5, 13), dims(65), bad(api.ErrArg))
	expectShape(t, counted(6), dims(-2, -3), bad(api.ErrArg))
	expectShape(t, counted(6), dims(1, 1, 1, 1, 6), bad(api.ErrArg))
	expectShape(t, counted(6), slices.Repeat(dims(1), 1<<20), bad(api.ErrArg))
}

// TestShapeOfInvalidTensors: before the sizes are asked for.
func TestShapeOfInvalidTensors(t *testing.T) {
	for _, x := range notTensors() {
		for _, s := range append(someShapes(), notShapes()...) {
			expectShape(t, x, s, bad(api.ErrArg))
		}
		expectShape(t, x, x.Shape, bad(api.ErrArg))
	}
}

// P9.2

func TestTurnByHand(t *testing.T) {
	for _, c := range []struct {
		x, want api.Tensor
		o       []int
	}{
		{of(dims(1), 7), of(dims(1), 7), order(0)},
		{counted(4), counted(4), order(0)},
		{counted(2, 3), counted(2, 3), order(0, 1)},
		{counted(3, 2), of(dims(2, 3), 1, 3, 5, 2, 4, 6), order(1, 0)},
		{counted(1, 4), counted(4, 1), order(1, 0)},
		{counted(2, 2, 3), counted(2, 2, 3), order(0, 1, 2)},
		{counted(2, 2, 3), of(dims(2, 3, 2), 1, 4, 2, 5, 3, 6, 7, 10, 8, 11, 9, 12), order(0, 2, 1)},
		{counted(2, 2, 3), of(dims(2, 2, 3), 1, 2, 3, 7, 8, 9, 4, 5, 6, 10, 11, 12), order(1, 0, 2)},
		{counted(2, 2, 3), of(dims(2, 3, 2), 1, 7, 2, 8, 3, 9, 4, 10, 5, 11, 6, 12), order(1, 2, 0)},
		{counted(2, 2, 3), of(dims(3, 2, 2), 1, 4, 7, 10, 2, 5, 8, 11, 3, 6, 9, 12), order(2, 0, 1)},
		{counted(2, 2, 3), of(dims(3, 2, 2), 1, 7, 4, 10, 2, 8, 5, 11, 3, 9, 6, 12), order(2, 1, 0)},
		{counted(1, 2, 1, 3), of(dims(3, 1, 1, 2), 1, 4, 2, 5, 3, 6), order(3, 0, 2, 1)},
		{counted(1, 2, 1, 3), of(dims(1, 1, 2, 3), 1, 2, 3, 4, 5, 6), order(2, 0, 1, 3)},
		{counted(2, 1, 3, 2), of(dims(1, 3, 2, 2), 1, 7, 2, 8, 3, 9, 4, 10, 5, 11, 6, 12), order(1, 2, 3, 0)},
		{counted(2, 1, 3, 2), of(dims(2, 2, 1, 3), 1, 3, 5, 7, 9, 11, 2, 4, 6, 8, 10, 12), order(3, 0, 1, 2)},
		{counted(2, 1, 3, 2), of(dims(2, 3, 1, 2), 1, 7, 3, 9, 5, 11, 2, 8, 4, 10, 6, 12), order(3, 2, 1, 0)},
	} {
		expectTurn(t, c.x, c.o, good(c.want))
	}
}

// TestTurnInEachOrder of each shape.
func TestTurnInEachOrder(t *testing.T) {
	for _, s := range someShapes() {
		for _, o := range orders(len(s)) {
			expectPlainTurn(t, mixedOf(1, s...), o)
			expectPlainTurn(t, edgeOf(5, s...), o)
		}
	}
}

// TestTurnOfEachNumber: a single 1, wherever it is, goes to its coordinates in that order.
func TestTurnOfEachNumber(t *testing.T) {
	for _, s := range [][]int{{5}, {3, 4}, {2, 3, 4}, {2, 3, 4, 5}} {
		for i := range product(s) {
			x := alike(0, s...)
			x.L[i] = 1
			for _, o := range orders(len(s)) {
				expectPlainTurn(t, x, o)
			}
		}
	}
}

// TestOrdersThatAreNone leave a dimension out, name one twice, name one that is not there, are too short, or too long.
func TestOrdersThatAreNone(t *testing.T) {
	for _, s := range someShapes() {
		many := len(s)
		x := mixedOf(1, s...)
		expectTurn(t, x, nil, bad(api.ErrArg))
		expectTurn(t, x, order(), bad(api.ErrArg))
		expectTurn(t, x, slices.Repeat(order(0), 1<<10), bad(api.ErrArg))
		for _, o := range orders(many) {
			expectTurn(t, x, o[:many-1], bad(api.ErrArg))
			expectTurn(t, x, append(slices.Clone(o), many), bad(api.ErrArg))
			expectTurn(t, x, append(slices.Clone(o), -1), bad(api.ErrArg))
			expectTurn(t, x, append(slices.Clone(o), o...), bad(api.ErrArg))
			for i := range o {
				expectTurn(t, x, append(slices.Clone(o), o[i]), bad(api.ErrArg))
				expectOrdersSpoilt(t, x, o, i)
			}
		}
	}
}

// expectOrdersSpoilt asks for an error if another number stands at one place of the order.
func expectOrdersSpoilt(t *testing.T, x api.Tensor, o []int, place int) {
	t.Helper()
	spoilt := slices.Clone(o)
	for _, d := range slices.Concat(o, notDimensions(len(o))) {
		if d != o[place] {
			spoilt[place] = d
			expectTurn(t, x, spoilt, bad(api.ErrArg))
		}
	}
}

// TestAnyListAsAnOrder: of up to five numbers, of those that are dimensions and of those beside them.
func TestAnyListAsAnOrder(t *testing.T) {
	for _, x := range list(counted(2), counted(2, 3), counted(2, 3, 4), counted(2, 3, 4, 5)) {
		for _, o := range lists(order(-1, 0, 1, 2, 3, 4), 5) {
			expectPlainTurn(t, x, o)
		}
	}
}

// lists are all lists of these numbers, up to a length.
func lists(numbers []int, length int) [][]int {
	all := [][]int{nil}
	last := all
	for range length {
		var longer [][]int
		for _, l := range last {
			for _, n := range numbers {
				longer = append(longer, append(slices.Clone(l), n))
			}
		}
		all = append(all, longer...)
		last = longer
	}
	return all
}

func TestTurnOfInvalidTensors(t *testing.T) {
	for _, x := range notTensors() {
		for many := range 5 {
			for _, o := range orders(many) {
				expectTurn(t, x, o, bad(api.ErrArg))
			}
		}
		expectTurn(t, x, order(0, 0), bad(api.ErrArg))
		expectTurn(t, x, order(0, 1, 2, 3, 4), bad(api.ErrArg))
	}
}

// P9.3

func TestJoinByHand(t *testing.T) {
	for _, c := range []struct {
		l     []api.Tensor
		along int
		want  api.Tensor
	}{
		{list(of(dims(1), 7)), 0, of(dims(1), 7)},
		{list(of(dims(1), 7), of(dims(1), 8)), 0, of(dims(2), 7, 8)},
		{list(of(dims(2), 1, 2), of(dims(1), 3), of(dims(3), 4, 5, 6), of(dims(2), 7, 8)), 0, counted(8)},
		{list(counted(2, 3)), 1, counted(2, 3)},
		{list(counted(2, 2), of(dims(1, 2), 5, 6)), 0, counted(3, 2)},
		{list(counted(2, 2), of(dims(2, 1), 5, 6)), 1, of(dims(2, 3), 1, 2, 5, 3, 4, 6)},
		{list(of(dims(2, 1), 5, 6), counted(2, 2)), 1, of(dims(2, 3), 5, 1, 2, 6, 3, 4)},
		{list(counted(1, 2, 2), of(dims(2, 2, 2), 5, 6, 7, 8, 9, 10, 11, 12)), 0, counted(3, 2, 2)},
		{list(counted(2, 1, 2), of(dims(2, 2, 2), 5, 6, 7, 8, 9, 10, 11, 12)), 1, of(dims(2, 3, 2), 1, 2, 5, 6, 7, 8, 3, 4, 9, 10, 11, 12)},
		{list(counted(2, 2, 1), of(dims(2, 2, 2), 5, 6, 7, 8, 9, 10, 11, 12)), 2, of(dims(2, 2, 3), 1, 5, 6, 2, 7, 8, 3, 9, 10, 4, 11, 12)},
		{list(counted(2, 1, 1, 2), of(dims(2, 1, 2, 2), 5, 6, 7, 8, 9, 10, 11, 12)), 2, of(dims(2, 1, 3, 2), 1, 2, 5, 6, 7, 8, 3, 4, 9, 10, 11, 12)},
		{list(counted(2, 1), of(dims(2, 1), 3, 4), of(dims(2, 1), 5, 6), of(dims(2, 1), 7, 8)), 1, of(dims(2, 4), 1, 3, 5, 7, 2, 4, 6, 8)},
	} {
		expectJoin(t, c.l, c.along, good(c.want))
	}
}

// ofLengths are tensors that differ along a dimension alone: so long is each of them there.
func ofLengths(s []int, along int, lengths []int) []api.Tensor {
	var l []api.Tensor
	for i, long := range lengths {
		other := slices.Clone(s)
		other[along] = long
		if i%2 == 0 {
			l = append(l, mixedOf(uint32(i), other...))
		} else {
			l = append(l, edgeOf(i, other...))
		}
	}
	return l
}

// someLengths are those of one to four tensors, of which several are 64 long together, or a little more.
func someLengths() [][]int {
	return [][]int{
		{1}, {2}, {64}, {1, 1}, {1, 2}, {2, 1}, {5, 3}, {32, 32}, {63, 1}, {1, 63}, {64, 1}, {1, 64}, {33, 32}, {64, 64},
		{1, 1, 1}, {1, 2, 3}, {3, 2, 1}, {2, 2, 1}, {62, 1, 1}, {1, 62, 1}, {1, 1, 62}, {20, 21, 23}, {20, 21, 24}, {64, 64, 64},
		{1, 1, 1, 1}, {1, 2, 3, 4}, {4, 3, 2, 1}, {2, 1, 2, 5}, {16, 16, 16, 16}, {16, 16, 16, 17}, {61, 1, 1, 1}, {1, 1, 1, 62}, {64, 64, 64, 64},
	}
}

// TestJoinAlongEachDimension of each shape: also where the result is no shape any more.
func TestJoinAlongEachDimension(t *testing.T) {
	for _, s := range someShapes() {
		for along := range s {
			for _, lengths := range someLengths() {
				l := ofLengths(s, along, lengths)
				if !slices.ContainsFunc(l, func(x api.Tensor) bool { return !isValid(x) }) {
					expectPlainJoin(t, l, along)
				}
			}
		}
	}
}

// TestJoinOfEachNumber: a single 1, in any of the tensors, goes to its place.
func TestJoinOfEachNumber(t *testing.T) {
	for along, all := range [][]api.Tensor{
		list(alike(0, 1, 3, 2), alike(0, 3, 3, 2), alike(0, 2, 3, 2)),
		list(alike(0, 2, 2, 3), alike(0, 2, 1, 3), alike(0, 2, 3, 3)),
		list(alike(0, 2, 3, 1), alike(0, 2, 3, 2), alike(0, 2, 3, 4)),
	} {
		for i := range all {
			for j := range all[i].L {
				all[i].L[j] = 1
				expectPlainJoin(t, all, along)
				all[i].L[j] = 0
			}
		}
	}
}

// TestJoinOfNoneAndOfTooMany: of none, of MaxIn, and of more.
func TestJoinOfNoneAndOfTooMany(t *testing.T) {
	x := counted(2, 3)
	for _, along := range []int{-1, 0, 1, 2} {
		expectJoin(t, nil, along, bad(api.ErrArg))
		expectJoin(t, list(), along, bad(api.ErrArg))
	}
	for many := 1; many <= 4; many++ {
		expectJoin(t, slices.Repeat(list(x), many), 0, good(of(dims(2*many, 3), slices.Repeat(x.L, many)...)))
	}
	for _, many := range []int{5, 6, 8, 64, 256, 257, 1 << 16} {
		for along := range 3 {
			expectJoin(t, slices.Repeat(list(x), many), along, bad(api.ErrArg))
			expectJoin(t, slices.Repeat(list(of(dims(1), 1)), many), along, bad(api.ErrArg))
			expectJoin(t, make([]api.Tensor, many), along, bad(api.ErrArg))
		}
	}
}

// TestJoinAlongNoDimension: of the first one; it is not asked what the others have.
func TestJoinAlongNoDimension(t *testing.T) {
	for _, s := range someShapes() {
		x := mixedOf(1, s...)
		for _, along := range notDimensions(len(s)) {
			expectJoin(t, list(x), along, bad(api.ErrArg))
			expectJoin(t, list(x, x), along, bad(api.ErrArg))
			expectJoin(t, list(x, counted(1, 1, 1, 1)), along, bad(api.ErrArg))
			expectJoin(t, list(x, counted(3), counted(5, 2)), along, bad(api.ErrArg))
		}
	}
	expectJoin(t, list(counted(1), counted(1, 1)), 1, bad(api.ErrArg))
	expectJoin(t, list(counted(1, 1), counted(1)), 1, bad(api.ErrShape))
	expectJoin(t, list(counted(1), counted(1, 1)), 0, bad(api.ErrShape))
}

// TestJoinOfMisfits: with another dimension elsewhere than along it, or with more of them or fewer, in each place of the list.
func TestJoinOfMisfits(t *testing.T) {
	for _, s := range [][]int{{3}, {2, 3}, {3, 3}, {2, 3, 4}, {2, 1, 3, 2}, {1, 1, 1, 1}} {
		x := mixedOf(1, s...)
		for along := range s {
			for d, long := range s {
				for _, other := range []int{1, long - 1, long + 1, 8} {
					if other < 1 || other == long || d == along {
						continue
					}
					misfit := slices.Clone(s)
					misfit[d] = other
					expectMisfit(t, x, mixedOf(2, misfit...), along)
				}
			}
			for place := range len(s) + 1 {
				if len(s) < 4 {
					expectMisfit(t, x, mixedOf(2, slices.Insert(slices.Clone(s), place, 1)...), along)
				}
				if len(s) > 1 && place < len(s) {
					fewer := slices.Delete(slices.Clone(s), place, place+1)
					expectMisfit(t, x, mixedOf(2, fewer...), along)
				}
			}
		}
	}
}

// expectMisfit asks for ErrShape wherever the misfit is; where it is the first one, along may be none of its dimensions.
func expectMisfit(t *testing.T, x, misfit api.Tensor, along int) {
	t.Helper()
	expectJoin(t, list(x, misfit), along, bad(api.ErrShape))
	expectJoin(t, list(x, misfit, x), along, bad(api.ErrShape))
	expectJoin(t, list(x, x, misfit), along, bad(api.ErrShape))
	expectJoin(t, list(x, x, x, misfit), along, bad(api.ErrShape))
	first := api.ErrShape
	if along >= len(misfit.Shape) {
		first = api.ErrArg
	}
	expectJoin(t, list(misfit, x), along, bad(first))
	expectJoin(t, list(misfit, x, x, x), along, bad(first))
}

// TestJoinOfInvalidTensors: the first one, or a later one, before anything that does not fit.
func TestJoinOfInvalidTensors(t *testing.T) {
	x, y, misfit := counted(2, 3), counted(2, 1), counted(3, 2)
	for _, none := range notTensors() {
		for _, along := range []int{-1, 0, 1, 2, 3, 4} {
			for _, l := range [][]api.Tensor{{none}, {none, none}, {none, x}, {x, none}, {x, y, none}, {x, none, y}, {none, x, y, x}, {x, y, x, none}, {x, misfit, none}, {x, none, misfit}, {x, misfit, y, none}, {none, misfit}} {
				expectJoin(t, l, along, bad(api.ErrArg))
			}
		}
	}
	// Too long along the dimension even before the invalid one.
	expectJoin(t, list(counted(64), counted(64), api.Tensor{}), 0, bad(api.ErrArg))
	expectJoin(t, list(counted(64), counted(64), counted(64), of(dims(1))), 0, bad(api.ErrArg))
}

// TestJoinedShapesAtTheLimits: MaxSize numbers and more, MaxDim and more along the dimension.
func TestJoinedShapesAtTheLimits(t *testing.T) {
	for _, c := range []struct {
		l     [][]int
		along int
		fits  bool
	}{
		{[][]int{{63}, {1}}, 0, true}, {[][]int{{64}}, 0, true}, {[][]int{{64}, {1}}, 0, false}, {[][]int{{16}, {16}, {16}, {16}}, 0, true}, {[][]int{{16}, {16}, {17}, {16}}, 0, false}, {[][]int{{64}, {64}, {64}, {64}}, 0, false},
		{[][]int{{64, 32}, {64, 32}}, 1, true}, {[][]int{{64, 32}, {64, 33}}, 1, false}, {[][]int{{32, 64}, {32, 64}}, 0, true}, {[][]int{{33, 64}, {32, 64}}, 0, false}, {[][]int{{1, 64}, {1, 1}}, 1, false}, {[][]int{{64, 1}, {1, 1}}, 0, false}, {[][]int{{1, 64}, {1, 64}}, 0, true},
		{[][]int{{41, 50, 1}, {41, 50, 1}}, 2, false}, {[][]int{{1, 41, 50}, {1, 41, 50}}, 0, false}, {[][]int{{41, 1, 49}, {41, 1, 49}}, 1, true},
		{[][]int{{32, 2, 64}, {32, 2, 64}}, 1, false}, {[][]int{{32, 1, 64}, {32, 1, 64}}, 1, true}, {[][]int{{32, 1, 64}, {32, 1, 64}, {32, 1, 64}}, 1, false}, {[][]int{{1, 64, 64}, {1, 64, 64}}, 0, false}, {[][]int{{64, 64, 1}, {64, 64, 1}}, 2, false},
		{[][]int{{8, 4, 8, 8}, {8, 4, 8, 8}}, 1, true}, {[][]int{{8, 8, 8, 8}, {8, 8, 1, 8}}, 2, false}, {[][]int{{8, 8, 8, 7}, {8, 8, 8, 1}}, 3, true}, {[][]int{{1, 1, 1, 64}, {1, 1, 1, 1}}, 3, false}, {[][]int{{64, 1, 1, 1}, {64, 1, 1, 1}}, 0, false},
	} {
		var l []api.Tensor
		for i, s := range c.l {
			l = append(l, mixedOf(uint32(i), s...))
		}
		if _, e := moves.Join(l, c.along); (e == api.OK) != c.fits {
			t.Errorf("Join of %v along %d: %d", c.l, c.along, e)
		}
		expectPlainJoin(t, l, c.along)
	}
}

// TestErrArgOfJoinComesFirst: where several things are wrong.
func TestErrArgOfJoinComesFirst(t *testing.T) {
	x, misfit, long := counted(2, 3), counted(3, 4), counted(64, 3)
	expectJoin(t, list(x, misfit), 0, bad(api.ErrShape))
	expectJoin(t, list(x, misfit), 2, bad(api.ErrArg))
	expectJoin(t, list(x, misfit), -1, bad(api.ErrArg))
	expectJoin(t, list(x, misfit, x, x, x), 0, bad(api.ErrArg))
	expectJoin(t, list(long, long), 0, bad(api.ErrShape))
	expectJoin(t, list(long, long), 2, bad(api.ErrArg))
	expectJoin(t, list(long, long, api.Tensor{}), 0, bad(api.ErrArg))
	expectJoin(t, list(long, long, long, long, long), 0, bad(api.ErrArg))
	expectJoin(t, list(long, misfit), 0, bad(api.ErrShape))
}

// P9.4

func TestSumByHand(t *testing.T) {
	for _, c := range []struct {
		x     api.Tensor
		along int
		want  api.Tensor
	}{
		{of(dims(1), 7), 0, of(dims(1), 7)},
		{of(dims(2), 7, -9), 0, of(dims(1), -2)},
		{counted(64), 0, of(dims(1), 2080)},
		{counted(1, 3), 0, counted(3)},
		{counted(1, 3), 1, of(dims(1), 6)},
		{counted(3, 1), 0, of(dims(1), 6)},
		{counted(3, 1), 1, counted(3)},
		{counted(2, 2, 3), 0, of(dims(2, 3), 8, 10, 12, 14, 16, 18)},
		{counted(2, 2, 3), 1, of(dims(2, 3), 5, 7, 9, 17, 19, 21)},
		{counted(2, 2, 3), 2, of(dims(2, 2), 6, 15, 24, 33)},
		{counted(1, 1, 1, 1), 2, of(dims(1, 1, 1), 1)},
		{counted(2, 1, 3, 2), 0, of(dims(1, 3, 2), 8, 10, 12, 14, 16, 18)},
		{counted(2, 1, 3, 2), 1, counted(2, 3, 2)},
		{counted(2, 1, 3, 2), 2, of(dims(2, 1, 2), 9, 12, 27, 30)},
		{counted(2, 1, 3, 2), 3, of(dims(2, 1, 3), 3, 7, 11, 15, 19, 23)},
	} {
		expectSum(t, c.x, c.along, good(c.want))
	}
}

// TestSumsWrapRoundByHand: sums that wrap round, and sums that come back, along each of the dimensions.
func TestSumsWrapRoundByHand(t *testing.T) {
	for _, c := range []struct {
		l    []int32
		want int32
	}{
		{[]int32{greatest, 1}, least},
		{[]int32{least, -1}, greatest},
		{[]int32{greatest, greatest}, -2},
		{[]int32{least, least}, 0},
		{[]int32{least, greatest}, -1},
		{[]int32{greatest, 1, -1}, greatest},
		{[]int32{least, -1, 1}, least},
		{[]int32{1 << 30, 1 << 30, 1 << 30, 1 << 30}, 0},
		{[]int32{1 << 30, 1 << 30, 1 << 30}, -1 << 30},
		{[]int32{1 << 30, 1<<30 - 1}, greatest},
		{[]int32{-1 << 30, -1 << 30}, least},
		{[]int32{0, 0, 0}, 0},
		{[]int32{-1, 1}, 0},
	} {
		n, one := len(c.l), c.want
		expectSum(t, of(dims(n), c.l...), 0, good(of(dims(1), one)))
		expectSum(t, of(dims(n, 1), c.l...), 0, good(of(dims(1), one)))
		expectSum(t, of(dims(1, n), c.l...), 1, good(of(dims(1), one)))
		expectSum(t, of(dims(1, n, 1), c.l...), 1, good(of(dims(1, 1), one)))
		expectSum(t, of(dims(1, 1, n, 1), c.l...), 2, good(of(dims(1, 1, 1), one)))
		expectSum(t, of(dims(2, n), slices.Concat(c.l, c.l)...), 1, good(of(dims(2), one, one)))
	}
}

// TestSumsOfOneNumber: as many as there may be along a dimension.
func TestSumsOfOneNumber(t *testing.T) {
	for _, x := range edgeNumbers() {
		for long := 1; long <= 64; long++ {
			want := plainWrap(int64(long) * int64(x))
			expectSum(t, alike(x, long), 0, good(of(dims(1), want)))
			expectSum(t, alike(x, 2, long, 3), 1, good(alike(want, 2, 3)))
		}
	}
}

func TestSumAlongEachDimension(t *testing.T) {
	for _, s := range someShapes() {
		for _, x := range someOf(s) {
			for along := range s {
				expectPlainSum(t, x, along)
			}
		}
	}
}

// TestSumOfEachNumber: a single number is added in one place, wherever it is.
func TestSumOfEachNumber(t *testing.T) {
	for _, s := range [][]int{{5}, {3, 4}, {2, 3, 4}, {2, 3, 4, 5}} {
		for i := range product(s) {
			x := alike(0, s...)
			x.L[i] = least
			for along := range s {
				expectPlainSum(t, x, along)
			}
		}
	}
}

func TestSumAlongNoDimension(t *testing.T) {
	for _, s := range someShapes() {
		for _, along := range notDimensions(len(s)) {
			expectSum(t, mixedOf(1, s...), along, bad(api.ErrArg))
		}
	}
}

func TestSumOfInvalidTensors(t *testing.T) {
	for _, x := range notTensors() {
		for _, along := range append(notDimensions(len(x.Shape)), 0, 1, 2, 3, 4) {
			expectSum(t, x, along, bad(api.ErrArg))
		}
	}
}

// P9.5

func expectEqual(t *testing.T, law string, a, b api.Tensor) {
	t.Helper()
	if !plainSame(a, b) {
		t.Errorf("%s: %v.. and %v..", law, short(a), short(b))
	}
}

// TestAnotherShapeAndBack: the first one again changes nothing.
func TestAnotherShapeAndBack(t *testing.T) {
	for _, s := range someShapes() {
		for _, other := range someShapes() {
			if product(s) != product(other) {
				continue
			}
			for _, x := range someOf(s) {
				expectEqual(t, "another shape and back", shaped(t, shaped(t, x, other), s), x)
			}
		}
	}
}

// TestAnOrderAndItsInverse, the one or the other first.
func TestAnOrderAndItsInverse(t *testing.T) {
	for _, s := range someShapes() {
		for _, o := range orders(len(s)) {
			for _, x := range someOf(s)[:3] {
				expectEqual(t, "an order and its inverse", turned(t, turned(t, x, o), inverse(o)), x)
				expectEqual(t, "an inverse and its order", turned(t, turned(t, x, inverse(o)), o), x)
			}
		}
	}
}

// TestTheOrderThatChangesNothing is from 0 on.
func TestTheOrderThatChangesNothing(t *testing.T) {
	for _, s := range someShapes() {
		for _, x := range someOf(s) {
			expectTurn(t, x, order(0, 1, 2, 3)[:len(s)], good(x))
		}
	}
}

// TestOneOrderAfterAnother is one order: a cycle of three dimensions or of four, as often as it is long, changes nothing, and not before.
func TestOneOrderAfterAnother(t *testing.T) {
	for _, s := range [][]int{{2, 3, 4}, {2, 3, 4, 5}} {
		x := mixedOf(1, s...)
		for _, first := range orders(len(s)) {
			for _, second := range orders(len(s)) {
				var both []int
				for _, i := range second {
					both = append(both, first[i])
				}
				expectEqual(t, "one order after another", turned(t, turned(t, x, first), second), turned(t, x, both))
			}
		}
	}
	x := counted(2, 3, 4, 5)
	y := x
	for n := 1; n <= 4; n++ {
		y = turned(t, y, order(1, 2, 3, 0))
		if plainSame(x, y) != (n == 4) {
			t.Errorf("after %d turns: %v..", n, short(y))
		}
	}
}

// TestSumsAlongTwoDimensions do not depend on which is first.
func TestSumsAlongTwoDimensions(t *testing.T) {
	for _, s := range someShapes() {
		for _, x := range someOf(s) {
			for a := range s {
				for b := range a {
					expectEqual(t, "sums along two dimensions", summed(t, summed(t, x, a), b), summed(t, summed(t, x, b), a-1))
				}
			}
		}
	}
}

// TestSumOfJoined along the dimension of the join is the sum of the sums.
func TestSumOfJoined(t *testing.T) {
	for _, s := range someShapes() {
		for along := range s {
			for _, lengths := range someLengths() {
				l := ofLengths(s, along, lengths)
				whole, e := moves.Join(l, along)
				if e != api.OK {
					continue
				}
				all := summed(t, l[0], along)
				for _, x := range l[1:] {
					all, e = maths.Add(all, summed(t, x, along))
					all = must(t, "Add", all, e)
				}
				expectEqual(t, "the sum of what is joined", summed(t, whole, along), all)
			}
		}
	}
}

// TestSameTensorTwice: as both that are joined, and as all four.
func TestSameTensorTwice(t *testing.T) {
	for _, s := range [][]int{{1}, {5}, {2, 3}, {3, 2, 4}, {2, 1, 3, 2}} {
		x := edgeOf(4, s...)
		for along := range s {
			expectPlainJoin(t, list(x, x), along)
			expectPlainJoin(t, list(x, x, x, x), along)
			double, _ := maths.Add(summed(t, x, along), summed(t, x, along))
			expectEqual(t, "the same twice", summed(t, joined(t, along, x, x), along), double)
		}
		if !plainSame(x, edgeOf(4, s...)) {
			t.Errorf("%v: changed to %v", s, x)
		}
	}
}

// R1

// FuzzAll: R1 and P9.1 to P9.4 for any two tensors, any list and any number: no call panics, and an error comes alone.
func FuzzAll(f *testing.F) {
	f.Add([]byte(nil), 0, []byte(nil), 0, []byte(nil), 0, uint32(0))
	f.Add([]byte{2, 3}, 6, []byte{2, 1}, 2, []byte{1, 0}, 1, uint32(1))
	f.Add([]byte{2, 3}, 6, []byte{1, 3}, 3, []byte{3, 2}, 0, uint32(2))
	f.Add([]byte{2, 3, 4}, 24, []byte{2, 3, 5}, 30, []byte{2, 0, 1}, 2, uint32(3))
	f.Add([]byte{2, 3, 4, 5}, 120, []byte{2, 2, 4, 5}, 80, []byte{3, 0, 2, 1}, 1, uint32(4))
	f.Add([]byte{64, 64}, 4096, []byte{64, 1}, 64, []byte{8, 8, 8, 8}, 1, uint32(5))
	f.Add([]byte{64}, 64, []byte{1}, 1, []byte{0}, 0, uint32(6))
	f.Add([]byte{65, 1}, 65, []byte{255, 1}, 1, []byte{0, 0}, -1, uint32(7))
	f.Add([]byte{2, 3}, 5, []byte{2, 3}, 7, []byte{0, 2}, 2, uint32(8))
	f.Add([]byte{2, 3}, 6, []byte{2, 3, 1}, 6, []byte{0, 255}, math.MinInt, uint32(9))
	f.Fuzz(func(t *testing.T, shapeX []byte, manyX int, shapeY []byte, manyY int, l []byte, along int, seed uint32) {
		x, y := fuzzTensor(shapeX, manyX, seed), fuzzTensor(shapeY, manyY, seed+1)
		expectPlainShape(t, x, fuzzList(l))
		expectPlainShape(t, x, y.Shape)
		expectPlainTurn(t, x, fuzzList(l))
		expectPlainTurn(t, y, fuzzList(l))
		for _, all := range [][]api.Tensor{{x}, {x, y}, {y, x}, {x, x, y}, {y, x, y, x}, {x, y, x, y, x}} {
			expectPlainJoin(t, all, along)
		}
		expectPlainSum(t, x, along)
		expectPlainSum(t, y, along)
	})
}

func fuzzList(b []byte) []int {
	var l []int
	for _, x := range b {
		l = append(l, int(int8(x)))
	}
	return l
}

func fuzzTensor(shape []byte, many int, seed uint32) api.Tensor {
	return of(fuzzList(shape), mixed(max(0, min(many, 5000)), seed)...)
}
