package products_test

import (
	"slices"
	"testing"

	"drydock/api"
	"drydock/products"
)

// spoil overwrites a slice and its spare capacity.
func spoil[T int | int32](l []T) {
	l = l[:cap(l)]
	for i := range l {
		l[i] = ^l[i]
	}
}

func spoilBoth(x api.Tensor) {
	spoil(x.Shape)
	spoil(x.L)
}

// spared is a tensor that shares its memory with a greater one: behind each of its lists there is spare capacity.
func spared(x api.Tensor, spare int) (y, whole api.Tensor) {
	whole = of(x.Shape, x.L...)
	for n := range spare {
		whole.Shape = append(whole.Shape, 1+n)
		whole.L = append(whole.L, int32(-100-n))
	}
	return api.Tensor{Shape: whole.Shape[:len(x.Shape)], L: whole.L[:len(x.L)]}, whole
}

// fixed is a matrix that many others fit, and many don't.
func fixed() api.Tensor { return matrix(2, 3, 1, -2, 3, -4, 5, -6) }

func copyOf(x api.Tensor) api.Tensor { return of(x.Shape, x.L...) }

// TestNoCallChangesAnArgument: R4, the spare capacity included, whether the call succeeds or not.
func TestNoCallChangesAnArgument(t *testing.T) {
	for _, x := range slices.Concat(someMatrices(), otherTensors(), notTensors()) {
		for _, y := range []api.Tensor{x, fixed()} {
			for _, spare := range []int{0, 1, 8} {
				a, wholeA := spared(x, spare)
				b, wholeB := spared(y, spare)
				beforeA, beforeB := copyOf(wholeA), copyOf(wholeB)
				for _, two := range [][2]api.Tensor{{a, b}, {b, a}, {a, a}} {
					products.Of(two[0], two[1])
					products.Shape(two[0].Shape, two[1].Shape)
				}
				if !plainSame(wholeA, beforeA) || !plainSame(wholeB, beforeB) {
					t.Errorf("%v.. and %v.., %d spare: an argument was changed", short(x), short(y), spare)
				}
			}
		}
	}
}

// TestProductsShareNothing: R4, what is written into a result, or into its spare capacity, reaches neither an argument nor another result; what is written into an argument reaches no result. It holds also where the result is as an argument is.
func TestProductsShareNothing(t *testing.T) {
	for _, x := range append(someMatrices(), identity(3), identity(64)) {
		rows, columns := x.Shape[0], x.Shape[1]
		for _, spare := range []int{0, 1, 8} {
			expectNothingShared(t, x, identity(columns), spare)
			expectNothingShared(t, identity(rows), x, spare)
			expectNothingShared(t, x, alike(columns, columns, 0), spare)
			expectNothingShared(t, alike(rows, rows, 0), x, spare)
			expectNothingShared(t, x, mixedMatrix(columns, 2, 4), spare)
		}
	}
}

func expectNothingShared(t *testing.T, x, y api.Tensor, spare int) {
	t.Helper()
	want := plainOf(x, y)
	a, wholeA := spared(x, spare)
	b, wholeB := spared(y, spare)
	beforeA, beforeB := copyOf(wholeA), copyOf(wholeB)
	first := product(t, a, b)
	second := product(t, a, b)
	spoilBoth(first)
	if !plainSame(wholeA, beforeA) || !plainSame(wholeB, beforeB) {
		t.Errorf("%v.. and %v.., %d spare: the result is an argument's memory", short(x), short(y), spare)
	}
	if !plainSame(second, want) {
		t.Errorf("%v.. and %v.., %d spare: two results share memory", short(x), short(y), spare)
	}
	expectProduct(t, a, b, want)
	spoilBoth(wholeA)
	spoilBoth(wholeB)
	if !plainSame(second, want) {
		t.Errorf("%v.. and %v.., %d spare: a result follows an argument", short(x), short(y), spare)
	}
}

// TestOneTensorForBothSharesNothing: nor does the product of a tensor with itself.
func TestOneTensorForBothSharesNothing(t *testing.T) {
	for _, x := range []api.Tensor{matrix(1, 1, 7), identity(3), edgeMatrix(5, 5, 2), mixedMatrix(64, 64, 1)} {
		a := copyOf(x)
		first, second := product(t, a, a), product(t, a, a)
		spoilBoth(first)
		if !plainSame(a, x) || !plainSame(second, plainOf(x, x)) {
			t.Errorf("%v..: the result is shared", short(x))
		}
		spoilBoth(a)
		if !plainSame(second, plainOf(x, x)) {
			t.Errorf("%v..: the result follows the argument", short(x))
		}
	}
}

// TestShapesShareNothing: R4, for Shape, also where the result is as an argument is.
func TestShapesShareNothing(t *testing.T) {
	for _, d := range [][3]int{{1, 1, 1}, {2, 2, 2}, {2, 3, 4}, {2, 3, 3}, {2, 2, 3}, {64, 64, 64}, {64, 1, 64}} {
		for _, spare := range []int{0, 1, 8} {
			wholeA := append([]int{d[0], d[1]}, slices.Repeat([]int{9}, spare)...)
			wholeB := append([]int{d[1], d[2]}, slices.Repeat([]int{9}, spare)...)
			beforeA, beforeB := slices.Clone(wholeA), slices.Clone(wholeB)
			want := []int{d[0], d[2]}
			first, _ := products.Shape(wholeA[:2], wholeB[:2])
			second, _ := products.Shape(wholeA[:2], wholeB[:2])
			spoil(first)
			if !slices.Equal(wholeA, beforeA) || !slices.Equal(wholeB, beforeB) {
				t.Errorf("%v, %d spare: the result is an argument's memory", d, spare)
			}
			if !slices.Equal(second, want) {
				t.Errorf("%v, %d spare: two results share memory", d, spare)
			}
			expectShape(t, wholeA[:2], wholeB[:2], want)
			spoil(wholeA)
			spoil(wholeB)
			if !slices.Equal(second, want) {
				t.Errorf("%v, %d spare: a result follows an argument", d, spare)
			}
		}
	}
}

// TestArgumentsThatShareMemory: two tensors may overlap, and so may two shapes.
func TestArgumentsThatShareMemory(t *testing.T) {
	l, s := edgeNumbers(), []int{3, 4, 2, 4, 3}
	for shift := range 12 {
		expectOf(t, api.Tensor{Shape: s[:2], L: l[:12]}, api.Tensor{Shape: s[1:3], L: l[shift : shift+8]})
		expectOf(t, api.Tensor{Shape: s[1:3], L: l[shift : shift+8]}, api.Tensor{Shape: s[2:4], L: l[:8]})
	}
	expectShape(t, s[:2], s[1:3], []int{3, 2})
	expectShape(t, s[:2], s[3:], []int{3, 3})
	expectNoShape(t, s[:2], s[:2], api.ErrShape)
	if !slices.Equal(l, edgeNumbers()) || !slices.Equal(s, []int{3, 4, 2, 4, 3}) {
		t.Errorf("changed to %v, %v", l, s)
	}
}

// TestSpareCapacityIsNotOfTheTensor: neither as a number nor as a dimension.
func TestSpareCapacityIsNotOfTheTensor(t *testing.T) {
	s, l := []int{2, 3, 1, 1, 1}, mixed(8, 1)
	x := api.Tensor{Shape: s[:2], L: l[:6]}
	y := mixedMatrix(3, 2, 2)
	expectOf(t, x, y)
	expectOf(t, y, x)
	expectNeitherWay(t, api.Tensor{Shape: s[:3], L: l[:6]}, y, api.ErrShape)
	expectNeitherWay(t, api.Tensor{Shape: s[:1], L: l[:2]}, y, api.ErrShape)
	expectNeitherWay(t, api.Tensor{Shape: s[:2], L: l[:5]}, y, api.ErrArg)
	expectNeitherWay(t, api.Tensor{Shape: s[:0], L: l[:1]}, y, api.ErrArg)
}

// TestEmptyAndNilAreTheSame: R4, as arguments.
func TestEmptyAndNilAreTheSame(t *testing.T) {
	x := fixed()
	for _, none := range []api.Tensor{{}, {Shape: []int{}}, {L: []int32{}}, {Shape: []int{}, L: []int32{}}} {
		expectNeitherWay(t, none, x, api.ErrArg)
		expectNoShape(t, none.Shape, x.Shape, api.ErrArg)
		expectNoShape(t, x.Shape, none.Shape, api.ErrArg)
	}
	expectNeitherWay(t, api.Tensor{Shape: []int{2, 3}}, matrix(3, 2, 1, 2, 3, 4, 5, 6), api.ErrArg)
	expectNeitherWay(t, api.Tensor{Shape: []int{2, 3}, L: []int32{}}, matrix(3, 2, 1, 2, 3, 4, 5, 6), api.ErrArg)
}

// TestSameCallSameResult: R5, nothing is left over from other calls, failed ones included.
func TestSameCallSameResult(t *testing.T) {
	a, b := fixed(), matrix(3, 2, 7, 8, -9, 10, -11, 12)
	for _, x := range slices.Concat(someMatrices(), otherTensors(), notTensors()) {
		for _, two := range [][2]api.Tensor{{x, x}, {x, a}, {a, x}} {
			products.Of(two[0], two[1])
			products.Shape(two[0].Shape, two[1].Shape)
		}
		expectProduct(t, a, b, matrix(2, 2, -8, 24, -7, -54))
		expectShape(t, a.Shape, b.Shape, []int{2, 2})
	}
}
