package shapes_test

import (
	"slices"
	"testing"

	"drydock/api"
	"drydock/shapes"
)

// spoil overwrites a slice and its spare capacity.
func spoil(l []int) {
	l = l[:cap(l)]
	for i := range l {
		l[i] = ^l[i]
	}
}

// withSpare is a list with spare capacity behind it, and the whole of that memory.
func withSpare(l []int, spare int) (list, whole []int) {
	whole = slices.Clone(l)
	for n := range spare {
		whole = append(whole, 1000+n)
	}
	return whole[:len(l)], whole
}

// TestNoCallChangesItsArguments: R4, the spare capacity included, whether the call succeeds or not.
func TestNoCallChangesItsArguments(t *testing.T) {
	for _, l := range append(someShapes(), notShapes()...) {
		for _, spare := range []int{0, 1, 8} {
			s, wholeShape := withSpare(l, spare)
			shapeBefore := slices.Clone(wholeShape)
			shapes.Check(s)
			size := shapes.Size(s)
			for _, i := range []int{-1, 0, size / 2, size - 1, size} {
				shapes.At(s, i)
			}
			last := slices.Clone(l)
			for k := range last {
				last[k]--
			}
			for _, coordinates := range [][]int{nil, make([]int, len(l)), last, l, append(slices.Clone(l), 0)} {
				at, wholeAt := withSpare(coordinates, spare)
				atBefore := slices.Clone(wholeAt)
				shapes.Index(s, at)
				if !slices.Equal(wholeAt, atBefore) {
					t.Errorf("%v: the coordinates %v were changed to %v", l, atBefore, wholeAt)
				}
			}
			if !slices.Equal(wholeShape, shapeBefore) {
				t.Errorf("%v: the shape was changed to %v", shapeBefore, wholeShape)
			}
		}
	}
}

// TestAtSharesNothing: R4, what is written into a result, or into its spare capacity, reaches neither the argument nor another result.
func TestAtSharesNothing(t *testing.T) {
	for _, l := range someShapes() {
		for _, spare := range []int{0, 1, 8} {
			s, whole := withSpare(l, spare)
			before := slices.Clone(whole)
			i := shapes.Size(l) - 1
			first, _ := shapes.At(s, i)
			second, _ := shapes.At(s, i)
			want := slices.Clone(second)
			spoil(first)
			if !slices.Equal(whole, before) {
				t.Errorf("%v, %d spare: the result is the argument's memory", l, spare)
			}
			if !slices.Equal(second, want) {
				t.Errorf("%v, %d spare: two results share memory", l, spare)
			}
			expectAt(t, s, i, want)
			spoil(whole)
			if !slices.Equal(second, want) {
				t.Errorf("%v, %d spare: the result follows the argument", l, spare)
			}
		}
	}
}

// TestAtGoesOnFromItsOwn: coordinates that are handed in again are no memory of the calls.
func TestAtGoesOnFromItsOwn(t *testing.T) {
	s := []int{2, 3, 4}
	at, _ := shapes.At(s, 17)
	expectIndex(t, s, at, 17)
	for i := range 24 {
		shapes.At(s, i)
		shapes.At(at, 0)
	}
	expectIndex(t, s, at, 17)
	other, _ := shapes.At(s, 17)
	other[0] = 0
	expectIndex(t, s, at, 17)
}

// TestOneListForBothArguments: a shape is never within itself, but coordinates may be a shape.
func TestOneListForBothArguments(t *testing.T) {
	whole := []int{1, 2, 3, 4}
	expectNoIndex(t, whole, whole)
	expectIndex(t, whole[1:], whole[:3], 1*12+2*4+3)
	expectIndex(t, whole[1:2], whole[:1], 1)
	if !slices.Equal(whole, []int{1, 2, 3, 4}) {
		t.Errorf("changed to %v", whole)
	}
}

// TestSameCallSameResult: R5, nothing is left over from other calls, failed ones included.
func TestSameCallSameResult(t *testing.T) {
	s := []int{2, 3, 4}
	for _, l := range append(someShapes(), notShapes()...) {
		shapes.Check(l)
		shapes.Size(l)
		shapes.Index(l, make([]int, len(l)))
		shapes.Index(l, l)
		for _, i := range []int{-1, 0, shapes.Size(l) - 1, api.MaxSize} {
			shapes.At(l, i)
		}
		expectSize(t, s, 24)
		expectIndex(t, s, []int{1, 2, 3}, 23)
		expectAt(t, s, 22, []int{1, 2, 2})
	}
}
