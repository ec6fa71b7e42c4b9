package tensors_test

import (
	"slices"
	"testing"

	"drydock/api"
	"drydock/tensors"
)

// spoil overwrites a slice and its spare capacity.
func spoil[T byte | int | int32](l []T) {
	l = l[:cap(l)]
	for i := range l {
		l[i] = ^l[i]
	}
}

func spoilBoth(x api.Tensor) {
	spoil(x.Shape)
	spoil(x.L)
}

// withSpare is a list with spare capacity behind it, and the whole of that memory.
func withSpare[T byte | int | int32](l []T, spare int) (list, whole []T) {
	whole = slices.Clone(l)
	for n := range spare {
		whole = append(whole, T(100+n))
	}
	return whole[:len(l)], whole
}

// TestNoCallChangesATensor: R4, the spare capacity included, whether the call succeeds or not.
func TestNoCallChangesATensor(t *testing.T) {
	for _, x := range append(someTensors(), notTensors()...) {
		for _, spare := range []int{0, 1, 8} {
			s, wholeShape := withSpare(x.Shape, spare)
			l, wholeNumbers := withSpare(x.L, spare)
			shapeBefore, numbersBefore := slices.Clone(wholeShape), slices.Clone(wholeNumbers)
			at, wholeAt := withSpare(make([]int, len(s)), spare)
			atBefore := slices.Clone(wholeAt)
			y := api.Tensor{Shape: s, L: l}
			tensors.Check(y)
			tensors.New(s)
			tensors.At(y, at)
			tensors.At(y, at[:len(at)/2])
			tensors.At(y, s)
			tensors.Same(y, y)
			tensors.Same(y, x)
			tensors.Put(y)
			if !slices.Equal(wholeShape, shapeBefore) || !slices.Equal(wholeNumbers, numbersBefore) {
				t.Errorf("%v.., %d spare: the tensor was changed", short(x), spare)
			}
			if !slices.Equal(wholeAt, atBefore) {
				t.Errorf("%v.., %d spare: the coordinates were changed to %v", short(x), spare, wholeAt)
			}
		}
	}
}

// TestGetChangesNoBytes: R4, for bytes that are read and for bytes that are refused.
func TestGetChangesNoBytes(t *testing.T) {
	for _, x := range someTensors() {
		for _, cut := range []int{0, 1, 4} {
			for _, spare := range []int{0, 1, 8} {
				b, whole := withSpare(plainBytes(x), spare)
				before := slices.Clone(whole)
				tensors.Get(b[:len(b)-cut])
				if !slices.Equal(whole, before) {
					t.Errorf("%v.., %d spare, %d less: the bytes were changed", short(x), spare, cut)
				}
			}
		}
	}
}

// TestNewSharesNothing: R4, what is written into a result, or into its spare capacity, reaches neither the argument nor another result.
func TestNewSharesNothing(t *testing.T) {
	for _, shape := range someShapes() {
		for _, spare := range []int{0, 1, 8} {
			s, whole := withSpare(shape, spare)
			before := slices.Clone(whole)
			first, _ := tensors.New(s)
			second, _ := tensors.New(s)
			want := of(second.Shape, second.L...)
			spoilBoth(first)
			if !slices.Equal(whole, before) {
				t.Errorf("New(%v), %d spare: the result is the argument's memory", shape, spare)
			}
			if !plainSame(second, want) {
				t.Errorf("New(%v), %d spare: two results share memory", shape, spare)
			}
			expectNew(t, s, plainSize(shape))
			spoil(whole)
			if !plainSame(second, want) {
				t.Errorf("New(%v), %d spare: the result follows the argument", shape, spare)
			}
		}
	}
}

func TestPutSharesNothing(t *testing.T) {
	for _, x := range someTensors() {
		y := of(x.Shape, x.L...)
		want := plainBytes(x)
		first, _ := tensors.Put(y)
		second, _ := tensors.Put(y)
		spoil(first)
		if !plainSame(x, y) {
			t.Errorf("%v..: the result is the argument's memory", short(x))
		}
		if !slices.Equal(second, want) {
			t.Errorf("%v..: two results share memory", short(x))
		}
		expectPut(t, y, want)
		spoilBoth(y)
		if !slices.Equal(second, want) {
			t.Errorf("%v..: the result follows the argument", short(x))
		}
	}
}

func TestGetSharesNothing(t *testing.T) {
	for _, x := range someTensors() {
		b := plainBytes(x)
		first, _ := tensors.Get(b)
		second, _ := tensors.Get(b)
		spoilBoth(first)
		if !slices.Equal(b, plainBytes(x)) {
			t.Errorf("%v..: the result is the argument's memory", short(x))
		}
		if !plainSame(second, x) {
			t.Errorf("%v..: two results share memory", short(x))
		}
		expectGet(t, b, x)
		spoil(b)
		if !plainSame(second, x) {
			t.Errorf("%v..: the result follows the argument", short(x))
		}
	}
}

// TestOneListForTwoArguments: what is handed in twice is read twice.
func TestOneListForTwoArguments(t *testing.T) {
	whole := []int{1, 2, 3, 4}
	x := api.Tensor{Shape: whole[1:], L: numberRun(24)}
	expectAt(t, x, whole[:3], x.L[1*12+2*4+3])
	expectNoAt(t, x, whole[1:])
	expectSame(t, x, api.Tensor{Shape: whole[1:], L: x.L}, true)
	expectSame(t, api.Tensor{Shape: whole[:2], L: x.L[:2]}, api.Tensor{Shape: whole[:2], L: x.L[1:3]}, false)
	if !slices.Equal(whole, []int{1, 2, 3, 4}) {
		t.Errorf("changed to %v", whole)
	}
}

// TestSameCallSameResult: R5, nothing is left over from other calls, failed ones included.
func TestSameCallSameResult(t *testing.T) {
	fixed := of([]int{2, 3}, 1, -2, 3, -4, 5, -6)
	b := plainBytes(fixed)
	for _, x := range append(someTensors(), notTensors()...) {
		tensors.Check(x)
		tensors.New(x.Shape)
		tensors.At(x, make([]int, len(x.Shape)))
		tensors.At(x, x.Shape)
		tensors.Same(x, fixed)
		other, _ := tensors.Put(x)
		tensors.Get(other)
		tensors.Get(other[:len(other)/2])
		expectCheck(t, fixed, true)
		expectNew(t, []int{2, 3}, 6)
		expectAt(t, fixed, []int{1, 2}, -6)
		expectPut(t, fixed, b)
		expectGet(t, b, fixed)
	}
}
