package maths_test

import (
	"slices"
	"testing"

	"drydock/api"
	"drydock/maths"
)

// spoil overwrites a slice and its spare capacity.
func spoil[T int | int32](l []T) {
	l = l[:cap(l)]
	for i := range l {
		l[i] = ^l[i]
	}
}

func spoilBoth(x api.Tensor) {
	spoil(x.Shape)
	spoil(x.L)
}

// spared is a tensor that shares its memory with a greater one: behind each of its lists there is spare capacity.
func spared(x api.Tensor, spare int) (y, whole api.Tensor) {
	whole = of(x.Shape, x.L...)
	for n := range spare {
		whole.Shape = append(whole.Shape, 1+n)
		whole.L = append(whole.L, int32(-100-n))
	}
	return api.Tensor{Shape: whole.Shape[:len(x.Shape)], L: whole.L[:len(x.L)]}, whole
}

// calls are all functions. Those of one tensor take the first one.
func calls() map[string]func(a, b api.Tensor) (api.Tensor, api.Errno) {
	return map[string]func(a, b api.Tensor) (api.Tensor, api.Errno){
		"Add":         maths.Add,
		"Mul":         maths.Mul,
		"Relu":        func(a, _ api.Tensor) (api.Tensor, api.Errno) { return maths.Relu(a) },
		"Shift by 0":  func(a, _ api.Tensor) (api.Tensor, api.Errno) { return maths.Shift(a, 0) },
		"Shift by 31": func(a, _ api.Tensor) (api.Tensor, api.Errno) { return maths.Shift(a, 31) },
		"Shift by 32": func(a, _ api.Tensor) (api.Tensor, api.Errno) { return maths.Shift(a, 32) },
	}
}

// TestNoCallChangesATensor: R4, the spare capacity included, whether the call succeeds or not.
func TestNoCallChangesATensor(t *testing.T) {
	fixed := of([]int{2, 3}, 1, -2, 3, -4, 5, -6)
	for name, call := range calls() {
		for _, x := range append(someTensors(), notTensors()...) {
			for _, y := range []api.Tensor{x, fixed} {
				for _, spare := range []int{0, 1, 8} {
					a, wholeA := spared(x, spare)
					b, wholeB := spared(y, spare)
					beforeA, beforeB := of(wholeA.Shape, wholeA.L...), of(wholeB.Shape, wholeB.L...)
					call(a, b)
					call(b, a)
					call(a, a)
					if !plainSame(wholeA, beforeA) || !plainSame(wholeB, beforeB) {
						t.Errorf("%s of %v.. and %v.., %d spare: a tensor was changed", name, short(x), short(y), spare)
					}
				}
			}
		}
	}
}

// TestResultsShareNothing: R4, what is written into a result, or into its spare capacity, reaches neither an argument nor another result; what is written into an argument reaches no result.
func TestResultsShareNothing(t *testing.T) {
	for name, call := range calls() {
		for _, x := range someTensors() {
			for _, spare := range []int{0, 1, 8} {
				a, wholeA := spared(x, spare)
				b, wholeB := spared(of(x.Shape, mixed(len(x.L), 3)...), spare)
				beforeA, beforeB := of(wholeA.Shape, wholeA.L...), of(wholeB.Shape, wholeB.L...)
				first, _ := call(a, b)
				second, _ := call(a, b)
				third, _ := call(a, a)
				wantSecond, wantThird := of(second.Shape, second.L...), of(third.Shape, third.L...)
				spoilBoth(first)
				if !plainSame(wholeA, beforeA) || !plainSame(wholeB, beforeB) {
					t.Errorf("%s of %v.., %d spare: the result is an argument's memory", name, short(x), spare)
				}
				if !plainSame(second, wantSecond) || !plainSame(third, wantThird) {
					t.Errorf("%s of %v.., %d spare: two results share memory", name, short(x), spare)
				}
				spoilBoth(wholeA)
				spoilBoth(wholeB)
				if !plainSame(second, wantSecond) || !plainSame(third, wantThird) {
					t.Errorf("%s of %v.., %d spare: a result follows an argument", name, short(x), spare)
				}
			}
		}
	}
}

// TestTensorsThatShareMemory: two arguments may overlap.
func TestTensorsThatShareMemory(t *testing.T) {
	l := edgeNumbers()
	for _, f := range functionsOfTwo() {
		for shift := range 8 {
			expectTwo(t, f, api.Tensor{Shape: []int{2, 8}, L: l[:16]}, api.Tensor{Shape: []int{2, 8}, L: l[shift : shift+16]})
		}
	}
	if !slices.Equal(l, edgeNumbers()) {
		t.Errorf("changed to %v", l)
	}
}

// TestSpareCapacityIsNoNumber: what lies behind a list is not of the tensor.
func TestSpareCapacityIsNoNumber(t *testing.T) {
	s, l := []int{2, 3, 1, 1, 1}, mixed(8, 1)
	x := api.Tensor{Shape: s[:2], L: l[:6]}
	for _, f := range functionsOfTwo() {
		expectTwo(t, f, x, of([]int{2, 3}, l[2:]...))
		expectNoTwo(t, f, x, api.Tensor{Shape: s[:3], L: l[:6]}, api.ErrShape)
		expectNoTwo(t, f, x, api.Tensor{Shape: s[:2], L: l[:5]}, api.ErrArg)
	}
	expectRelu(t, x)
	expectShift(t, x, 1)
	expectNoRelu(t, api.Tensor{Shape: s[:2], L: l[:5]})
	expectNoShift(t, api.Tensor{Shape: s[:0], L: l[:1]}, 1)
}

// TestSameCallSameResult: R5, nothing is left over from other calls, failed ones included.
func TestSameCallSameResult(t *testing.T) {
	a, b := of([]int{2, 3}, 1, -2, 300, -4, 5, -600), of([]int{2, 3}, 7, 8, -9, 10, -11, 12)
	for _, x := range append(someTensors(), notTensors()...) {
		for _, call := range calls() {
			call(x, x)
			call(x, a)
			call(a, x)
		}
		for _, f := range functionsOfTwo() {
			expectTwo(t, f, a, b)
		}
		expectRelu(t, a)
		expectShift(t, a, 1)
	}
}
