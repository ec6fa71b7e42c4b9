package windows_test

import (
	"slices"
	"testing"

	"drydock/api"
	"drydock/windows"
)

// spoil overwrites a slice and its spare capacity.
func spoil[T int | int32](l []T) {
	l = l[:cap(l)]
	for i := range l {
		l[i] = ^l[i]
	}
}

func spoilBoth(x api.Tensor) {
	spoil(x.Shape)
	spoil(x.L)
}

// spared is a tensor that shares its memory with a greater one: behind each of its lists there is spare capacity.
func spared(x api.Tensor, spare int) (y, whole api.Tensor) {
	whole = copyOf(x)
	for n := range spare {
		whole.Shape = append(whole.Shape, 1+n)
		whole.L = append(whole.L, int32(100+n))
	}
	return api.Tensor{Shape: whole.Shape[:len(x.Shape)], L: whole.L[:len(x.L)]}, whole
}

func copyOf(x api.Tensor) api.Tensor { return of(x.Shape, x.L...) }

// tensorsOf are the images and the filters of these calls.
func tensorsOf(calls []call) []api.Tensor {
	var all []api.Tensor
	for _, c := range calls {
		all = append(all, c.image(1), c.filters(2))
	}
	return all
}

// TestNoCallChangesAnArgument: R4, the spare capacity included, whether the call succeeds or not.
func TestNoCallChangesAnArgument(t *testing.T) {
	for _, spare := range []int{0, 1, 8} {
		for _, c := range slices.Concat(someCalls(), misfits()) {
			expectUnchanged(t, c.image(1), c.filters(2), spare, c.step, c.pad)
			expectUnchanged(t, c.image(1), c.filters(2), spare, 9, c.pad)
		}
		for _, x := range notTensors() {
			expectUnchanged(t, x, mixedOf(2, 1, 1, 2, 2), spare, 1, 0)
			expectUnchanged(t, mixedOf(1, 1, 3, 3), x, spare, 1, 0)
		}
	}
}

func expectUnchanged(t *testing.T, x, w api.Tensor, spare, step, pad int) {
	t.Helper()
	a, wholeA := spared(x, spare)
	b, wholeB := spared(w, spare)
	beforeA, beforeB := copyOf(wholeA), copyOf(wholeB)
	windows.Of(a, b, step, pad)
	windows.Shape(a.Shape, b.Shape, step, pad)
	for _, wide := range []int{0, 1, 2, 3, 64, 65} {
		windows.Pool(a, wide)
		windows.PoolShape(a.Shape, wide)
	}
	if !plainSame(wholeA, beforeA) || !plainSame(wholeB, beforeB) {
		t.Errorf("%v.. and %v.., %d spare, %d, %d: an argument was changed", short(x), short(w), spare, step, pad)
	}
}

// TestOfSharesNothing: R4, what is written into a result, or into its spare capacity, reaches neither an argument nor another result; what is written into an argument reaches no result. It holds also where the result is as the image is.
func TestOfSharesNothing(t *testing.T) {
	for _, spare := range []int{0, 1, 8} {
		for _, c := range someCalls() {
			expectNothingShared(t, spare, c.image(1), c.filters(2), func(x, w api.Tensor) api.Tensor { return convolved(t, x, w, c.step, c.pad) })
			image := mixedOf(1, 1, c.t[1], c.t[2])
			expectNothingShared(t, spare, image, alike(1, 1, 1, 1, 1), func(x, w api.Tensor) api.Tensor { return convolved(t, x, w, 1, 0) })
		}
	}
}

// TestPoolSharesNothing: nor does the result of Pool, also where it is as the image is.
func TestPoolSharesNothing(t *testing.T) {
	for _, spare := range []int{0, 1, 8} {
		for _, c := range someCalls() {
			for wide := 1; wide <= min(c.t[1], c.t[2], 3); wide++ {
				expectNothingShared(t, spare, c.image(1), api.Tensor{}, func(x, _ api.Tensor) api.Tensor { return pooled(t, x, wide) })
			}
		}
	}
}

// pooled is what Pool returns where it must return something.
func pooled(t *testing.T, x api.Tensor, wide int) api.Tensor {
	t.Helper()
	result, e := windows.Pool(x, wide)
	if e != api.OK {
		t.Fatalf("Pool(%v.., %d): %d", short(x), wide, e)
	}
	return result
}

func expectNothingShared(t *testing.T, spare int, x, w api.Tensor, result func(x, w api.Tensor) api.Tensor) {
	t.Helper()
	want := copyOf(result(copyOf(x), copyOf(w)))
	a, wholeA := spared(x, spare)
	b, wholeB := spared(w, spare)
	beforeA, beforeB := copyOf(wholeA), copyOf(wholeB)
	first, second := result(a, b), result(a, b)
	spoilBoth(first)
	if !plainSame(wholeA, beforeA) || !plainSame(wholeB, beforeB) {
		t.Errorf("%v.. and %v.., %d spare: the result is an argument's memory", short(x), short(w), spare)
	}
	if !plainSame(second, want) {
		t.Errorf("%v.. and %v.., %d spare: two results share memory", short(x), short(w), spare)
	}
	if again := result(a, b); !plainSame(again, want) {
		t.Errorf("%v.. and %v.., %d spare: a later result follows an earlier one", short(x), short(w), spare)
	}
	spoilBoth(wholeA)
	spoilBoth(wholeB)
	if !plainSame(second, want) {
		t.Errorf("%v.. and %v.., %d spare: a result follows an argument", short(x), short(w), spare)
	}
}

// TestShapesShareNothing: R4, for Shape and PoolShape, also where the result is as the image's shape is.
func TestShapesShareNothing(t *testing.T) {
	for _, spare := range []int{0, 1, 8} {
		for _, c := range append(someCalls(), call{dims(4, 4, 4), dims(4, 4, 1, 1), 1, 0}, call{dims(3, 3, 3), dims(3, 3, 3, 3), 1, 1}) {
			expectNoShapeShared(t, spare, c.t, c.w, func(x, w []int) ([]int, api.Errno) { return windows.Shape(x, w, c.step, c.pad) })
			expectNoShapeShared(t, spare, c.t, nil, func(x, _ []int) ([]int, api.Errno) { return windows.PoolShape(x, 1) })
		}
		expectNoShapeShared(t, spare, dims(2, 9, 7), nil, func(x, _ []int) ([]int, api.Errno) { return windows.PoolShape(x, 3) })
	}
}

func expectNoShapeShared(t *testing.T, spare int, x, w []int, result func(x, w []int) ([]int, api.Errno)) {
	t.Helper()
	shape := func(x, w []int) []int {
		s, e := result(x, w)
		if e != api.OK {
			t.Fatalf("%v and %v: %d", x, w, e)
		}
		return s
	}
	want := slices.Clone(shape(x, w))
	wholeX, wholeW := slices.Concat(x, slices.Repeat([]int{9}, spare)), slices.Concat(w, slices.Repeat([]int{9}, spare))
	beforeX, beforeW := slices.Clone(wholeX), slices.Clone(wholeW)
	a, b := wholeX[:len(x)], wholeW[:len(w)]
	first, second := shape(a, b), shape(a, b)
	spoil(first)
	if !slices.Equal(wholeX, beforeX) || !slices.Equal(wholeW, beforeW) {
		t.Errorf("%v and %v, %d spare: the result is an argument's memory", x, w, spare)
	}
	if !slices.Equal(second, want) || !slices.Equal(shape(a, b), want) {
		t.Errorf("%v and %v, %d spare: two results share memory", x, w, spare)
	}
	spoil(wholeX)
	spoil(wholeW)
	if !slices.Equal(second, want) {
		t.Errorf("%v and %v, %d spare: a result follows an argument", x, w, spare)
	}
}

// TestArgumentsThatShareMemory: an image and filters may overlap, in their numbers and in their shapes.
func TestArgumentsThatShareMemory(t *testing.T) {
	l, s := edgeNumbers(), dims(2, 1, 3, 4, 2, 1, 2, 2)
	for shift := range 12 {
		x, w := api.Tensor{Shape: s[1:4], L: l[:12]}, api.Tensor{Shape: s[4:], L: l[shift : shift+8]}
		expectOf(t, x, w, 1, 1)
		expectPool(t, x, 2)
	}
	same := dims(2, 2, 2, 2)
	expectOf(t, api.Tensor{Shape: same[:3], L: l[:8]}, api.Tensor{Shape: same, L: l[:16]}, 1, 0)
	expectOf(t, api.Tensor{Shape: same[1:], L: l[4:12]}, api.Tensor{Shape: same, L: l[:16]}, 2, 3)
	expectShape(t, call{same[:3], same, 1, 1}, dims(2, 3, 3))
	if !slices.Equal(l, edgeNumbers()) || !slices.Equal(s, dims(2, 1, 3, 4, 2, 1, 2, 2)) || !slices.Equal(same, dims(2, 2, 2, 2)) {
		t.Errorf("changed to %v, %v, %v", l, s, same)
	}
}

// TestSpareCapacityIsNotOfTheTensor: neither as a number nor as a dimension.
func TestSpareCapacityIsNotOfTheTensor(t *testing.T) {
	s, l := dims(1, 3, 3, 1, 1), mixed(12, 1)
	w := mixedOf(2, 1, 1, 2, 2)
	expectOf(t, api.Tensor{Shape: s[:3], L: l[:9]}, w, 1, 0)
	expectPool(t, api.Tensor{Shape: s[:3], L: l[:9]}, 2)
	for _, c := range []struct {
		x    api.Tensor
		want api.Errno
	}{
		{api.Tensor{Shape: s[:2], L: l[:3]}, api.ErrShape}, {api.Tensor{Shape: s[:4], L: l[:9]}, api.ErrShape},
		{api.Tensor{Shape: s[:3], L: l[:8]}, api.ErrArg}, {api.Tensor{Shape: s[:0], L: l[:1]}, api.ErrArg}, {api.Tensor{Shape: s[:5], L: l[:9]}, api.ErrArg},
	} {
		expectNoOf(t, c.x, w, 1, 0, c.want)
		expectNoPool(t, c.x, 1, c.want)
	}
	filters := dims(1, 1, 2, 2)
	expectNoOf(t, mixedOf(1, 1, 3, 3), api.Tensor{Shape: filters[:3], L: l[:2]}, 1, 0, api.ErrShape)
	expectNoOf(t, mixedOf(1, 1, 3, 3), api.Tensor{Shape: filters, L: l[:3]}, 1, 0, api.ErrArg)
}

// TestEmptyAndNilAreTheSame: R4, as arguments.
func TestEmptyAndNilAreTheSame(t *testing.T) {
	x, w := mixedOf(1, 1, 3, 3), mixedOf(2, 1, 1, 2, 2)
	for _, none := range []api.Tensor{{}, {Shape: []int{}}, {L: []int32{}}, {Shape: []int{}, L: []int32{}}} {
		expectNoOf(t, none, w, 1, 0, api.ErrArg)
		expectNoOf(t, x, none, 1, 0, api.ErrArg)
		expectNoOf(t, none, none, 1, 0, api.ErrArg)
		expectNoPool(t, none, 1, api.ErrArg)
		expectNoShape(t, call{none.Shape, w.Shape, 1, 0}, api.ErrArg)
		expectNoShape(t, call{x.Shape, none.Shape, 1, 0}, api.ErrArg)
		expectNoPoolShape(t, none.Shape, 1, api.ErrArg)
	}
	for _, l := range [][]int32{nil, {}} {
		expectNoOf(t, api.Tensor{Shape: x.Shape, L: l}, w, 1, 0, api.ErrArg)
		expectNoOf(t, x, api.Tensor{Shape: w.Shape, L: l}, 1, 0, api.ErrArg)
		expectNoPool(t, api.Tensor{Shape: x.Shape, L: l}, 1, api.ErrArg)
	}
}

// TestSameCallSameResult: R5, nothing is left over from other calls, failed ones included.
func TestSameCallSameResult(t *testing.T) {
	image, filter := counted(1, 3, 3), alike(1, 1, 1, 2, 2)
	for _, x := range slices.Concat(tensorsOf(someCalls()), tensorsOf(misfits()), notTensors()) {
		windows.Of(x, filter, 1, 8)
		windows.Of(image, x, 1, 8)
		windows.Shape(x.Shape, filter.Shape, 8, 0)
		windows.Pool(x, 1)
		windows.PoolShape(x.Shape, 2)
		expectWindow(t, image, filter, 1, 0, of(dims(1, 2, 2), 12, 16, 24, 28))
		expectShape(t, call{image.Shape, filter.Shape, 1, 0}, dims(1, 2, 2))
		expectPooled(t, image, 2, of(dims(1, 1, 1), 5))
		expectPoolShape(t, image.Shape, 2, dims(1, 1, 1))
	}
}
