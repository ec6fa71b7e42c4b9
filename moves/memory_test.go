package moves_test

import (
	"slices"
	"testing"

	"drydock/api"
	"drydock/moves"
)

// spoil overwrites a slice and its spare capacity.
func spoil[T int | int32](l []T) {
	l = l[:cap(l)]
	for i := range l {
		l[i] = ^l[i]
	}
}

func spoilBoth(x api.Tensor) {
	spoil(x.Shape)
	spoil(x.L)
}

func copyOf(x api.Tensor) api.Tensor { return of(x.Shape, x.L...) }

func copiesOf(l []api.Tensor) []api.Tensor {
	var all []api.Tensor
	for _, x := range l {
		all = append(all, copyOf(x))
	}
	return all
}

// spared is a tensor that shares its memory with a greater one: behind each of its lists there is spare capacity.
func spared(x api.Tensor, spare int) (y, whole api.Tensor) {
	whole = copyOf(x)
	for n := range spare {
		whole.Shape = append(whole.Shape, 1+n)
		whole.L = append(whole.L, int32(100+n))
	}
	return api.Tensor{Shape: whole.Shape[:len(x.Shape)], L: whole.L[:len(x.L)]}, whole
}

// given is what the calls get: a list of tensors, of which the first one is also turned, shaped and summed; and a list of numbers, a shape or an order. Behind each list there is spare capacity; the whole ones reach over that.
type given struct {
	l, wholes, listWhole []api.Tensor
	n, numbersWhole      []int
	along                int
}

func givenWith(spare int, l []api.Tensor, n []int, along int) given {
	g := given{along: along}
	for _, x := range l {
		y, whole := spared(x, spare)
		g.listWhole, g.wholes = append(g.listWhole, y), append(g.wholes, whole)
	}
	for range spare {
		y, whole := spared(counted(2), 1)
		g.listWhole, g.wholes = append(g.listWhole, y), append(g.wholes, whole)
	}
	g.l = g.listWhole[:len(l)]
	g.numbersWhole = slices.Concat(n, slices.Repeat([]int{9}, spare))
	g.n = g.numbersWhole[:len(n)]
	return g
}

// spoil overwrites all that was given.
func (g given) spoil() {
	for _, whole := range g.wholes {
		spoilBoth(whole)
	}
	spoil(g.numbersWhole)
	clear(g.listWhole[:cap(g.listWhole)])
}

// watch keeps what was given, and returns a function that tells whether it is unchanged.
func (g given) watch() func() bool {
	tensors, before, numbers := slices.Clone(g.listWhole), copiesOf(g.wholes), slices.Clone(g.numbersWhole)
	return func() bool {
		same := slices.Equal(g.numbersWhole, numbers)
		for i := range tensors {
			x, y := tensors[i], g.listWhole[i]
			same = same && plainSame(g.wholes[i], before[i]) && plainSame(x, y)
			same = same && (len(x.Shape) == 0 || &x.Shape[0] == &y.Shape[0]) && (len(x.L) == 0 || &x.L[0] == &y.L[0])
		}
		return same
	}
}

// act is one of the calls.
type act struct {
	name string
	do   func(g given) (api.Tensor, api.Errno)
}

func acts() []act {
	return []act{
		{"Shape", func(g given) (api.Tensor, api.Errno) { return moves.Shape(g.l[0], g.n) }},
		{"Turn", func(g given) (api.Tensor, api.Errno) { return moves.Turn(g.l[0], g.n) }},
		{"Join", func(g given) (api.Tensor, api.Errno) { return moves.Join(g.l, g.along) }},
		{"Sum", func(g given) (api.Tensor, api.Errno) { return moves.Sum(g.l[0], g.along) }},
	}
}

// arguments are what a given is made of.
type arguments struct {
	l     []api.Tensor
	n     []int
	along int
}

// goodArguments let several of the calls return something: also such that the result is as the argument is.
func goodArguments() []arguments {
	var all []arguments
	for _, s := range [][]int{{1}, {5}, {64}, {1, 1}, {2, 3}, {1, 7}, {7, 1}, {64, 64}, {2, 3, 4}, {1, 1, 3}, {2, 1, 3, 2}, {1, 1, 1, 1}, {8, 8, 8, 8}} {
		x := mixedOf(1, s...)
		all = append(all, arguments{list(x), s, 0}, arguments{list(x), dims(product(s)), 0})
		for _, o := range orders(len(s)) {
			all = append(all, arguments{list(x), o, 0})
		}
		for along := range s {
			all = append(all, arguments{list(x), nil, along})
			for _, lengths := range [][]int{{1, 2}, {s[along], 1, 1}, {1, 2, 3, 4}} {
				all = append(all, arguments{ofLengths(s, along, lengths), nil, along})
			}
		}
	}
	return all
}

// badArguments let each of the calls return an error.
func badArguments() []arguments {
	x, long := counted(2, 3), counted(64)
	return []arguments{
		{list(x), dims(5), 2}, {list(x), dims(2, 2), -1}, {list(x), order(0, 0), 2}, {list(x), order(2, 0), 2}, {list(x), order(0, -1), 2}, {list(x), order(0, 1, 2), 3},
		{list(x, counted(3, 2)), dims(7), 2}, {list(x, counted(6)), dims(7), -1}, {list(x, api.Tensor{}), dims(0), 2}, {list(api.Tensor{}, x), dims(1), 0}, {list(x, x, x, x, x), dims(65), 2},
		{list(long, long), dims(63), 1}, {list(of(dims(2, 3), 1, 2, 3, 4, 5)), dims(5), 0}, {list(of(dims(2, 3), 1, 2, 3, 4, 5, 6, 7)), order(1, 0), 0}, {list(api.Tensor{}), nil, 0},
	}
}

// TestNoCallChangesAnArgument: R4, the spare capacity included, whether the call succeeds or not.
func TestNoCallChangesAnArgument(t *testing.T) {
	for _, spare := range []int{0, 1, 4, 8} {
		for _, a := range append(goodArguments(), badArguments()...) {
			for _, act := range acts() {
				g := givenWith(spare, a.l, a.n, a.along)
				unchanged := g.watch()
				act.do(g)
				if !unchanged() {
					t.Errorf("%s of %v, %v, %d, with %d spare: an argument was changed", act.name, shortList(a.l), a.n, a.along, spare)
				}
			}
		}
	}
}

// TestResultsShareNothing: R4, what is written into a result, or into its spare capacity, reaches neither an argument nor another result; what is written into an argument reaches no result. It holds also where the result is as the argument is.
func TestResultsShareNothing(t *testing.T) {
	returned := map[string]int{}
	for _, spare := range []int{0, 1, 4, 8} {
		for _, a := range goodArguments() {
			for _, act := range acts() {
				if want, e := act.do(givenWith(spare, a.l, a.n, a.along)); e == api.OK {
					returned[act.name]++
					expectNothingShared(t, act, copyOf(want), givenWith(spare, a.l, a.n, a.along))
				}
			}
		}
	}
	for _, act := range acts() {
		if returned[act.name] == 0 {
			t.Errorf("%s returned nothing to look at", act.name)
		}
	}
}

func expectNothingShared(t *testing.T, act act, want api.Tensor, g given) {
	t.Helper()
	unchanged := g.watch()
	first, _ := act.do(g)
	second, _ := act.do(g)
	spoilBoth(first)
	if !unchanged() {
		t.Errorf("%s of %v, %v, %d: the result is an argument's memory", act.name, shortList(g.l), g.n, g.along)
	}
	if !plainSame(second, want) {
		t.Errorf("%s of %v, %v, %d: two results share memory", act.name, shortList(g.l), g.n, g.along)
	}
	if again, _ := act.do(g); !plainSame(again, want) {
		t.Errorf("%s of %v, %v, %d: a later result follows an earlier one", act.name, shortList(g.l), g.n, g.along)
	}
	g.spoil()
	if !plainSame(second, want) {
		t.Errorf("%s: a result follows an argument; want %v..", act.name, short(want))
	}
}

// TestArgumentsThatShareMemory: the shape of a tensor as the shape or the order that is asked for, and tensors that overlap.
func TestArgumentsThatShareMemory(t *testing.T) {
	l, s := edgeNumbers(), dims(2, 3, 2, 1, 3)
	x := api.Tensor{Shape: s[:2], L: l[:6]}
	expectShape(t, x, s[:2], good(x))
	expectShape(t, x, s[1:3], good(of(dims(3, 2), l[:6]...)))
	for shift := range 12 {
		y := api.Tensor{Shape: s[:2], L: l[shift : shift+6]}
		expectPlainJoin(t, list(x, y, x), 0)
		expectPlainJoin(t, list(y, x), 1)
		expectPlainJoin(t, list(x, api.Tensor{Shape: s[2:4], L: l[shift : shift+2]}), 1)
	}
	// An order that is a shape, too: of the tensor itself.
	same := dims(1)
	expectTurn(t, api.Tensor{Shape: same, L: l[:1]}, same, bad(api.ErrArg))
	both := dims(1, 0, 2, 3)
	expectPlainTurn(t, api.Tensor{Shape: both[2:], L: l[:6]}, both[:2])
	if !slices.Equal(l, edgeNumbers()) || !slices.Equal(s, dims(2, 3, 2, 1, 3)) || !slices.Equal(both, dims(1, 0, 2, 3)) {
		t.Errorf("changed to %v, %v, %v", l, s, both)
	}
}

// TestSpareCapacityIsNotOfTheList: neither as a number, nor as a dimension, nor as a tensor.
func TestSpareCapacityIsNotOfTheList(t *testing.T) {
	s, l := dims(2, 3, 1, 1, 1), mixed(12, 1)
	x := api.Tensor{Shape: s[:2], L: l[:6]}
	expectShape(t, x, dims(3, 2, 2)[:2], good(of(dims(3, 2), l[:6]...)))
	expectShape(t, x, dims(3, 2)[:1], bad(api.ErrShape))
	expectShape(t, x, dims(6)[:0], bad(api.ErrArg))
	expectPlainTurn(t, x, order(1, 0, 2)[:2])
	expectTurn(t, x, order(1, 0)[:1], bad(api.ErrArg))
	all := list(x, x, x, x, x, x)
	expectPlainJoin(t, all[:2], 0)
	expectPlainJoin(t, all[:4], 1)
	expectJoin(t, all[:0], 0, bad(api.ErrArg))
	expectJoin(t, all[:1], 2, bad(api.ErrArg))
	expectSum(t, x, 2, bad(api.ErrArg))
	for _, none := range list(api.Tensor{Shape: s[:2], L: l[:5]}, api.Tensor{Shape: s[:0], L: l[:1]}, api.Tensor{Shape: s, L: l[:6]}) {
		expectShape(t, none, dims(5), bad(api.ErrArg))
		expectTurn(t, none, order(1, 0), bad(api.ErrArg))
		expectJoin(t, list(none, x), 0, bad(api.ErrArg))
		expectSum(t, none, 0, bad(api.ErrArg))
	}
}

// TestEmptyAndNilAreTheSame: R4, as arguments.
func TestEmptyAndNilAreTheSame(t *testing.T) {
	x := counted(2, 3)
	for _, none := range list(api.Tensor{}, api.Tensor{Shape: []int{}}, api.Tensor{L: []int32{}}, api.Tensor{Shape: []int{}, L: []int32{}}, api.Tensor{Shape: x.Shape}, api.Tensor{Shape: x.Shape, L: []int32{}}) {
		expectShape(t, none, x.Shape, bad(api.ErrArg))
		expectTurn(t, none, nil, bad(api.ErrArg))
		expectTurn(t, none, order(), bad(api.ErrArg))
		expectJoin(t, list(none), 0, bad(api.ErrArg))
		expectJoin(t, list(x, none), 0, bad(api.ErrArg))
		expectSum(t, none, 0, bad(api.ErrArg))
	}
	for _, none := range [][]int{nil, {}} {
		expectShape(t, x, none, bad(api.ErrArg))
		expectTurn(t, x, none, bad(api.ErrArg))
	}
	for _, none := range [][]api.Tensor{nil, {}} {
		expectJoin(t, none, 0, bad(api.ErrArg))
	}
}

// TestSameCallSameResult: R5, nothing is left over from other calls, failed ones included.
func TestSameCallSameResult(t *testing.T) {
	x := counted(2, 3)
	for _, a := range append(goodArguments(), badArguments()...) {
		for _, act := range acts() {
			act.do(givenWith(1, a.l, a.n, a.along))
		}
		expectShape(t, x, dims(3, 2), good(counted(3, 2)))
		expectTurn(t, x, order(1, 0), good(of(dims(3, 2), 1, 4, 2, 5, 3, 6)))
		expectJoin(t, list(x, of(dims(2, 1), 7, 8)), 1, good(of(dims(2, 4), 1, 2, 3, 7, 4, 5, 6, 8)))
		expectSum(t, x, 0, good(of(dims(3), 5, 7, 9)))
		expectSum(t, x, 1, good(of(dims(2), 6, 15)))
	}
}
