package graphs_test

import (
	"math"
	"slices"
	"testing"

	"drydock/api"
	"drydock/graphs"
)

func TestExamples(t *testing.T) {
	g := graph(input(2, 3), weight(3, 2), product(0, 1), relu(2))
	expectShapes(t, g, dims(2, 3), dims(3, 2), dims(2, 2), dims(2, 2))
	if w := graphs.Weights(g); !slices.Equal(w, []int{1}) {
		t.Errorf("Weights = %v", w)
	}
	if i := graphs.Input(g); i != 0 {
		t.Errorf("Input = %d", i)
	}
	expectInvalid(t, graph(g.Nodes[:2]...))
	expectShapes(t, with(g, product(1, 2)), dims(2, 3), dims(3, 2), dims(2, 2), dims(2, 2), dims(3, 2))
	expectInvalid(t, with(g, sum(3, 2)))
	expectInvalid(t, graph())
}

// TestErrorNumber: as the chapter gives it.
func TestErrorNumber(t *testing.T) {
	if s, e := graphs.Shapes(graph(input(2, 3), sum(0, 2))); e != 1 || len(s) != 0 {
		t.Errorf("%v, %d", s, e)
	}
}

// P10.1: which graphs are valid, and P10.2: ErrArg of all others

func TestNumberOfNodes(t *testing.T) {
	expectInvalid(t, graph())
	expectInvalid(t, graph([]api.Node{}...))
	for _, n := range oneOfEach() {
		expectInvalid(t, graph(n))
	}
	g := graph(input(2, 3))
	for len(g.Nodes) < 100 {
		g.Nodes = append(g.Nodes, relu(len(g.Nodes)-1))
		if many := len(g.Nodes); many > 32 {
			expectInvalid(t, g)
		} else {
			expectShapes(t, g, slices.Repeat(shapesOf(dims(2, 3)), many)...)
		}
	}
	expectInvalid(t, graph(slices.Repeat([]api.Node{relu(0)}, 1<<16)...))
}

// TestOneInput: none, two, and one that is anywhere but at the end.
func TestOneInput(t *testing.T) {
	expectInvalid(t, graph(weight(4), relu(0)))
	expectInvalid(t, graph(weight(4), weight(4), add(0, 1)))
	expectInvalid(t, graph(input(4), input(4), relu(0)))
	expectInvalid(t, graph(input(4), input(4), add(0, 1)))
	expectInvalid(t, graph(input(4), relu(0), input(4), relu(1)))
	expectInvalid(t, graph(input(4), input(3), input(2), relu(0)))
	expectInvalid(t, graph(input(4), relu(0), input(3)))
	expectShapes(t, graph(weight(4), input(4), add(0, 1)), dims(4), dims(4), dims(4))
	expectShapes(t, graph(weight(2, 3), relu(0), input(5), relu(2)), dims(2, 3), dims(2, 3), dims(5), dims(5))
	// What the output does not need may be there, the input among it.
	expectShapes(t, graph(weight(2, 3), input(5), relu(0)), dims(2, 3), dims(5), dims(2, 3))
	many := graph(slices.Repeat([]api.Node{weight(1)}, 30)...)
	expectShapes(t, with(many, input(7), relu(30)), append(slices.Repeat(shapesOf(dims(1)), 30), dims(7), dims(7))...)
}

// TestTheLastNode is neither the input nor a weight.
func TestTheLastNode(t *testing.T) {
	expectInvalid(t, graph(input(4)))
	expectInvalid(t, graph(weight(4)))
	expectInvalid(t, graph(weight(4), relu(0), input(4)))
	expectInvalid(t, graph(input(4), relu(0), weight(4)))
	expectInvalid(t, graph(input(4), weight(4)))
	for _, g := range someGraphs() {
		expectPlain(t, g)
		expectInvalid(t, with(g, weight(1)))
		expectInvalid(t, with(g, input(1)))
		expectLast(t, with(g, weight(1), relu(len(g.Nodes))), 1)
	}
}

// TestOtherKinds are none of a node, whatever it has: below the least one, above the greatest one.
func TestOtherKinds(t *testing.T) {
	for kind := range 256 {
		k := api.Kind(kind)
		if k >= api.NkInput && k <= api.NkSum {
			continue
		}
		for _, n := range oneOfEach() {
			n.Kind = k
			expectInvalid(t, graph(n))
			expectInvalid(t, with(base(), n))
			expectInvalid(t, with(base(), n, relu(0)))
		}
		expectInvalid(t, graph(input(1), api.Node{Kind: k}))
		expectInvalid(t, graph(input(1), api.Node{Kind: k}, relu(0)))
		expectInvalid(t, graph(api.Node{Kind: k}, input(1), relu(1)))
		expectInvalid(t, graph(input(1), api.Node{Kind: k, In: []int{0}}))
	}
}

// base is a beginning to which all nodes of oneOfEach fit: an image and filters of 4 4, a row and a column, and all of them twice.
func base() api.Graph {
	return graph(input(2, 4, 4), weight(2, 4, 4), weight(3, 2, 2, 2), weight(4, 2), weight(2, 4), relu(0))
}

// oneOfEach is a node of each kind but the input that fits behind base, and an input.
func oneOfEach() []api.Node {
	return []api.Node{
		input(5), weight(5), add(0, 1), mul(0, 1), relu(0), shift(0, 3), product(3, 4), window(0, 2, 1, 1), pool(0, 2), shape(0, 4, 8), turn(0, 2, 0, 1), join(1, 0, 1), sum(0, 2),
	}
}

// expectFits asks that n may stand behind base and before another node, or, if it must not, that it may in neither place.
func expectFits(t *testing.T, n api.Node, fits bool) {
	t.Helper()
	for _, g := range []api.Graph{with(base(), n, relu(0)), with(base(), n, relu(6)), with(base(), n)} {
		want, ok := plainShapes(g)
		if ok != (fits && !(n.Kind == api.NkWeight && len(g.Nodes) == 7)) {
			t.Errorf("%v: the test is wrong: %v", n, ok)
		}
		if ok {
			expectShapes(t, g, want...)
		} else {
			expectInvalid(t, g)
		}
	}
}

func TestOneOfEachFits(t *testing.T) {
	for _, n := range oneOfEach() {
		expectFits(t, n, n.Kind != api.NkInput)
	}
	expectLast(t, with(base(), add(0, 1)), 2, 4, 4)
	expectLast(t, with(base(), mul(1, 0)), 2, 4, 4)
	expectLast(t, with(base(), relu(2)), 3, 2, 2, 2)
	expectLast(t, with(base(), shift(3, 3)), 4, 2)
	expectLast(t, with(base(), product(3, 4)), 4, 4)
	expectLast(t, with(base(), product(4, 3)), 2, 2)
	expectLast(t, with(base(), window(0, 2, 1, 1)), 3, 5, 5)
	expectLast(t, with(base(), window(0, 2, 2, 0)), 3, 2, 2)
	expectLast(t, with(base(), pool(0, 2)), 2, 2, 2)
	expectLast(t, with(base(), pool(0, 3)), 2, 1, 1)
	expectLast(t, with(base(), shape(0, 4, 8)), 4, 8)
	expectLast(t, with(base(), turn(2, 3, 0, 1, 2)), 2, 3, 2, 2)
	expectLast(t, with(base(), turn(2, 1, 2, 3, 0)), 2, 2, 2, 3)
	expectLast(t, with(base(), join(1, 0, 1)), 2, 8, 4)
	expectLast(t, with(base(), join(0, 0)), 2, 4, 4)
	expectLast(t, with(base(), sum(2, 0)), 2, 2, 2)
	expectLast(t, with(base(), sum(0, 1)), 2, 4)
}

// TestHowManyInputs: one too few, one too many, and many more; they are all there, so that only their number is wrong.
func TestHowManyInputs(t *testing.T) {
	for _, n := range oneOfEach()[1:] {
		for many := range 8 {
			n.In = slices.Repeat([]int{0}, many)
			switch n.Kind {
			case api.NkWeight:
				expectFits(t, n, many == 0)
			case api.NkAdd, api.NkMul:
				expectFits(t, n, many == 2)
			case api.NkProduct:
				n.In = slices.Repeat([]int{3, 4}, 4)[:many]
				expectFits(t, n, many == 2)
			case api.NkWindow:
				n.In = slices.Repeat([]int{0, 2}, 4)[:many]
				expectFits(t, n, many == 2)
			case api.NkJoin:
				expectFits(t, n, many >= 1 && many <= 4)
			default:
				expectFits(t, n, many == 1)
			}
		}
		n.In = make([]int, 1<<16)
		expectFits(t, n, false)
	}
	expectInvalid(t, graph(weight(1), api.Node{Kind: api.NkInput, Shape: dims(1), In: []int{0}}, relu(1)))
}

// TestInputsAreBefore: not the node itself, none behind it, none below 0; in each place.
func TestInputsAreBefore(t *testing.T) {
	for _, n := range oneOfEach() {
		for place := range n.In {
			for _, taken := range append([]int{-1, -2, -6, 6, 7, 8, 31, 32}, farNumbers()...) {
				n := n
				n.In = slices.Clone(n.In)
				n.In[place] = taken
				expectFits(t, n, false)
			}
		}
	}
	expectInvalid(t, graph(relu(0), input(4), relu(1)))
	expectInvalid(t, graph(relu(1), input(4), relu(1)))
	expectInvalid(t, graph(input(4), relu(2), relu(0)))
	expectInvalid(t, graph(input(4), add(0, 1)))
	expectInvalid(t, graph(input(4), add(1, 0)))
	expectInvalid(t, graph(input(4), join(0, 0, 0, 0, 1)))
	expectInvalid(t, graph(input(4), relu(-1)))
	expectShapes(t, graph(input(4), weight(4), relu(0), add(2, 1), add(0, 3)), slices.Repeat(shapesOf(dims(4)), 5)...)
}

// TestSameNodeTwice: as both inputs, or as all four.
func TestSameNodeTwice(t *testing.T) {
	expectLast(t, graph(input(2, 3), add(0, 0)), 2, 3)
	expectLast(t, graph(input(2, 3), mul(0, 0)), 2, 3)
	expectLast(t, graph(input(3, 3), product(0, 0)), 3, 3)
	expectInvalid(t, graph(input(2, 3), product(0, 0)))
	expectInvalid(t, graph(input(2, 2, 2), window(0, 0, 1, 0)))
	expectInvalid(t, graph(input(2, 2, 2, 2), window(0, 0, 1, 0)))
	expectLast(t, graph(input(2, 3), join(0, 0, 0, 0, 0)), 8, 3)
	expectLast(t, graph(input(2, 3), join(1, 0, 0, 0)), 2, 9)
}

// TestFieldsThatAKindHasNot: each of them, set, and nothing else wrong.
func TestFieldsThatAKindHasNot(t *testing.T) {
	hasN := []api.Kind{api.NkShift, api.NkWindow, api.NkPool, api.NkJoin, api.NkSum}
	hasShape := []api.Kind{api.NkInput, api.NkWeight, api.NkShape, api.NkTurn}
	for _, n := range oneOfEach()[1:] {
		for _, number := range append([]int{-1, 1, 2, 3}, farNumbers()...) {
			other := n
			if other.N = number; !slices.Contains(hasN, n.Kind) {
				expectFits(t, other, false)
			}
			other = n
			if other.Pad = number; n.Kind != api.NkWindow {
				expectFits(t, other, false)
			}
		}
		for _, s := range [][]int{{0}, {1}, {1, 0}, {2, 4, 4}, {4, 8}, {-1}, make([]int, 100)} {
			other := n
			if other.Shape = s; !slices.Contains(hasShape, n.Kind) {
				expectFits(t, other, false)
			}
		}
		other := n
		if other.Shape = []int{}; !slices.Contains(hasShape, n.Kind) {
			expectFits(t, other, true)
		}
	}
	for _, n := range []api.Node{{Kind: api.NkInput, Shape: dims(4), N: 1}, {Kind: api.NkInput, Shape: dims(4), Pad: 1}, {Kind: api.NkInput, Shape: dims(4), N: -1}} {
		expectInvalid(t, graph(n, relu(0)))
	}
}

func TestNumberOfAShift(t *testing.T) {
	for n := -40; n <= 80; n++ {
		expectFits(t, shift(0, n), n >= 0 && n <= 31)
	}
	for _, n := range farNumbers() {
		expectFits(t, shift(0, n), false)
	}
}

func TestStrideAndPadding(t *testing.T) {
	for step := -10; step <= 20; step++ {
		for pad := -10; pad <= 20; pad++ {
			expectFits(t, window(0, 2, step, pad), step >= 1 && step <= 8 && pad >= 0 && pad <= 8)
		}
	}
	for _, n := range farNumbers() {
		expectFits(t, window(0, 2, n, 0), false)
		expectFits(t, window(0, 2, 1, n), false)
	}
	expectLast(t, with(base(), window(0, 2, 8, 0)), 3, 1, 1)
	expectLast(t, with(base(), window(0, 2, 1, 8)), 3, 19, 19)
	expectLast(t, with(base(), window(0, 2, 8, 8)), 3, 3, 3)
	expectLast(t, with(base(), window(0, 2, 3, 1)), 3, 2, 2)
}

func TestNumberOfAPool(t *testing.T) {
	for n := -10; n <= 140; n++ {
		expectFits(t, pool(0, n), n >= 1 && n <= 4)
		wide := graph(input(1, 64, 64), pool(0, n))
		if n >= 1 && n <= 64 {
			expectLast(t, wide, 1, 64/n, 64/n)
		} else {
			expectInvalid(t, wide)
		}
	}
	for _, n := range farNumbers() {
		expectFits(t, pool(0, n), false)
	}
	expectLast(t, graph(input(3, 5, 7), pool(0, 5)), 3, 1, 1)
	expectLast(t, graph(input(3, 5, 7), pool(0, 2)), 3, 2, 3)
	expectInvalid(t, graph(input(3, 5, 7), pool(0, 6)))
	expectInvalid(t, graph(input(3, 7, 5), pool(0, 6)))
	for _, s := range [][]int{{4}, {4, 4}, {2, 4, 4, 1}, {1, 2, 4, 4}} {
		expectInvalid(t, graph(input(s...), pool(0, 1)))
	}
}

// TestFieldShape of an input, of a weight, and of another shape: nil and empty among what is none.
func TestFieldShape(t *testing.T) {
	for _, s := range notShapes() {
		expectInvalid(t, graph(input(s...), relu(0)))
		expectInvalid(t, graph(input(s...), weight(1), relu(1)))
		expectInvalid(t, graph(input(1), weight(s...), relu(0)))
		expectInvalid(t, graph(input(1), weight(s...), relu(1)))
		for _, from := range [][]int{{1}, {6}, {2, 3}, {64, 64}, {5, 13}} {
			expectInvalid(t, graph(input(from...), shape(0, s...)))
		}
	}
	for _, s := range [][]int{{1}, {64}, {1, 1, 1, 1}, {64, 64}, {8, 8, 8, 8}, {64, 1, 1, 64}} {
		expectShapes(t, graph(input(s...), weight(s...), shape(0, s...), shape(1, s...)), s, s, s, s)
	}
}

func TestShapeOfAnotherSize(t *testing.T) {
	for _, from := range [][]int{{1}, {5}, {6}, {64}, {2, 3}, {3, 2}, {64, 64}, {63, 64}, {2, 1, 3}, {8, 8, 8, 8}, {1, 2, 1, 3}} {
		for _, to := range [][]int{{1}, {5}, {6}, {7}, {64}, {1, 6}, {2, 3}, {64, 64}, {64, 63}, {3, 1, 2}, {16, 16, 16}, {8, 8, 8, 8}, {1, 1, 1, 1}, {1, 1, 1, 6}} {
			if sizeOf(from) == sizeOf(to) {
				expectShapes(t, graph(input(from...), shape(0, to...)), from, to)
			} else {
				expectInvalid(t, graph(input(from...), shape(0, to...)))
			}
		}
	}
}

// TestOrders: a dimension twice, one left out, one too many or too few, and all that are right.
func TestOrders(t *testing.T) {
	numbers := []int{-1, 0, 1, 2, 3, 4}
	for _, s := range [][]int{{5}, {2, 3}, {2, 3, 4}, {2, 3, 4, 5}, {1, 1, 1, 1}} {
		for _, a := range numbers {
			expectPlain(t, graph(input(s...), turn(0, a)))
			for _, b := range numbers {
				expectPlain(t, graph(input(s...), turn(0, a, b)))
				for _, c := range numbers {
					expectPlain(t, graph(input(s...), turn(0, a, b, c)))
					for _, d := range numbers {
						expectPlain(t, graph(input(s...), turn(0, a, b, c, d)))
					}
				}
			}
		}
		expectInvalid(t, graph(input(s...), turn(0)))
		expectInvalid(t, graph(input(s...), turn(0, []int{}...)))
		expectInvalid(t, graph(input(s...), turn(0, 0, 1, 2, 3, 4)))
		expectInvalid(t, graph(input(s...), turn(0, make([]int, 1<<16)...)))
		for _, n := range farNumbers() {
			expectInvalid(t, graph(input(s...), turn(0, slices.Repeat([]int{n}, len(s))...)))
		}
	}
	expectLast(t, graph(input(2, 3, 4), turn(0, 1, 2, 0)), 3, 4, 2)
	expectLast(t, graph(input(2, 3, 4), turn(0, 2, 0, 1)), 4, 2, 3)
	expectLast(t, graph(input(2, 3, 4, 5), turn(0, 3, 0, 2, 1)), 5, 2, 4, 3)
	expectInvalid(t, graph(input(2, 3), turn(0, 0)))
	expectInvalid(t, graph(input(2, 3), turn(0, 0, 1, 2)))
}

// TestAlong: a join and a sum along each number, of as many dimensions as there may be.
func TestAlong(t *testing.T) {
	for _, s := range [][]int{{5}, {2, 3}, {2, 3, 4}, {2, 3, 4, 5}} {
		for along := -6; along <= 10; along++ {
			for many := 1; many <= 4; many++ {
				expectPlain(t, graph(input(s...), join(along, make([]int, many)...)))
			}
			expectPlain(t, graph(input(s...), sum(0, along)))
			if along < 0 || along >= len(s) {
				expectInvalid(t, graph(input(s...), join(along, 0)))
				expectInvalid(t, graph(input(s...), sum(0, along)))
			}
		}
		for _, along := range farNumbers() {
			expectInvalid(t, graph(input(s...), join(along, 0)))
			expectInvalid(t, graph(input(s...), sum(0, along)))
		}
	}
	expectLast(t, graph(input(5), sum(0, 0)), 1)
	expectLast(t, graph(input(5), sum(0, 0), sum(1, 0)), 1)
	expectLast(t, graph(input(1), sum(0, 0)), 1)
	expectLast(t, graph(input(2, 3), sum(0, 0)), 3)
	expectLast(t, graph(input(2, 3), sum(0, 1)), 2)
	expectLast(t, graph(input(2, 3, 4, 5), sum(0, 2)), 2, 3, 5)
	expectLast(t, graph(input(2, 3), weight(2, 5), weight(2, 1), join(1, 2, 0, 1)), 2, 9)
	// It is a dimension of a later one that is joined, but none of the first one.
	expectInvalid(t, graph(input(2), weight(2, 3), join(1, 0, 1)))
	expectInvalid(t, graph(input(2), weight(2, 3), join(1, 1, 0)))
}

// TestShapesThatDiffer where they must not, or have other than so many dimensions.
func TestShapesThatDiffer(t *testing.T) {
	all := [][]int{{1}, {2}, {3}, {6}, {64}, {1, 1}, {2, 3}, {3, 2}, {2, 2}, {6, 1}, {1, 6}, {64, 64}, {1, 2, 3}, {2, 3, 1}, {2, 3, 3}, {2, 2, 2}, {4, 3, 3}, {1, 64, 64}, {2, 3, 1, 1}, {1, 1, 2, 3}, {4, 2, 3, 3}, {2, 4, 1, 2}, {8, 8, 8, 8}, {64, 1, 1, 1}, {64, 2, 1, 1}}
	for _, a := range all {
		for _, b := range all {
			g := graph(input(a...), weight(b...))
			for _, n := range []api.Node{add(0, 1), mul(0, 1), mul(1, 0), product(0, 1), window(0, 1, 1, 0), window(0, 1, 1, 1), window(0, 1, 2, 8), window(1, 0, 1, 0)} {
				expectPlain(t, with(g, n))
			}
			for along := range 4 {
				expectPlain(t, with(g, join(along, 0, 1)))
				expectPlain(t, with(g, join(along, 0, 0, 1)))
				expectPlain(t, with(g, join(along, 0, 1, 0, 1)))
			}
		}
	}
	expectInvalid(t, graph(input(2, 3), weight(3, 2), add(0, 1)))
	expectInvalid(t, graph(input(2, 3), weight(2, 3, 1), mul(0, 1)))
	expectInvalid(t, graph(input(6), weight(2, 3), add(0, 1)))
	expectInvalid(t, graph(input(2, 3), weight(2, 3), product(0, 1)))
	expectInvalid(t, graph(input(2, 3), weight(3), product(0, 1)))
	expectInvalid(t, graph(input(2, 4, 4), weight(1, 3, 2, 2), window(0, 1, 1, 0)))
	expectInvalid(t, graph(input(2, 4, 4), weight(1, 2, 5, 2), window(0, 1, 1, 0)))
	expectLast(t, graph(input(2, 4, 4), weight(1, 2, 5, 2), window(0, 1, 1, 1)), 1, 2, 5)
	expectInvalid(t, graph(input(2, 3), weight(3, 3), join(1, 0, 1)))
	expectLast(t, graph(input(2, 3), weight(3, 3), join(0, 0, 1)), 5, 3)
	expectInvalid(t, graph(input(2, 3), weight(2, 3), weight(2, 4), join(0, 0, 1, 2)))
	expectInvalid(t, graph(input(2, 3), weight(2, 3), weight(2, 3, 1), join(0, 0, 1, 2)))
}

// TestTheGreatestShapes: results with MaxDim along a dimension, or MaxSize numbers, and above that.
func TestTheGreatestShapes(t *testing.T) {
	expectLast(t, graph(input(16), join(0, 0, 0, 0, 0)), 64)
	expectLast(t, graph(input(31), weight(33), join(0, 0, 1)), 64)
	expectInvalid(t, graph(input(32), weight(33), join(0, 0, 1)))
	expectInvalid(t, graph(input(17), join(0, 0, 0, 0, 0)))
	expectInvalid(t, graph(input(64), join(0, 0, 0)))
	expectLast(t, graph(input(32, 32), join(0, 0, 0), join(1, 1, 1)), 64, 64)
	expectLast(t, graph(input(2, 32, 64), join(0, 0)), 2, 32, 64)
	expectInvalid(t, graph(input(2, 32, 64), join(0, 0, 0)))
	expectInvalid(t, graph(input(8, 8, 8, 8), weight(8, 8, 8, 1), join(3, 0, 1)))
	expectLast(t, graph(input(8, 8, 8, 7), weight(8, 8, 8, 1), join(3, 0, 1)), 8, 8, 8, 8)
	expectLast(t, graph(input(64, 1), weight(1, 64), product(0, 1)), 64, 64)
	expectLast(t, graph(input(1, 8, 8), weight(64, 1, 1, 1), window(0, 1, 1, 0)), 64, 8, 8)
	expectInvalid(t, graph(input(1, 8, 9), weight(64, 1, 1, 1), window(0, 1, 1, 0)))
	expectInvalid(t, graph(input(1, 8, 8), weight(64, 1, 1, 1), window(0, 1, 1, 1)))
	expectLast(t, graph(input(1, 1, 48), weight(1, 1, 1, 1), window(0, 1, 1, 8)), 1, 17, 64)
	expectInvalid(t, graph(input(1, 1, 49), weight(1, 1, 1, 1), window(0, 1, 1, 8)))
	expectInvalid(t, graph(input(64, 64), shape(0, 64, 64, 2)))
}

// TestOneFaultAnywhere: also in a node that no other one takes.
func TestOneFaultAnywhere(t *testing.T) {
	for _, g := range someGraphs() {
		for at := range g.Nodes {
			for _, change := range []func(n *api.Node){
				func(n *api.Node) { n.Kind = 0 },
				func(n *api.Node) { n.Kind = 14 },
				func(n *api.Node) { n.Pad = -1 },
				func(n *api.Node) { n.N = 65 },
				func(n *api.Node) { n.In = append(n.In, at) },
				func(n *api.Node) { n.In = append(n.In, 0, 0, 0, 0, 0) },
				func(n *api.Node) { n.Shape = append(n.Shape, 0) },
			} {
				other := copyOf(g)
				change(&other.Nodes[at])
				expectInvalid(t, other)
			}
		}
	}
}

// P10.2

func TestShapesOfSomeGraphs(t *testing.T) {
	for _, g := range someGraphs() {
		want, ok := plainShapes(g)
		if !ok {
			t.Errorf("%v: the test is wrong", g)
		}
		expectShapes(t, g, want...)
	}
	expectShapes(t, someGraphs()[len(someGraphs())-5],
		dims(2, 4, 4), dims(3, 2, 2, 2), dims(3, 3, 3), dims(3, 1, 1), dims(3, 1), dims(1, 3), dims(3, 3), dims(6, 3), dims(6), dims(6), dims(6), dims(6), dims(6))
}

// TestGrownGraphs: node by node, each one that fits, and those that don't.
func TestGrownGraphs(t *testing.T) {
	fits, fails := map[api.Kind]int{}, map[api.Kind]int{}
	for seed := range uint32(400) {
		r := generator{seed}
		g := graph(input(r.one(1, 2, 3, 4), r.one(1, 2, 4), r.one(1, 3, 4)), weight(2, 3), relu(0))
		for tried := 0; tried < 60 && len(g.Nodes) < 32; tried++ {
			n := r.node(len(g.Nodes))
			longer := with(g, n)
			expectPlain(t, longer)
			if n.Kind == api.NkWeight {
				longer = with(longer, relu(len(g.Nodes)))
			}
			if _, ok := plainShapes(longer); ok {
				fits[n.Kind]++
				expectPlain(t, longer)
				g = longer
			} else {
				fails[n.Kind]++
			}
		}
	}
	for k := api.NkWeight; k <= api.NkSum; k++ {
		if fits[k] < 10 || fails[k] < 10 && k != api.NkWeight && k != api.NkRelu {
			t.Errorf("kind %d: %d fit, %d did not", k, fits[k], fails[k])
		}
	}
}

// P10.3

func TestWeightsAndInput(t *testing.T) {
	for _, g := range someGraphs() {
		expectKinds(t, g)
	}
	for _, c := range []struct {
		g       api.Graph
		weights []int
		input   int
	}{
		{graph(), nil, -1},
		{graph(relu(0)), nil, -1},
		{graph(weight(1)), []int{0}, -1},
		{graph(input(1)), nil, 0},
		{graph(input(1), relu(0)), nil, 0},
		{graph(weight(1), relu(0), weight(1), input(1), weight(1), relu(4)), []int{0, 2, 4}, 3},
		{graph(relu(9), input(0), input(1), weight(), input(2)), []int{3}, 1},
		{graph(relu(9), relu(9), input()), nil, 2},
		{graph(weight(), weight(-1), weight(65)), []int{0, 1, 2}, -1},
		{graph(api.Node{Kind: 0}, api.Node{Kind: 14}, api.Node{Kind: 255}), nil, -1},
		{graph(api.Node{Kind: 255}, api.Node{Kind: 2, In: []int{7}, N: 3}, api.Node{Kind: 1, Pad: 7}), []int{1}, 2},
	} {
		if w := graphs.Weights(c.g); !slices.Equal(w, c.weights) {
			t.Errorf("Weights(%v) = %v, want %v", c.g, w, c.weights)
		}
		if i := graphs.Input(c.g); i != c.input {
			t.Errorf("Input(%v) = %d, want %d", c.g, i, c.input)
		}
	}
}

// TestWeightsAndInputOfEachKind: no other kind is taken for one of the two.
func TestWeightsAndInputOfEachKind(t *testing.T) {
	for kind := range 256 {
		expectKinds(t, graph(api.Node{Kind: api.Kind(kind)}))
		expectKinds(t, graph(relu(0), api.Node{Kind: api.Kind(kind)}, relu(0)))
	}
}

// TestWeightsAndInputOfLongGraphs: above MaxNodes as well.
func TestWeightsAndInputOfLongGraphs(t *testing.T) {
	for _, many := range []int{31, 32, 33, 34, 100, 1 << 16} {
		l := make([]api.Node, many)
		for i := range l {
			l[i] = [...]api.Node{relu(0), weight(1), weight(0), add(0, 0)}[i%4]
		}
		if w := graphs.Weights(graph(l...)); !slices.Equal(w, plainWeights(graph(l...))) {
			t.Errorf("%d nodes: %d weights", many, len(w))
		}
		if i := graphs.Input(graph(l...)); i != -1 {
			t.Errorf("%d nodes: Input = %d", many, i)
		}
		l[many-1] = input(1)
		if i := graphs.Input(graph(l...)); i != many-1 {
			t.Errorf("%d nodes: Input = %d", many, i)
		}
	}
}

// P10.4

// TestBeginnings: one that has the input, and ends with a node that may be the last one, is valid, with the same shapes; each other one is not.
func TestBeginnings(t *testing.T) {
	for _, g := range someGraphs() {
		all, _ := graphs.Shapes(g)
		for many := range len(g.Nodes) + 1 {
			beginning := graph(g.Nodes[:many]...)
			kinds := func(k api.Kind) bool {
				return slices.ContainsFunc(beginning.Nodes, func(n api.Node) bool { return n.Kind == k })
			}
			if many > 0 && kinds(api.NkInput) && g.Nodes[many-1].Kind != api.NkInput && g.Nodes[many-1].Kind != api.NkWeight {
				expectShapes(t, beginning, all[:many]...)
			} else {
				expectInvalid(t, beginning)
			}
		}
	}
}

// TestOneMoreNode that fits, behind a valid graph: the shapes before it stay as they are.
func TestOneMoreNode(t *testing.T) {
	for _, g := range someGraphs() {
		all, _ := graphs.Shapes(g)
		last := len(all) - 1
		s := all[last]
		turned := slices.Clone(s)
		slices.Reverse(turned)
		order := make([]int, len(s))
		for d := range s {
			order[d] = len(s) - 1 - d
		}
		for _, c := range []struct {
			n    api.Node
			want []int
		}{{relu(last), s}, {relu(0), all[0]}, {shift(last, 31), s}, {add(last, last), s}, {mul(last, last), s}, {shape(last, s...), s}, {turn(last, order...), turned}, {join(len(s)-1, last), s}} {
			expectShapes(t, with(g, c.n), append(slices.Clone(all), c.want)...)
		}
		expectInvalid(t, with(g, sum(last, len(s))))
		expectInvalid(t, with(g, relu(last+1)))
		expectInvalid(t, with(g, input(1), relu(0)))
	}
}

// TestLaterNodesChangeNothing: the shape of a node depends only on those before it.
func TestLaterNodesChangeNothing(t *testing.T) {
	for _, g := range someGraphs() {
		all, _ := graphs.Shapes(g)
		for _, h := range someGraphs() {
			behind := copyOf(h)
			for i, n := range behind.Nodes {
				if n.Kind == api.NkInput {
					behind.Nodes[i].Kind = api.NkWeight
				}
				for j := range n.In {
					n.In[j] += len(g.Nodes)
				}
			}
			later, _ := graphs.Shapes(h)
			if len(g.Nodes)+len(h.Nodes) <= 32 {
				expectShapes(t, with(g, behind.Nodes...), slices.Concat(all, later)...)
			}
		}
	}
}

// R1

// FuzzAll: R1 and P10.1 to P10.3 for any nodes: no call panics, and an error comes alone.
func FuzzAll(f *testing.F) {
	for i, g := range someGraphs() {
		f.Add(bytesOf(g), 0, 0, uint8(i), uint32(i))
		f.Add(bytesOf(g), i%7, i%3-1, uint8(i), uint32(i))
	}
	f.Add([]byte{1, 0, 1, 65, 0, 0, 5, 1, 0, 0, 0, 0}, math.MinInt, math.MaxInt, uint8(1), uint32(1))
	f.Fuzz(func(t *testing.T, b []byte, n, pad int, at uint8, seed uint32) {
		g := graphOf(b)
		expectPlain(t, g)
		r := generator{seed}
		for range 4 {
			if len(g.Nodes) > 0 && len(g.Nodes) < 40 {
				g = with(g, r.node(len(g.Nodes)))
				expectPlain(t, g)
			}
		}
		if int(at) < len(g.Nodes) {
			g.Nodes[at].N, g.Nodes[at].Pad = n, pad
			expectPlain(t, g)
			g.Nodes[at].In = []int{n, pad}
			expectPlain(t, g)
			g.Nodes[at].In, g.Nodes[at].Shape = nil, []int{n, pad}
			expectPlain(t, g)
		}
	})
}

// bytesOf writes a graph for graphOf: for each node its kind, how many inputs, these, how many numbers its Shape has, these, N and Pad.
func bytesOf(g api.Graph) []byte {
	var b []byte
	list := func(l []int) {
		b = append(b, byte(len(l)))
		for _, x := range l {
			b = append(b, byte(x))
		}
	}
	for _, n := range g.Nodes {
		b = append(b, byte(n.Kind))
		list(n.In)
		list(n.Shape)
		b = append(b, byte(n.N), byte(n.Pad))
	}
	return b
}

// graphOf reads any bytes: behind their end there are zeros.
func graphOf(b []byte) api.Graph {
	next := func() int {
		if len(b) == 0 {
			return 0
		}
		x := int(int8(b[0]))
		b = b[1:]
		return x
	}
	list := func() []int {
		l := make([]int, min(uint(next()), 9))
		for i := range l {
			l[i] = next()
		}
		return l
	}
	var g api.Graph
	for len(b) > 0 && len(g.Nodes) < 40 {
		g.Nodes = append(g.Nodes, api.Node{Kind: api.Kind(next()), In: list(), Shape: list(), N: next(), Pad: next()})
	}
	return g
}
