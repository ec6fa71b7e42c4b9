package graphs_test

import (
	"math"
	"slices"
	"testing"

	"drydock/api"
	"drydock/graphs"
	"drydock/maths"
	"drydock/moves"
	"drydock/products"
	"drydock/windows"
)

func graph(l ...api.Node) api.Graph { return api.Graph{Nodes: l} }

func dims(s ...int) []int { return s }

func shapesOf(l ...[]int) [][]int { return l }

// The next ones are nodes of each kind, valid or not.

func input(s ...int) api.Node        { return api.Node{Kind: api.NkInput, Shape: s} }
func weight(s ...int) api.Node       { return api.Node{Kind: api.NkWeight, Shape: s} }
func add(a, b int) api.Node          { return api.Node{Kind: api.NkAdd, In: []int{a, b}} }
func mul(a, b int) api.Node          { return api.Node{Kind: api.NkMul, In: []int{a, b}} }
func relu(a int) api.Node            { return api.Node{Kind: api.NkRelu, In: []int{a}} }
func shift(a, n int) api.Node        { return api.Node{Kind: api.NkShift, In: []int{a}, N: n} }
func product(a, b int) api.Node      { return api.Node{Kind: api.NkProduct, In: []int{a, b}} }
func pool(a, wide int) api.Node      { return api.Node{Kind: api.NkPool, In: []int{a}, N: wide} }
func shape(a int, s ...int) api.Node { return api.Node{Kind: api.NkShape, In: []int{a}, Shape: s} }
func turn(a int, order ...int) api.Node {
	return api.Node{Kind: api.NkTurn, In: []int{a}, Shape: order}
}
func join(along int, in ...int) api.Node {
	return api.Node{Kind: api.NkJoin, In: in, N: along}
}
func sum(a, along int) api.Node { return api.Node{Kind: api.NkSum, In: []int{a}, N: along} }
func window(a, b, step, pad int) api.Node {
	return api.Node{Kind: api.NkWindow, In: []int{a, b}, N: step, Pad: pad}
}

// copyOf is a graph with memory of its own.
func copyOf(g api.Graph) api.Graph {
	var all []api.Node
	for _, n := range g.Nodes {
		n.In, n.Shape = slices.Clone(n.In), slices.Clone(n.Shape)
		all = append(all, n)
	}
	return graph(all...)
}

// with is a graph with more nodes.
func with(g api.Graph, l ...api.Node) api.Graph {
	return graph(slices.Concat(copyOf(g).Nodes, l)...)
}

// isShape is the document's definition. The limits stand as numbers; no product of such dimensions is too great for an int.
func isShape(s []int) bool {
	if len(s) < 1 || len(s) > 4 {
		return false
	}
	for _, dim := range s {
		if dim < 1 || dim > 64 {
			return false
		}
	}
	return sizeOf(s) <= 4096
}

func sizeOf(s []int) int {
	all := 1
	for _, dim := range s {
		all *= dim
	}
	return all
}

// isOrder reports whether the numbers of l, sorted, are those from 0 on: of one to four dimensions.
func isOrder(l []int) bool {
	if len(l) < 1 || len(l) > 4 {
		return false
	}
	for i, d := range slices.Sorted(slices.Values(l)) {
		if i != d {
			return false
		}
	}
	return true
}

func within(number, least, most int) bool { return number >= least && number <= most }

// plainConforms is the table of the chapter, line by line.
func plainConforms(n api.Node) bool {
	inputs, noN, noPad, noShape := len(n.In), n.N == 0, n.Pad == 0, len(n.Shape) == 0
	switch n.Kind {
	case api.NkInput, api.NkWeight:
		return inputs == 0 && isShape(n.Shape) && noN && noPad
	case api.NkAdd, api.NkMul, api.NkProduct:
		return inputs == 2 && noShape && noN && noPad
	case api.NkRelu:
		return inputs == 1 && noShape && noN && noPad
	case api.NkShift:
		return inputs == 1 && within(n.N, 0, 31) && noShape && noPad
	case api.NkWindow:
		return inputs == 2 && within(n.N, 1, 8) && within(n.Pad, 0, 8) && noShape
	case api.NkPool:
		return inputs == 1 && within(n.N, 1, 64) && noShape && noPad
	case api.NkShape:
		return inputs == 1 && isShape(n.Shape) && noN && noPad
	case api.NkTurn:
		return inputs == 1 && isOrder(n.Shape) && noN && noPad
	case api.NkJoin:
		return within(inputs, 1, 4) && within(n.N, 0, 3) && noShape && noPad
	case api.NkSum:
		return inputs == 1 && within(n.N, 0, 3) && noShape && noPad
	}
	return false
}

// zeros is a tensor with a shape.
func zeros(s []int) api.Tensor {
	return api.Tensor{Shape: slices.Clone(s), L: make([]int32, sizeOf(s))}
}

// plainShape is the shape of a node that conforms to its kind: that of the result of the call itself, for tensors with the shapes of its inputs.
func plainShape(n api.Node, in []api.Tensor) ([]int, bool) {
	var t api.Tensor
	var e api.Errno
	switch n.Kind {
	case api.NkInput, api.NkWeight:
		t.Shape = n.Shape
	case api.NkAdd:
		t, e = maths.Add(in[0], in[1])
	case api.NkMul:
		t, e = maths.Mul(in[0], in[1])
	case api.NkRelu:
		t, e = maths.Relu(in[0])
	case api.NkShift:
		t, e = maths.Shift(in[0], n.N)
	case api.NkProduct:
		t, e = products.Of(in[0], in[1])
	case api.NkWindow:
		t, e = windows.Of(in[0], in[1], n.N, n.Pad)
	case api.NkPool:
		t, e = windows.Pool(in[0], n.N)
	case api.NkShape:
		t, e = moves.Shape(in[0], n.Shape)
	case api.NkTurn:
		t, e = moves.Turn(in[0], n.Shape)
	case api.NkJoin:
		t, e = moves.Join(in, n.N)
	case api.NkSum:
		t, e = moves.Sum(in[0], n.N)
	}
	return t.Shape, e == api.OK
}

// plainShapes is the chapter's definition of a valid graph, and the shapes of its nodes.
func plainShapes(g api.Graph) ([][]int, bool) {
	if !within(len(g.Nodes), 1, 32) {
		return nil, false
	}
	var known [][]int
	inputs := 0
	for i, n := range g.Nodes {
		if !plainConforms(n) || slices.ContainsFunc(n.In, func(taken int) bool { return taken < 0 || taken >= i }) {
			return nil, false
		}
		var in []api.Tensor
		for _, taken := range n.In {
			in = append(in, zeros(known[taken]))
		}
		s, ok := plainShape(n, in)
		if !ok {
			return nil, false
		}
		known = append(known, slices.Clone(s))
		if n.Kind == api.NkInput {
			inputs++
		}
	}
	last := g.Nodes[len(g.Nodes)-1].Kind
	if inputs != 1 || last == api.NkInput || last == api.NkWeight {
		return nil, false
	}
	return known, true
}

// plainWeights is P10.3 as the document words it.
func plainWeights(g api.Graph) []int {
	var all []int
	for i := range g.Nodes {
		if g.Nodes[i].Kind == 2 {
			all = append(all, i)
		}
	}
	return all
}

// plainInput is P10.3 as the document words it.
func plainInput(g api.Graph) int {
	for i := range g.Nodes {
		if g.Nodes[i].Kind == 1 {
			return i
		}
	}
	return -1
}

// someGraphs are valid ones: each kind is the last one somewhere, and stands behind several others.
func someGraphs() []api.Graph {
	var all []api.Graph
	for _, s := range [][]int{{1}, {64}, {2, 3}, {64, 64}, {3, 1, 4}, {16, 16, 16}, {2, 3, 4, 5}, {8, 8, 8, 8}} {
		all = append(all, graph(input(s...), relu(0)), graph(weight(s...), input(s...), add(0, 1), mul(2, 2), shift(3, 31), shift(4, 0)))
		for along := range s {
			all = append(all, graph(input(s...), sum(0, along)), graph(input(s...), join(along, 0)))
		}
	}
	return append(all,
		graph(input(2, 3), weight(3, 2), product(0, 1), relu(2)),
		graph(weight(1, 64), input(64, 1), product(0, 1), product(1, 0)),
		graph(input(2, 4, 4), weight(3, 2, 2, 2), window(0, 1, 2, 1), pool(2, 2), shape(3, 3, 1), turn(4, 1, 0), product(4, 5), join(0, 6, 6), sum(7, 1), shift(8, 31), add(9, 8), mul(10, 10), relu(11)),
		graph(weight(2), weight(3), input(4), join(0, 0, 1, 2), join(0, 2, 2, 2, 2), sum(4, 0)),
		graph(input(1, 64, 64), pool(0, 64), shape(0, 8, 8, 8, 8), turn(2, 3, 1, 0, 2), sum(3, 1), sum(4, 2), sum(5, 0), sum(6, 0)),
		graph(input(5), sum(0, 0), shape(1, 1, 1, 1, 1), turn(2, 3, 2, 1, 0), shape(3, 1)),
		graph(weight(4, 1, 3, 3), weight(2, 4, 1, 1), input(1, 9, 7), window(2, 0, 1, 8), window(2, 0, 8, 0), window(4, 1, 1, 0), weight(1), join(0, 2, 2)),
	)
}

// notShapes are lists that are no shape. The least product above MaxSize that there is, is 4100.
func notShapes() [][]int {
	return [][]int{
		nil, {}, {0}, {-1}, {65}, {4096}, {math.MinInt}, {math.MaxInt}, {1<<32 + 1},
		{0, 0}, {2, 0}, {0, 2}, {-1, -1}, {-2, -3}, {1, 65}, {65, 1}, {math.MinInt, 2}, {1 << 32, 1 << 32},
		{0, 1, 1}, {1, 0, 1}, {65, 1, 1}, {1, 1, 65}, {-1, -1, 6}, {41, 50, 2}, {64, 64, 2}, {1, math.MaxInt, 3},
		{1, 1, 1, 0}, {65, 1, 1, 1}, {-1, -1, -2, -3}, {8, 8, 8, 9}, {64, 64, 64, 64}, {1 << 32, 1, 1 << 32, 1},
		{1, 1, 1, 1, 1}, {2, 3, 1, 1, 1}, {0, 0, 0, 0, 0}, slices.Repeat([]int{1}, 1000),
	}
}

// farNumbers are far from what any field may be.
func farNumbers() []int {
	return []int{math.MinInt, math.MinInt32, -1 << 32, -1000, 256, 1 << 16, math.MaxInt32, 1 << 32, 1<<32 + 1, math.MaxInt}
}

// generator makes numbers that are different each time, but the same for the same start.
type generator struct{ x uint32 }

func (r *generator) number(below int) int {
	r.x = r.x*1664525 + 1013904223
	return int(r.x>>8) % below
}

func (r *generator) one(l ...int) int { return l[r.number(len(l))] }

// node is any one that may come behind so many others: it often fits, and often does not.
func (r *generator) node(behind int) api.Node {
	at := func() int { return behind - 1 - r.number(min(behind, 5)) }
	s := make([]int, 1+r.number(4))
	for d := range s {
		s[d] = r.one(1, 1, 2, 2, 3, 4, 6, 8)
	}
	switch api.Kind(2 + r.number(12)) {
	case api.NkWeight:
		if r.number(2) == 0 {
			s = dims(1+r.number(2), r.one(1, 2, 3, 4), 1+r.number(2), 1+r.number(2))
		}
		return weight(s...)
	case api.NkAdd:
		return add(at(), at())
	case api.NkMul:
		return mul(at(), at())
	case api.NkRelu:
		return relu(at())
	case api.NkShift:
		return shift(at(), r.one(0, 1, 31, 32))
	case api.NkProduct:
		return product(at(), at())
	case api.NkWindow:
		return window(at(), at(), r.one(0, 1, 2, 8), r.one(0, 1, 8))
	case api.NkPool:
		return pool(at(), r.one(0, 1, 1, 2, 3))
	case api.NkShape:
		return shape(at(), s...)
	case api.NkTurn:
		return turn(at(), [][]int{{0}, {1, 0}, {0, 2, 1}, {1, 2, 0}, {3, 0, 2, 1}, {0, 0}}[r.number(6)]...)
	case api.NkJoin:
		return join(r.number(4), [][]int{{at()}, {at(), at()}, {at(), at(), at()}, {at(), at(), at(), at()}}[r.number(4)]...)
	}
	return sum(at(), r.number(4))
}

func same(a, b [][]int) bool { return slices.EqualFunc(a, b, slices.Equal) }

// expectShapes asks for a valid graph with these shapes.
func expectShapes(t *testing.T, g api.Graph, want ...[]int) {
	t.Helper()
	s, e := graphs.Shapes(g)
	if e != api.OK || !same(s, want) {
		t.Errorf("Shapes(%v) = %v, %d; want %v", g, s, e, want)
	}
	if !graphs.Check(g) {
		t.Errorf("Check(%v) = false", g)
	}
}

// expectLast asks for a valid graph whose last node has this shape.
func expectLast(t *testing.T, g api.Graph, want ...int) {
	t.Helper()
	s, e := graphs.Shapes(g)
	if e != api.OK || len(s) != len(g.Nodes) || !slices.Equal(s[len(s)-1], want) {
		t.Errorf("Shapes(%v) = %v, %d; want %v at the end", g, s, e, want)
	}
	if !graphs.Check(g) {
		t.Errorf("Check(%v) = false", g)
	}
}

// expectInvalid asks for ErrArg and nothing else (R2).
func expectInvalid(t *testing.T, g api.Graph) {
	t.Helper()
	short := g
	short.Nodes = g.Nodes[:min(len(g.Nodes), 40)]
	if s, e := graphs.Shapes(g); e != api.ErrArg || len(s) != 0 {
		t.Errorf("Shapes(%v) = %v, %d; want ErrArg and nothing else", short, s, e)
	}
	if graphs.Check(g) {
		t.Errorf("Check(%v) = true", short)
	}
}

// expectPlain asks for what the document says, be the graph valid or not.
func expectPlain(t *testing.T, g api.Graph) {
	t.Helper()
	if want, ok := plainShapes(g); ok {
		expectShapes(t, g, want...)
	} else {
		expectInvalid(t, g)
	}
	expectKinds(t, g)
}

func expectKinds(t *testing.T, g api.Graph) {
	t.Helper()
	if got, want := graphs.Weights(g), plainWeights(g); !slices.Equal(got, want) {
		t.Errorf("Weights(%v) = %v, want %v", g, got, want)
	}
	if got, want := graphs.Input(g), plainInput(g); got != want {
		t.Errorf("Input(%v) = %d, want %d", g, got, want)
	}
}
