package graphs_test

import (
	"slices"
	"testing"

	"drydock/api"
	"drydock/graphs"
)

// spoil overwrites a list and its spare capacity.
func spoil(l []int) {
	l = l[:cap(l)]
	for i := range l {
		l[i] = ^l[i]
	}
}

// spoilAll overwrites lists and the list of them, and the spare capacity of all.
func spoilAll(l [][]int) {
	l = l[:cap(l)]
	for i := range l {
		spoil(l[i])
		l[i] = []int{-7}
	}
}

// given is a graph behind whose lists there is spare capacity; the whole ones reach over that.
type given struct {
	g      api.Graph
	nodes  []api.Node
	wholes [][]int
}

func givenWith(spare int, g api.Graph) given {
	var all given
	spared := func(l []int) []int {
		whole := slices.Concat(l, slices.Repeat([]int{1}, spare))
		all.wholes = append(all.wholes, whole)
		return whole[:len(l)]
	}
	for _, n := range g.Nodes {
		n.In, n.Shape = spared(n.In), spared(n.Shape)
		all.nodes = append(all.nodes, n)
	}
	for range spare {
		all.nodes = append(all.nodes, relu(0))
	}
	all.g = api.Graph{Nodes: all.nodes[:len(g.Nodes)]}
	return all
}

// watch keeps what was given, and returns a function that tells whether it is unchanged.
func (v given) watch() func() bool {
	nodes, before := slices.Clone(v.nodes), copyOf(graph(v.nodes...)).Nodes
	var wholes [][]int
	for _, l := range v.wholes {
		wholes = append(wholes, slices.Clone(l))
	}
	return func() bool {
		return slices.EqualFunc(v.nodes, nodes, isSameNode) && slices.EqualFunc(v.nodes, before, isLikeNode) && same(v.wholes, wholes)
	}
}

// isLikeNode reports whether two nodes are equal, and isSameNode whether they have the same memory besides.
func isLikeNode(a, b api.Node) bool {
	return a.Kind == b.Kind && slices.Equal(a.In, b.In) && slices.Equal(a.Shape, b.Shape) && a.N == b.N && a.Pad == b.Pad
}

func isSameNode(a, b api.Node) bool {
	at := func(l []int) *int {
		if cap(l) == 0 {
			return nil
		}
		return &l[:1][0]
	}
	return isLikeNode(a, b) && at(a.In) == at(b.In) && at(a.Shape) == at(b.Shape)
}

// spoil overwrites all that was given.
func (v given) spoil() {
	for _, l := range v.wholes {
		spoil(l)
	}
	clear(v.nodes[:cap(v.nodes)])
}

// badGraphs are invalid, each at another place.
func badGraphs() []api.Graph {
	all := []api.Graph{
		graph(), graph(input(4)), graph(relu(0)), graph(input(4), relu(1)), graph(input(4), relu(-1)), graph(input(4), input(4), relu(0)), graph(input(4), turn(0, 1)), graph(input(4), shape(0, 5)),
		graph(input(4), weight(5), add(0, 1)), graph(input(4), weight(5), product(0, 1)), graph(input(4, 4), weight(5, 5), join(0, 0, 1)), graph(input(64), join(0, 0, 0)), graph(input(64), sum(0, 1)), graph(input(64), join(1, 0, 0)),
		graph(input(4), shift(0, 32)), graph(input(1, 2, 2), weight(1, 1, 2, 2), window(0, 1, 9, 0)), graph(input(1, 2, 2), pool(0, 3)), graph(input(65), relu(0)), graph(slices.Repeat([]api.Node{relu(0)}, 40)...),
	}
	for _, g := range someGraphs() {
		all = append(all, with(g, weight(1)), with(g, relu(len(g.Nodes))), with(g, api.Node{Kind: 14}))
	}
	return all
}

// TestNoCallChangesAnArgument: R4, the spare capacity included, whether the graph is valid or not.
func TestNoCallChangesAnArgument(t *testing.T) {
	for _, spare := range []int{0, 1, 4, 8} {
		for _, g := range append(someGraphs(), badGraphs()...) {
			v := givenWith(spare, g)
			unchanged := v.watch()
			graphs.Check(v.g)
			graphs.Shapes(v.g)
			graphs.Weights(v.g)
			graphs.Input(v.g)
			if !unchanged() {
				t.Errorf("%v, with %d spare: it was changed", g, spare)
			}
		}
	}
}

// TestShapesShareNothing: R4, what is written into a shape, or into its spare capacity, reaches neither the graph, nor another shape, nor another result.
func TestShapesShareNothing(t *testing.T) {
	for _, spare := range []int{0, 1, 4, 8} {
		for _, g := range someGraphs() {
			want, _ := plainShapes(g)
			v := givenWith(spare, g)
			unchanged := v.watch()
			first, _ := graphs.Shapes(v.g)
			second, _ := graphs.Shapes(v.g)
			for i := range first {
				spoil(first[i])
				if !same(first[i+1:], want[i+1:]) {
					t.Errorf("%v, with %d spare: two shapes share memory: %v, want %v", g, spare, first[i+1:], want[i+1:])
				}
			}
			spoilAll(first)
			if !unchanged() {
				t.Errorf("%v, with %d spare: a shape is the graph's memory", g, spare)
			}
			if !same(second, want) {
				t.Errorf("%v, with %d spare: two results share memory: %v, want %v", g, spare, second, want)
			}
			expectShapes(t, v.g, want...)
			v.spoil()
			if !same(second, want) {
				t.Errorf("%v, with %d spare: a result follows the graph: %v, want %v", g, spare, second, want)
			}
		}
	}
}

// TestWeightsShareNothing: R4, likewise.
func TestWeightsShareNothing(t *testing.T) {
	for _, g := range append(someGraphs(), badGraphs()...) {
		want := plainWeights(g)
		v := givenWith(2, g)
		unchanged := v.watch()
		first := graphs.Weights(v.g)
		second := graphs.Weights(v.g)
		spoil(first)
		if !unchanged() || !slices.Equal(second, want) || !slices.Equal(graphs.Weights(v.g), want) {
			t.Errorf("%v: the weights share memory", g)
		}
		v.spoil()
		if !slices.Equal(second, want) {
			t.Errorf("%v: the weights follow the graph", g)
		}
	}
}

// TestNodesThatShareMemory: inputs and shapes that are pieces of one list.
func TestNodesThatShareMemory(t *testing.T) {
	l := []int{0, 1, 2, 3, 2, 1, 0, 0}
	nodes := []api.Node{
		{Kind: api.NkInput, Shape: l[2:4]},
		{Kind: api.NkWeight, Shape: l[3:5]},
		{Kind: api.NkProduct, In: l[:2]},
		{Kind: api.NkTurn, In: l[2:3], Shape: l[:2]},
		{Kind: api.NkTurn, In: l[3:4], Shape: l[5:7]},
		{Kind: api.NkAdd, In: l[2:4]},
		{Kind: api.NkShape, In: l[:1], Shape: l[2:4]},
		{Kind: api.NkJoin, In: l[6:8]},
	}
	g := api.Graph{Nodes: nodes}
	before := copyOf(g)
	expectShapes(t, g, dims(2, 3), dims(3, 2), dims(2, 2), dims(2, 2), dims(2, 2), dims(2, 2), dims(2, 3), dims(4, 3))
	s, _ := graphs.Shapes(g)
	spoilAll(s)
	if !slices.EqualFunc(g.Nodes, before.Nodes, isLikeNode) {
		t.Errorf("changed to %v", g)
	}
}

// TestSpareCapacityIsNotOfTheList: neither as a node, nor as an input, nor as a dimension.
func TestSpareCapacityIsNotOfTheList(t *testing.T) {
	nodes := []api.Node{input(2, 3), relu(0), weight(1), input(1)}
	expectShapes(t, graph(nodes[:2]...), dims(2, 3), dims(2, 3))
	expectShapes(t, api.Graph{Nodes: nodes[:2]}, dims(2, 3), dims(2, 3))
	expectInvalid(t, api.Graph{Nodes: nodes[:0]})
	expectInvalid(t, api.Graph{Nodes: nodes[:1]})
	expectKinds(t, api.Graph{Nodes: nodes[1:2]})
	expectKinds(t, api.Graph{Nodes: nodes[:0]})
	two, more := []int{0, 0}, []int{1, 0, 2}
	expectInvalid(t, graph(input(2, 3), api.Node{Kind: api.NkAdd, In: two[:1]}))
	expectLast(t, graph(input(2, 3), api.Node{Kind: api.NkRelu, In: two[:1]}), 2, 3)
	expectLast(t, graph(input(2, 3), api.Node{Kind: api.NkTurn, In: two[:1], Shape: more[:2]}), 3, 2)
	expectLast(t, graph(input(2, 3), api.Node{Kind: api.NkRelu, In: two[:1], Shape: more[:0]}), 2, 3)
	expectInvalid(t, graph(input(2, 3), api.Node{Kind: api.NkTurn, In: two[:1], Shape: more[:1]}))
}

// TestEmptyAndNilAreTheSame: R4, as nodes, as inputs and as shapes.
func TestEmptyAndNilAreTheSame(t *testing.T) {
	expectInvalid(t, api.Graph{})
	expectInvalid(t, api.Graph{Nodes: []api.Node{}})
	for _, none := range [][]int{nil, {}} {
		expectLast(t, graph(api.Node{Kind: api.NkInput, In: none, Shape: dims(2, 3)}, api.Node{Kind: api.NkRelu, In: []int{0}, Shape: none}), 2, 3)
		expectLast(t, graph(api.Node{Kind: api.NkInput, In: none, Shape: dims(2)}, api.Node{Kind: api.NkWeight, In: none, Shape: dims(3)}, api.Node{Kind: api.NkJoin, In: []int{0, 1}, Shape: none}), 5)
		expectInvalid(t, graph(api.Node{Kind: api.NkInput, Shape: none}, relu(0)))
		expectInvalid(t, graph(input(1), api.Node{Kind: api.NkRelu, In: none}))
		expectInvalid(t, graph(input(1), api.Node{Kind: api.NkJoin, In: none}))
		expectInvalid(t, graph(input(1), api.Node{Kind: api.NkShape, In: []int{0}, Shape: none}))
		expectInvalid(t, graph(input(1), api.Node{Kind: api.NkTurn, In: []int{0}, Shape: none}))
	}
}

// TestSameCallSameResult: R5, nothing is left over from other calls, failed ones included.
func TestSameCallSameResult(t *testing.T) {
	g := graph(input(2, 3), weight(3, 2), product(0, 1), relu(2))
	for _, other := range append(someGraphs(), badGraphs()...) {
		graphs.Check(other)
		graphs.Shapes(other)
		graphs.Weights(other)
		graphs.Input(other)
		expectShapes(t, g, dims(2, 3), dims(3, 2), dims(2, 2), dims(2, 2))
		expectKinds(t, g)
		expectInvalid(t, graph(g.Nodes[:2]...))
	}
}
