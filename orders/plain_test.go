package orders_test

import (
	"math"
	"slices"
	"strings"
	"testing"

	"drydock/api"
	"drydock/graphs"
	"drydock/models"
	"drydock/orders"
)

// parse is the graph of a text as the chapter writes it: "input 2; relu 0".
func parse(text string) api.Graph {
	g, _, e := models.Parse(strings.ReplaceAll(text, "; ", "\n"))
	if e != api.OK {
		panic("the test is wrong: " + text)
	}
	return g
}

// list is as many indices as there are, from the first one on.
func list(many int) []int {
	l := make([]int, many)
	for i := range l {
		l[i] = i
	}
	return l
}

func reversed(l []int) []int {
	l = slices.Clone(l)
	slices.Reverse(l)
	return l
}

// begin is a beginning to which each row of eachKind fits, as inputs it has 0 to 4.
const begin = "input 2 4 4; weight 2 4 4; weight 3 2 2 2; weight 4 2; weight 2 4; "

// row is a node, and which ones it takes.
type row struct {
	text string
	in   []int
}

func eachKind() []row {
	return []row{
		{"add 0 1", []int{0, 1}}, {"add 1 1", []int{1, 1}}, {"mul 1 0", []int{1, 0}}, {"mul 2 2", []int{2, 2}}, {"relu 2", []int{2}}, {"shift 3 by 7", []int{3}},
		{"product 3 4", []int{3, 4}}, {"product 4 3", []int{4, 3}}, {"window 0 2 step 2 pad 1", []int{0, 2}}, {"window 1 2 step 1 pad 0", []int{1, 2}}, {"pool 0 wide 2", []int{0}},
		{"shape 4 to 8", []int{4}}, {"turn 0 to 2 0 1", []int{0}}, {"join 1 along 2", []int{1}}, {"join 1 0 along 0", []int{1, 0}}, {"join 0 1 0 along 1", []int{0, 1, 0}},
		{"join 1 0 0 1 along 0", []int{1, 0, 0, 1}}, {"join 3 3 3 3 along 1", []int{3, 3, 3, 3}}, {"sum 2 along 3", []int{2}},
	}
}

// wholeGraph has each kind, and the last node needs all others.
const wholeGraph = "input 2 4 4; weight 3 2 2 2; window 0 1 step 2 pad 1; pool 2 wide 2; shape 3 to 3 1; turn 4 to 1 0; product 4 5; join 0 0 0 along 2; sum 7 along 0; sum 8 along 0; shape 6 to 9; sum 10 along 0; sum 9 along 0; add 12 11; mul 13 13; relu 14; shift 15 by 2"

// someGraphs are valid.
func someGraphs() []api.Graph {
	texts := []string{
		"input 2; relu 0; weight 2; add 0 0; add 3 1",
		"input 1; relu 0",
		"input 3; weight 3; mul 1 0; mul 0 1; add 2 3",
		"weight 2; weight 2; input 2; weight 2; add 1 3",
		"weight 2; input 3; relu 0",
		"input 2; relu 0; relu 1; relu 0; relu 3; add 0 4",
		"input 2; add 0 0; add 1 0; add 2 1; relu 3; mul 3 1",
		"weight 2; weight 3; input 4; join 0 0 1 2 along 0; join 0 2 2 2 along 0; sum 4 along 0",
		wholeGraph,
	}
	for _, r := range eachKind() {
		texts = append(texts, begin+r.text, begin+r.text+"; relu 5", begin+r.text+"; relu 0")
	}
	var all []api.Graph
	for _, text := range texts {
		all = append(all, parse(text))
	}
	return append(all, mostNodes()...)
}

// mostNodes are graphs of MaxNodes nodes.
func mostNodes() []api.Graph {
	return []api.Graph{
		parse("input 3; " + strings.Repeat("relu 0; ", 30) + "relu 0"),
		chain(func(before int) api.Node { return node(api.NkRelu, before) }),
		chain(func(before int) api.Node { return node(api.NkAdd, before, before) }),
		chain(func(before int) api.Node { return node(api.NkMul, before/2, before) }),
		chain(func(before int) api.Node { return node(api.NkAdd, before/2, before/3) }),
		parse(strings.Repeat("weight 2 2; ", 30) + "input 2 2; product 29 30"),
		parse(strings.Repeat("weight 2 2; ", 30) + "input 2 2; add 0 0"),
	}
}

// chain is a graph of MaxNodes nodes with one shape, each of them made from the index of the one before it.
func chain(next func(before int) api.Node) api.Graph {
	g := parse("input 3; relu 0")
	for len(g.Nodes) < 32 {
		g.Nodes = append(g.Nodes, next(len(g.Nodes)-1))
	}
	return g
}

// node is one without fields, valid or not.
func node(k api.Kind, in ...int) api.Node { return api.Node{Kind: k, In: in} }

func graph(l ...api.Node) api.Graph { return api.Graph{Nodes: l} }

// copyOf is a graph with memory of its own.
func copyOf(g api.Graph) api.Graph {
	nodes := slices.Clone(g.Nodes)
	for i, n := range nodes {
		nodes[i].In, nodes[i].Shape = slices.Clone(n.In), slices.Clone(n.Shape)
	}
	return graph(nodes...)
}

// badGraphs are invalid, each in another way.
func badGraphs() []api.Graph {
	input, weight := api.Node{Kind: api.NkInput, Shape: []int{2}}, api.Node{Kind: api.NkWeight, Shape: []int{2}}
	relu := func(in int) api.Node { return node(api.NkRelu, in) }
	all := []api.Graph{
		{}, {Nodes: []api.Node{}},
		graph(input), graph(weight), graph(relu(0)), graph(relu(-1)), graph(node(api.NkJoin)), graph(api.Node{}),
		graph(input, weight), graph(weight, input), graph(input, input), graph(weight, relu(0)), graph(input, input, relu(0)), graph(input, relu(0), weight), graph(weight, relu(0), input),
		graph(input, relu(1)), graph(input, relu(2)), graph(input, relu(-1)), graph(input, relu(math.MinInt)), graph(input, relu(math.MaxInt)), graph(relu(1), input, relu(0)), graph(input, relu(2), relu(1)),
		graph(input, node(api.NkAdd, 0, 1)), graph(input, node(api.NkAdd, 0)), graph(input, node(api.NkRelu)), graph(input, node(api.NkRelu, 0, 0)), graph(input, node(api.NkJoin, 0, 0, 0, 0, 0)), graph(input, node(api.NkJoin)),
		graph(input, node(0, 0)), graph(input, node(14, 0)), graph(input, node(255, 0)),
		graph(input, api.Node{Kind: api.NkRelu, In: []int{0}, N: 1}), graph(input, api.Node{Kind: api.NkShift, In: []int{0}, N: 32}), graph(input, api.Node{Kind: api.NkSum, In: []int{0}, N: 1}),
		graph(input, api.Node{Kind: api.NkWeight, Shape: []int{3}}, node(api.NkAdd, 0, 1)), graph(input, api.Node{Kind: api.NkWeight, Shape: []int{65}}, relu(0)), graph(input, node(api.NkProduct, 0, 0)),
		// The fault is in a node that the last one does not need.
		graph(input, relu(3), relu(0)), graph(input, node(0), relu(0)), graph(input, api.Node{Kind: api.NkWeight}, relu(0)), graph(input, input, relu(0)),
		graph(slices.Repeat([]api.Node{relu(0)}, 40)...), graph(slices.Concat([]api.Node{input}, slices.Repeat([]api.Node{relu(0)}, 1<<16))...),
	}
	for _, g := range mostNodes() {
		all = append(all, graph(append(copyOf(g).Nodes, relu(0))...))
	}
	for _, g := range someGraphs() {
		last := len(g.Nodes) - 1
		for _, change := range []func(n *api.Node){
			func(n *api.Node) { n.Kind = api.NkNone },
			func(n *api.Node) { n.Pad = 9 },
			func(n *api.Node) { n.In = append(n.In, last) },
			func(n *api.Node) { n.In = []int{-1} },
		} {
			for _, at := range []int{0, last / 2, last} {
				other := copyOf(g)
				change(&other.Nodes[at])
				all = append(all, other)
			}
		}
	}
	return all
}

// plainOf is P12.1 as the document words it: what is needed grows till nothing is added.
func plainOf(g api.Graph) ([]int, api.Errno) {
	if !graphs.Check(g) {
		return nil, api.ErrArg
	}
	l := []int{len(g.Nodes) - 1}
	for range g.Nodes {
		for _, i := range slices.Clone(l) {
			l = append(l, g.Nodes[i].In...)
		}
		slices.Sort(l)
		l = slices.Compact(l)
	}
	return l, api.OK
}

// plainIsOrder is the chapter's definition, of a valid graph.
func plainIsOrder(g api.Graph, order []int) bool {
	for place, i := range order {
		if i < 0 || i >= len(g.Nodes) || slices.Contains(order[:place], i) {
			return false
		}
	}
	return graphs.Check(g)
}

// plainNext is P12.2 as the document words it.
func plainNext(g api.Graph, order []int, at int) ([]int, api.Errno) {
	if !plainIsOrder(g, order) || at < -1 || at > len(order)-1 {
		return nil, api.ErrArg
	}
	next := make([]int, len(g.Nodes))
	for v := range next {
		next[v] = -1
		for place, i := range order {
			if next[v] < 0 && place > at && slices.Contains(g.Nodes[i].In, v) {
				next[v] = place
			}
		}
	}
	next[len(next)-1] = len(order)
	return next, api.OK
}

// plainUses is P12.3 as the document words it.
func plainUses(g api.Graph, order []int) ([]int, api.Errno) {
	if !plainIsOrder(g, order) {
		return nil, api.ErrArg
	}
	uses := make([]int, len(g.Nodes))
	for v := range uses {
		for _, i := range order {
			for _, in := range g.Nodes[i].In {
				if in == v {
					uses[v]++
				}
			}
		}
	}
	return uses, api.OK
}

// allOrders are those of a graph with as many nodes, nil among them.
func allOrders(many int) [][]int {
	all := [][]int{nil}
	for from := 0; from < len(all); from++ {
		for i := range many {
			if !slices.Contains(all[from], i) {
				all = append(all, append(slices.Clone(all[from]), i))
			}
		}
	}
	return all
}

// allLists are those of so many numbers, at most, from least to most.
func allLists(longest, least, most int) [][]int {
	all := [][]int{nil}
	for from := 0; len(all[from]) < longest; from++ {
		for x := least; x <= most; x++ {
			all = append(all, append(slices.Clone(all[from]), x))
		}
	}
	return all
}

// smallGraphs are all of up to five nodes that begin with the input, and of which each other one is a weight, or takes one node or two.
func smallGraphs() []api.Graph {
	input, weight := api.Node{Kind: api.NkInput, Shape: []int{1}}, api.Node{Kind: api.NkWeight, Shape: []int{1}}
	all := []api.Graph{graph(input)}
	for from := 0; len(all[from].Nodes) < 5; from++ {
		nodes := all[from].Nodes
		more := []api.Node{weight}
		for a := range nodes {
			more = append(more, node(api.NkRelu, a))
			for b := range nodes {
				more = append(more, node(api.NkAdd, a, b))
			}
		}
		for _, n := range more {
			all = append(all, graph(append(slices.Clone(nodes), n)...))
		}
	}
	return slices.DeleteFunc(all, func(g api.Graph) bool { return !graphs.Check(g) })
}

// generator makes numbers that are different each time, but the same for the same start.
type generator struct{ x uint32 }

func (r *generator) number(below int) int {
	r.x = r.x*1664525 + 1013904223
	return int(r.x>>8) % below
}

// node is any one that may come behind so many others: it often fits.
func (r *generator) node(behind int) api.Node {
	in := func() int { return r.number(behind) }
	n := node(api.Kind(2+r.number(12)), in())
	switch n.Kind {
	case api.NkWeight:
		n.In, n.Shape = nil, [][]int{{2, 2}, {1, 2, 2}, {1, 1, 2, 2}}[r.number(3)]
	case api.NkAdd, api.NkMul, api.NkProduct:
		n.In = append(n.In, in())
	case api.NkShift:
		n.N = r.number(32)
	case api.NkWindow:
		n.In, n.N, n.Pad = append(n.In, in()), 1+r.number(2), r.number(2)
	case api.NkPool:
		n.N = 1 + r.number(2)
	case api.NkShape:
		n.Shape = [][]int{{2, 2}, {4}, {1, 2, 2}, {2, 4}}[r.number(4)]
	case api.NkTurn:
		n.Shape = [][]int{{1, 0}, {0, 2, 1}}[r.number(2)]
	case api.NkJoin:
		n.N = r.number(3)
		for range r.number(4) {
			n.In = append(n.In, n.In[0])
		}
		n.In[len(n.In)-1] = in()
	case api.NkSum:
		n.N = r.number(2)
	}
	return n
}

// graph is a valid one of so many nodes, each of any kind.
func (r *generator) graph(many int) api.Graph {
	g := parse("input 2 2; weight 1 2 2; weight 1 1 2 2; add 0 0")
	for len(g.Nodes) < many {
		if more := append(g.Nodes, r.node(len(g.Nodes))); graphs.Check(graph(append(more, node(api.NkRelu, 0))[:min(len(more)+1, 32)]...)) {
			g.Nodes = more
		}
	}
	return g
}

// order is any one of a graph with as many nodes.
func (r *generator) order(many int) []int {
	l := list(many)
	for i := range l {
		j := i + r.number(many-i)
		l[i], l[j] = l[j], l[i]
	}
	return l[:r.number(many+1)]
}

func expectOf(t *testing.T, g api.Graph, want ...int) {
	t.Helper()
	if l, e := orders.Of(g); e != api.OK || !slices.Equal(l, want) {
		t.Errorf("Of(%v) = %v, %d; want %v", g, l, e, want)
	}
}

func expectNext(t *testing.T, g api.Graph, order []int, at int, want ...int) {
	t.Helper()
	if l, e := orders.Next(g, order, at); e != api.OK || !slices.Equal(l, want) {
		t.Errorf("Next(%v, %v, %d) = %v, %d; want %v", g, order, at, l, e, want)
	}
}

func expectUses(t *testing.T, g api.Graph, order []int, want ...int) {
	t.Helper()
	if l, e := orders.Uses(g, order); e != api.OK || !slices.Equal(l, want) {
		t.Errorf("Uses(%v, %v) = %v, %d; want %v", g, order, l, e, want)
	}
}

// short is a graph that can be told.
func short(g api.Graph) api.Graph {
	return graph(g.Nodes[:min(len(g.Nodes), 40)]...)
}

// expectNoNext asks for ErrArg and nothing else (R2).
func expectNoNext(t *testing.T, g api.Graph, order []int, at int) {
	t.Helper()
	if l, e := orders.Next(g, order, at); e != api.ErrArg || len(l) != 0 {
		t.Errorf("Next(%v, %v, %d) = %v, %d; want ErrArg and nothing else", short(g), order[:min(len(order), 40)], at, l, e)
	}
}

// expectNoOrder likewise, of both that are given an order, wherever it is looked at.
func expectNoOrder(t *testing.T, g api.Graph, order []int) {
	t.Helper()
	if l, e := orders.Uses(g, order); e != api.ErrArg || len(l) != 0 {
		t.Errorf("Uses(%v, %v) = %v, %d; want ErrArg and nothing else", short(g), order[:min(len(order), 40)], l, e)
	}
	for _, at := range []int{-2, -1, 0, len(order) - 1, len(order)} {
		expectNoNext(t, g, order, at)
	}
}

// placesOf are all of an order, and some that are outside of it.
func placesOf(order []int) []int {
	all := []int{math.MinInt, math.MinInt + 1, math.MinInt32, -1000, -3, -2}
	for at := -1; at <= len(order)+2; at++ {
		all = append(all, at)
	}
	return append(all, 1000, math.MaxInt32, 1<<32, 1<<32+1, math.MaxInt-1, math.MaxInt)
}

// expectPlainOf asks for what the document says, be the graph valid or not.
func expectPlainOf(t *testing.T, g api.Graph) {
	t.Helper()
	want, errno := plainOf(g)
	if l, e := orders.Of(g); e != errno || !slices.Equal(l, want) {
		t.Errorf("Of(%v) = %v, %d; want %v, %d", short(g), l, e, want, errno)
	}
}

// expectPlain asks for what the document says of an order, be it one or not, at each place and outside of it.
func expectPlain(t *testing.T, g api.Graph, order []int) {
	t.Helper()
	want, errno := plainUses(g, order)
	if l, e := orders.Uses(g, order); e != errno || !slices.Equal(l, want) {
		t.Errorf("Uses(%v, %v) = %v, %d; want %v, %d", short(g), order, l, e, want, errno)
	}
	for _, at := range placesOf(order) {
		expectPlainNext(t, g, order, at)
	}
}

func expectPlainNext(t *testing.T, g api.Graph, order []int, at int) {
	t.Helper()
	want, errno := plainNext(g, order, at)
	if l, e := orders.Next(g, order, at); e != errno || !slices.Equal(l, want) {
		t.Errorf("Next(%v, %v, %d) = %v, %d; want %v, %d", short(g), order, at, l, e, want, errno)
	}
}
