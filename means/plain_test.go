package means_test

import (
	"math"
	"slices"
	"strings"
	"testing"

	"drydock/api"
	"drydock/graphs"
	"drydock/maths"
	"drydock/means"
	"drydock/models"
	"drydock/moves"
	"drydock/products"
	"drydock/windows"
)

const (
	least    = math.MinInt32
	greatest = math.MaxInt32
)

// of is a tensor, valid or not, with memory of its own.
func of(s []int, l ...int32) api.Tensor {
	return api.Tensor{Shape: slices.Clone(s), L: slices.Clone(l)}
}

// line is a tensor of one dimension.
func line(l ...int32) api.Tensor { return of([]int{len(l)}, l...) }

func dims(s ...int) []int { return s }

func list(l ...api.Tensor) []api.Tensor { return l }

// sizeOf is the product of all dimensions; none of the lists here has one that is too great for an int and yet is a size.
func sizeOf(s []int) int {
	size := 1
	for _, dim := range s {
		size *= dim
	}
	return size
}

// counted is a tensor of 1, 2, 3 and so on.
func counted(s ...int) api.Tensor {
	x := of(s)
	for i := range sizeOf(s) {
		x.L = append(x.L, int32(i+1))
	}
	return x
}

// mixed is a tensor with numbers of either sign, small ones and great ones, and the ends of the 32 bits among them.
func mixed(seed uint32, s ...int) api.Tensor {
	x := of(s)
	for range sizeOf(s) {
		seed = seed*1664525 + 1013904223
		number := int32(seed) >> (seed >> 10 % 31)
		switch seed >> 8 % 16 {
		case 0:
			number = least
		case 1:
			number = greatest
		}
		x.L = append(x.L, number)
	}
	return x
}

// The next ones are nodes of each kind that is computed, with the inputs 0, 0 and so on, whether they conform to it or not.

func node(k api.Kind, inputs int) api.Node { return api.Node{Kind: k, In: make([]int, inputs)} }

func nodeBy(k api.Kind, inputs, n int) api.Node {
	return api.Node{Kind: k, In: make([]int, inputs), N: n}
}

func nodeTo(k api.Kind, s ...int) api.Node {
	return api.Node{Kind: k, In: make([]int, 1), Shape: s}
}

func window(step, pad int) api.Node {
	return api.Node{Kind: api.NkWindow, In: make([]int, 2), N: step, Pad: pad}
}

// task is what a call of Do is given.
type task struct {
	n  api.Node
	in []api.Tensor
}

// eachTask are some of each kind that have a value.
func eachTask() []task {
	image, filters := mixed(1, 2, 4, 5), mixed(2, 3, 2, 2, 3)
	a, b := mixed(3, 3, 4), mixed(4, 3, 4)
	return []task{
		{node(api.NkAdd, 2), list(a, b)}, {node(api.NkAdd, 2), list(image, image)}, {node(api.NkAdd, 2), list(mixed(5, 8, 8, 8, 8), mixed(6, 8, 8, 8, 8))},
		{node(api.NkMul, 2), list(a, b)}, {node(api.NkMul, 2), list(filters, filters)}, {node(api.NkMul, 2), list(mixed(7, 64, 64), mixed(8, 64, 64))},
		{node(api.NkRelu, 1), list(a)}, {node(api.NkRelu, 1), list(filters)},
		{nodeBy(api.NkShift, 1, 0), list(a)}, {nodeBy(api.NkShift, 1, 1), list(b)}, {nodeBy(api.NkShift, 1, 7), list(image)}, {nodeBy(api.NkShift, 1, 31), list(filters)},
		{node(api.NkProduct, 2), list(a, mixed(9, 4, 2))}, {node(api.NkProduct, 2), list(mixed(9, 64, 1), mixed(10, 1, 64))}, {node(api.NkProduct, 2), list(mixed(9, 3, 3), mixed(10, 3, 3))},
		{window(1, 0), list(image, filters)}, {window(2, 1), list(image, filters)}, {window(8, 8), list(image, filters)}, {window(1, 0), list(mixed(1, 1, 1, 1), mixed(1, 1, 1, 1, 1))},
		{nodeBy(api.NkPool, 1, 1), list(image)}, {nodeBy(api.NkPool, 1, 2), list(image)}, {nodeBy(api.NkPool, 1, 4), list(image)}, {nodeBy(api.NkPool, 1, 64), list(mixed(11, 1, 64, 64))},
		{nodeTo(api.NkShape, 12), list(a)}, {nodeTo(api.NkShape, 4, 3), list(a)}, {nodeTo(api.NkShape, 3, 4), list(a)}, {nodeTo(api.NkShape, 1, 5, 2, 4), list(image)},
		{nodeTo(api.NkTurn, 0), list(line(5, 6))}, {nodeTo(api.NkTurn, 1, 0), list(a)}, {nodeTo(api.NkTurn, 0, 1), list(a)}, {nodeTo(api.NkTurn, 2, 0, 1), list(image)}, {nodeTo(api.NkTurn, 3, 1, 0, 2), list(filters)},
		{nodeBy(api.NkJoin, 1, 0), list(a)}, {nodeBy(api.NkJoin, 2, 1), list(a, mixed(12, 3, 1))}, {nodeBy(api.NkJoin, 3, 2), list(image, mixed(12, 2, 4, 1), image)}, {nodeBy(api.NkJoin, 4, 3), list(filters, filters, filters, filters)},
		{nodeBy(api.NkSum, 1, 0), list(line(least, -1, greatest))}, {nodeBy(api.NkSum, 1, 0), list(a)}, {nodeBy(api.NkSum, 1, 2), list(image)}, {nodeBy(api.NkSum, 1, 3), list(filters)},
	}
}

// someLists are tensors of which some fit to any kind, and many do not.
func someLists() [][]api.Tensor {
	t, m := mixed(1, 1, 3, 3), mixed(2, 2, 2)
	var all [][]api.Tensor
	for _, x := range list(t, m, line(1, 2), mixed(3, 1, 1, 2, 2), api.Tensor{}, of(dims(2), 1)) {
		for _, y := range list(x, m, mixed(4, 1, 1, 2, 2)) {
			all = append(all, nil, list(x), list(x, y), list(x, y, x), list(x, y, x, y), list(x, y, y, x, x))
		}
	}
	return all
}

// notShapes are lists that are no shape. The least product above MaxSize that there is, is 4100.
func notShapes() [][]int {
	return [][]int{
		nil, {}, {0}, {-1}, {65}, {math.MinInt}, {math.MaxInt}, {1<<32 + 1}, {0, 0}, {2, 0}, {65, 1}, {-1, -1}, {-2, -3}, {1 << 32, 1 << 32},
		{0, 1, 1}, {1, 1, 65}, {41, 50, 2}, {64, 64, 2}, {65, 1, 1, 1}, {-1, -1, -2, -3}, {8, 8, 8, 9}, {64, 64, 64, 64}, {1, 1, 1, 1, 1}, {2, 3, 1, 1, 1}, slices.Repeat([]int{1}, 1000),
	}
}

// notTensors are invalid: what is no shape, with as many numbers as its product, with one, or with none; and this shape with no number, with one too few, and with one too many.
func notTensors(s []int) []api.Tensor {
	all := list(api.Tensor{}, of(s), of(s, mixed(1, sizeOf(s)-1).L...), of(s, mixed(1, sizeOf(s)+1).L...), of(nil, mixed(1, sizeOf(s)).L...), of(append(slices.Clone(s), 1, 1, 1, 1), mixed(1, sizeOf(s)).L...))
	for _, s := range notShapes() {
		all = append(all, of(s), of(s, 1))
		if many := sizeOf(s); many > 1 && many <= 1<<13 {
			all = append(all, of(s, mixed(3, many).L...))
		}
	}
	return all
}

// someNumbers are at the edges of what N and Pad may be of any kind, beside them, or far off.
func someNumbers() []int {
	return []int{
		0, 1, 2, 3, 4, 5, 7, 8, 9, 30, 31, 32, 33, 63, 64, 65, 127, 255, 256, -1, -2, -8, -64,
		math.MinInt, math.MinInt + 1, math.MinInt32, -1 << 32, 1 << 16, math.MaxInt32, 1 << 32, 1<<32 + 1, math.MaxInt - 1, math.MaxInt,
	}
}

// within reports whether a number is in between, both ends included.
func within(number, from, to int) bool { return number >= from && number <= to }

// isShape is the document's definition. The limits stand as numbers; no product of such dimensions is too great for an int.
func isShape(s []int) bool {
	for _, dim := range s {
		if !within(dim, 1, 64) {
			return false
		}
	}
	return within(len(s), 1, 4) && sizeOf(s) <= 4096
}

// isOrder reports whether the numbers of l, sorted, are those from 0 on: of one to four dimensions.
func isOrder(l []int) bool {
	for i, d := range slices.Sorted(slices.Values(l)) {
		if i != d {
			return false
		}
	}
	return within(len(l), 1, 4)
}

// plainConforms is the table of chapter 10, line by line.
func plainConforms(n api.Node) bool {
	inputs, noN, noPad, noShape := len(n.In), n.N == 0, n.Pad == 0, len(n.Shape) == 0
	switch n.Kind {
	case api.NkInput, api.NkWeight:
		return inputs == 0 && isShape(n.Shape) && noN && noPad
	case api.NkAdd, api.NkMul, api.NkProduct:
		return inputs == 2 && noShape && noN && noPad
	case api.NkRelu:
		return inputs == 1 && noShape && noN && noPad
	case api.NkShift:
		return inputs == 1 && within(n.N, 0, 31) && noShape && noPad
	case api.NkWindow:
		return inputs == 2 && within(n.N, 1, 8) && within(n.Pad, 0, 8) && noShape
	case api.NkPool:
		return inputs == 1 && within(n.N, 1, 64) && noShape && noPad
	case api.NkShape:
		return inputs == 1 && isShape(n.Shape) && noN && noPad
	case api.NkTurn:
		return inputs == 1 && isOrder(n.Shape) && noN && noPad
	case api.NkJoin:
		return within(inputs, 1, 4) && within(n.N, 0, 3) && noShape && noPad
	case api.NkSum:
		return inputs == 1 && within(n.N, 0, 3) && noShape && noPad
	}
	return false
}

// plainDo is P13.1 as the document words it: what a value is, the chapters 6 to 9 say.
func plainDo(n api.Node, in []api.Tensor) (api.Tensor, api.Errno) {
	if !plainConforms(n) || n.Kind == api.NkInput || n.Kind == api.NkWeight || len(in) != len(n.In) {
		return api.Tensor{}, api.ErrArg
	}
	switch n.Kind {
	case api.NkAdd:
		return maths.Add(in[0], in[1])
	case api.NkMul:
		return maths.Mul(in[0], in[1])
	case api.NkRelu:
		return maths.Relu(in[0])
	case api.NkShift:
		return maths.Shift(in[0], n.N)
	case api.NkProduct:
		return products.Of(in[0], in[1])
	case api.NkWindow:
		return windows.Of(in[0], in[1], n.N, n.Pad)
	case api.NkPool:
		return windows.Pool(in[0], n.N)
	case api.NkShape:
		return moves.Shape(in[0], n.Shape)
	case api.NkTurn:
		return moves.Turn(in[0], n.Shape)
	case api.NkJoin:
		return moves.Join(in, n.N)
	}
	return moves.Sum(in[0], n.N)
}

// plainValue is the value of one node of a valid graph, from the values of its inputs, and so on down to what is given. Whoever needs a node computes it again.
func plainValue(g api.Graph, weights []api.Tensor, input api.Tensor, at int) api.Tensor {
	n := g.Nodes[at]
	switch n.Kind {
	case api.NkInput:
		return input
	case api.NkWeight:
		before := 0
		for _, other := range g.Nodes[:at] {
			if other.Kind == api.NkWeight {
				before++
			}
		}
		return weights[before]
	}
	var in []api.Tensor
	for _, taken := range n.In {
		in = append(in, plainValue(g, weights, input, taken))
	}
	value, e := plainDo(n, in)
	if e != api.OK {
		panic("the test is wrong: a node without a value")
	}
	return value
}

// plainIsGiven reports whether the weights and the input are some of g, as P13.2 words it; models.Put asks what a model is.
func plainIsGiven(g api.Graph, weights []api.Tensor, input api.Tensor) bool {
	_, e := models.Put(api.Model{G: g, W: weights})
	if e != api.OK {
		return false
	}
	s := g.Nodes[graphs.Input(g)].Shape
	return slices.Equal(input.Shape, s) && len(input.L) == sizeOf(s)
}

// parse is the graph of a text as the chapter writes it: "input 2; relu 0".
func parse(text string) api.Graph {
	g, _, e := models.Parse(strings.ReplaceAll(text, "; ", "\n"))
	if e != api.OK {
		panic("the test is wrong: " + text)
	}
	return g
}

func graph(l ...api.Node) api.Graph { return api.Graph{Nodes: l} }

// with is a graph with more nodes.
func with(g api.Graph, l ...api.Node) api.Graph {
	return graph(slices.Concat(g.Nodes, l)...)
}

// job is what a call of Run or of All is given.
type job struct {
	g       api.Graph
	weights []api.Tensor
	input   api.Tensor
}

// jobOf fills the weights and the input of a graph with mixed numbers, different ones for each of them.
func jobOf(g api.Graph, seed uint32) job {
	j := job{g: g}
	for i, n := range g.Nodes {
		switch n.Kind {
		case api.NkWeight:
			j.weights = append(j.weights, mixed(seed+uint32(i)*77, n.Shape...))
		case api.NkInput:
			j.input = mixed(seed+uint32(i)*77, n.Shape...)
		}
	}
	return j
}

// begin is a beginning to which each text of eachKind fits.
const begin = "input 2 4 4; weight 2 4 4; weight 3 2 2 2; weight 4 2; weight 2 4; "

func eachKind() []string {
	return []string{
		"add 0 1", "add 1 1", "mul 1 0", "mul 2 2", "relu 2", "shift 3 by 7", "shift 3 by 0", "shift 1 by 31", "product 3 4", "product 4 3",
		"window 0 2 step 2 pad 1", "window 1 2 step 1 pad 0", "window 0 2 step 8 pad 8", "pool 0 wide 2", "pool 1 wide 1", "shape 4 to 8", "shape 0 to 2 4 4", "turn 0 to 2 0 1", "turn 3 to 0 1",
		"join 1 along 2", "join 1 0 along 0", "join 0 1 0 along 1", "join 1 0 0 1 along 0", "join 3 3 3 3 along 1", "sum 2 along 3", "sum 0 along 0", "sum 4 along 1",
	}
}

// wholeGraph has each kind, and the last node needs all others.
const wholeGraph = "input 2 4 4; weight 3 2 2 2; window 0 1 step 2 pad 1; pool 2 wide 2; shape 3 to 3 1; turn 4 to 1 0; product 4 5; join 0 0 0 along 2; sum 7 along 0; sum 8 along 0; shape 6 to 9; sum 10 along 0; sum 9 along 0; add 12 11; mul 13 13; relu 14; shift 15 by 2"

func someTexts() []string {
	texts := []string{
		"input 2; weight 2; mul 0 1; sum 2 along 0",
		"input 1; relu 0",
		"input 3; weight 3; mul 1 0; mul 0 1; add 2 3",
		"weight 2; weight 2; input 2; weight 2; add 1 3",
		"weight 2; weight 3; input 4; weight 2; add 0 3; join 4 1 2 along 0",
		"weight 2; input 3; relu 0",
		"input 2; relu 0; relu 1; relu 0; relu 3; add 0 4",
		"input 2; add 0 0; add 1 0; add 2 1; relu 3; mul 3 1",
		"weight 2; weight 3; input 4; join 0 0 1 2 along 0; join 0 2 2 2 along 0; sum 4 along 0",
		// Nodes that are as their inputs are.
		"input 4; weight 4; shape 0 to 2 2; shape 0 to 4; shape 1 to 4; turn 2 to 0 1; join 5 along 0; shape 0 to 1 2 2; pool 7 wide 1; turn 0 to 0; join 1 along 0",
		wholeGraph,
	}
	for _, text := range eachKind() {
		texts = append(texts, begin+text, begin+text+"; relu 5", begin+text+"; relu 0")
	}
	return append(texts,
		"input 3; "+strings.Repeat("relu 0; ", 30)+"relu 0",
		strings.Repeat("weight 2 2; ", 30)+"input 2 2; product 29 30",
		strings.Repeat("weight 2 2; ", 30)+"input 2 2; add 0 0",
		"weight 8 8 8 8; input 64 64; shape 0 to 64 64; product 1 2; mul 3 2; turn 4 to 1 0; sum 5 along 0",
	)
}

// someJobs have values, of all nodes.
func someJobs() []job {
	var all []job
	for i, text := range someTexts() {
		all = append(all, jobOf(parse(text), uint32(i)))
	}
	return all
}

// generator makes numbers that are different each time, but the same for the same start.
type generator struct{ x uint32 }

func (r *generator) number(below int) int {
	r.x = r.x*1664525 + 1013904223
	return int(r.x>>8) % below
}

func (r *generator) one(l ...int) int { return l[r.number(len(l))] }

func (r *generator) shape() []int {
	s := make([]int, 1+r.number(4))
	for d := range s {
		s[d] = r.one(1, 1, 2, 2, 3, 4, 6)
	}
	return s
}

// node is any one that may come behind so many others: it often fits, and often does not.
func (r *generator) node(behind int) api.Node {
	n := api.Node{Kind: api.Kind(2 + r.number(12)), In: []int{r.number(behind)}}
	switch n.Kind {
	case api.NkWeight:
		n.In, n.Shape = nil, r.shape()
	case api.NkAdd, api.NkMul, api.NkProduct:
		n.In = append(n.In, r.one(n.In[0], r.number(behind)))
	case api.NkShift:
		n.N = r.one(0, 1, 7, 31, 32)
	case api.NkWindow:
		n.In, n.N, n.Pad = append(n.In, r.number(behind)), r.one(0, 1, 1, 2, 8), r.one(0, 1, 8)
	case api.NkPool:
		n.N = r.number(4)
	case api.NkShape:
		n.Shape = [][]int{r.shape(), {2, 2}, {4}, {1, 2, 2}, {4, 1, 1, 1}}[r.number(5)]
	case api.NkTurn:
		n.Shape = [][]int{{0}, {1, 0}, {0, 2, 1}, {1, 2, 0}, {3, 0, 2, 1}, {0, 0}}[r.number(6)]
	case api.NkJoin:
		for range r.number(4) {
			n.In = append(n.In, n.In[0])
		}
		n.N, n.In[len(n.In)-1] = r.number(4), r.number(behind)
	case api.NkSum:
		n.N = r.number(4)
	}
	return n
}

// graph is a valid one of so many nodes, each of any kind.
func (r *generator) graph(many int) api.Graph {
	g := parse("input 2 2; weight 1 2 2; weight 1 1 2 2; add 0 0")
	for len(g.Nodes) < many {
		more := r.node(len(g.Nodes))
		if next := with(g, more); graphs.Check(next) || more.Kind == api.NkWeight && len(next.Nodes) < many && isShape(more.Shape) {
			g = next
		}
	}
	return g
}

func isNothing(t api.Tensor) bool { return len(t.Shape) == 0 && len(t.L) == 0 }

func same(a, b api.Tensor) bool { return slices.Equal(a.Shape, b.Shape) && slices.Equal(a.L, b.L) }

// short is what a message shows of tensors.
func short(l ...api.Tensor) []api.Tensor {
	l = slices.Clone(l[:min(len(l), 6)])
	for i, x := range l {
		l[i] = api.Tensor{Shape: x.Shape[:min(len(x.Shape), 8)], L: x.L[:min(len(x.L), 8)]}
	}
	return l
}

// expectDo asks for a value, with its shape.
func expectDo(t *testing.T, n api.Node, in []api.Tensor, want api.Tensor) {
	t.Helper()
	if got, e := means.Do(n, in); e != api.OK || !same(got, want) {
		t.Errorf("Do(%v, %v) = %v, %d; want %v", n, short(in...), short(got), e, short(want))
	}
}

// expectNoDo asks for an error and nothing else (R2).
func expectNoDo(t *testing.T, n api.Node, in []api.Tensor, want api.Errno) {
	t.Helper()
	if got, e := means.Do(n, in); e != want || !isNothing(got) {
		t.Errorf("Do(%v, %v) = %v, %d; want %d and nothing else", n, short(in...), short(got), e, want)
	}
}

// expectPlainDo asks for what the document says, a value or an error.
func expectPlainDo(t *testing.T, n api.Node, in []api.Tensor) {
	t.Helper()
	if want, e := plainDo(n, in); e != api.OK {
		expectNoDo(t, n, in, e)
	} else {
		expectDo(t, n, in, want)
	}
}

// expectAll asks All for these values, and Run for the last one.
func expectAll(t *testing.T, j job, want ...api.Tensor) {
	t.Helper()
	l, e := means.All(j.g, j.weights, j.input)
	if e != api.OK || !slices.EqualFunc(l, want, same) {
		t.Errorf("All(%v, %v, %v) = %v, %d; want %v", j.g, short(j.weights...), short(j.input), short(l...), e, short(want...))
	}
	expectRun(t, j, want[len(want)-1])
}

func expectRun(t *testing.T, j job, want api.Tensor) {
	t.Helper()
	if got, e := means.Run(j.g, j.weights, j.input); e != api.OK || !same(got, want) {
		t.Errorf("Run(%v, %v, %v) = %v, %d; want %v", j.g, short(j.weights...), short(j.input), short(got), e, short(want))
	}
}

// expectNone asks both for ErrArg and nothing else (R2).
func expectNone(t *testing.T, g api.Graph, weights []api.Tensor, input api.Tensor) {
	t.Helper()
	told := graph(g.Nodes[:min(len(g.Nodes), 40)]...)
	if got, e := means.Run(g, weights, input); e != api.ErrArg || !isNothing(got) {
		t.Errorf("Run(%v, %v, %v) = %v, %d; want ErrArg and nothing else", told, short(weights...), short(input), short(got), e)
	}
	if l, e := means.All(g, weights, input); e != api.ErrArg || len(l) != 0 {
		t.Errorf("All(%v, %v, %v) = %v, %d; want ErrArg and nothing else", told, short(weights...), short(input), short(l...), e)
	}
}

// plainAll are the values of all nodes of a job that has them.
func plainAll(j job) []api.Tensor {
	var all []api.Tensor
	for at := range j.g.Nodes {
		all = append(all, plainValue(j.g, j.weights, j.input, at))
	}
	return all
}

// expectPlain asks for what the document says, values or ErrArg.
func expectPlain(t *testing.T, j job) {
	t.Helper()
	if !plainIsGiven(j.g, j.weights, j.input) {
		expectNone(t, j.g, j.weights, j.input)
	} else {
		expectAll(t, j, plainAll(j)...)
	}
}
