package means_test

import (
	"math"
	"slices"
	"strings"
	"testing"

	"drydock/api"
	"drydock/graphs"
	"drydock/means"
)

// example is the chapter's G, with its weight and its input.
func example() job {
	return job{parse("input 2; weight 2; mul 0 1; sum 2 along 0"), list(line(3, 4)), line(1, 2)}
}

func TestExamples(t *testing.T) {
	j := example()
	expectRun(t, j, line(11))
	expectAll(t, j, line(1, 2), line(3, 4), line(3, 8), line(11))
	expectNone(t, j.g, nil, line(1, 2))
	expectNone(t, j.g, j.weights, line(1))
	expectNoDo(t, node(api.NkAdd, 2), list(line(1, 2), line(1)), api.ErrShape)
	expectNoDo(t, api.Node{Kind: api.NkInput, Shape: dims(2)}, nil, api.ErrArg)
}

// TestErrorNumbers: as the chapters give them.
func TestErrorNumbers(t *testing.T) {
	_, do := means.Do(api.Node{}, nil)
	_, run := means.Run(api.Graph{}, nil, line(1))
	_, all := means.All(api.Graph{}, nil, line(1))
	_, misfit := means.Do(node(api.NkMul, 2), list(line(1, 2), line(1)))
	if do != 1 || run != 1 || all != 1 || misfit != 10 {
		t.Errorf("%d, %d, %d, %d", do, run, all, misfit)
	}
}

// P13.1

// TestDoOfEachKind: values worked out by hand, of numbers that wrap round and of the ends of the 32 bits among them.
func TestDoOfEachKind(t *testing.T) {
	a, b := of(dims(2, 2), 1, -2, least, greatest), of(dims(2, 2), 5, -6, least, 1)
	image, wide := counted(1, 3, 3), counted(2, 3)
	for _, c := range []struct {
		n    api.Node
		in   []api.Tensor
		want api.Tensor
	}{
		{node(api.NkAdd, 2), list(a, b), of(dims(2, 2), 6, -8, 0, least)},
		{node(api.NkAdd, 2), list(a, a), of(dims(2, 2), 2, -4, 0, -2)},
		{node(api.NkMul, 2), list(a, b), of(dims(2, 2), 5, 12, 0, greatest)},
		{node(api.NkMul, 2), list(line(65536, 46341), line(65536, 46341)), line(0, -2147479015)},
		{node(api.NkRelu, 1), list(a), of(dims(2, 2), 1, 0, 0, greatest)},
		{nodeBy(api.NkShift, 1, 0), list(a), of(dims(2, 2), 1, -2, -128, 127)},
		{nodeBy(api.NkShift, 1, 1), list(line(1, -1, 3, -3, 300)), line(1, 0, 2, -1, 127)},
		{nodeBy(api.NkShift, 1, 31), list(a), of(dims(2, 2), 0, 0, -1, 1)},
		{node(api.NkProduct, 2), list(wide, of(dims(3, 1), 1, 10, 100)), of(dims(2, 1), 321, 654)},
		{node(api.NkProduct, 2), list(of(dims(3, 1), 1, 10, 100), of(dims(1, 2), 2, greatest)), of(dims(3, 2), 2, greatest, 20, -10, 200, -100)},
		{window(1, 0), list(image, of(dims(1, 1, 2, 2), 1, 1, 1, 1)), of(dims(1, 2, 2), 12, 16, 24, 28)},
		{window(2, 1), list(image, of(dims(1, 1, 1, 1), 1)), of(dims(1, 3, 3), 0, 0, 0, 0, 5, 0, 0, 0, 0)},
		{window(8, 8), list(image, of(dims(2, 1, 3, 3), 0, 0, 0, 0, 0, 0, 0, 0, 1, 1, 0, 0, 0, 0, 0, 0, 0, 0)), of(dims(2, 3, 3), 0, 0, 0, 0, 9, 0, 0, 0, 0, 0, 0, 0, 0, 1, 0, 0, 0, 0)},
		{nodeBy(api.NkPool, 1, 2), list(image), of(dims(1, 1, 1), 5)},
		{nodeBy(api.NkPool, 1, 1), list(of(dims(2, 1, 2), least, -1, greatest, 0)), of(dims(2, 1, 2), least, -1, greatest, 0)},
		{nodeTo(api.NkShape, 4), list(a), line(1, -2, least, greatest)},
		{nodeTo(api.NkShape, 3, 1, 2), list(wide), of(dims(3, 1, 2), 1, 2, 3, 4, 5, 6)},
		{nodeTo(api.NkTurn, 1, 0), list(wide), of(dims(3, 2), 1, 4, 2, 5, 3, 6)},
		{nodeTo(api.NkTurn, 2, 0, 1), list(counted(1, 2, 3)), of(dims(3, 1, 2), 1, 4, 2, 5, 3, 6)},
		{nodeBy(api.NkJoin, 1, 0), list(a), a},
		{nodeBy(api.NkJoin, 2, 1), list(wide, of(dims(2, 1), 8, 9)), of(dims(2, 4), 1, 2, 3, 8, 4, 5, 6, 9)},
		{nodeBy(api.NkJoin, 3, 0), list(line(3), line(1, 2), line(least)), line(3, 1, 2, least)},
		{nodeBy(api.NkJoin, 4, 0), list(line(4), line(3), line(2), line(1)), line(4, 3, 2, 1)},
		{nodeBy(api.NkSum, 1, 0), list(wide), line(5, 7, 9)},
		{nodeBy(api.NkSum, 1, 1), list(a), line(-1, -1)},
		{nodeBy(api.NkSum, 1, 0), list(line(greatest, 1, 1)), line(least + 1)},
	} {
		expectDo(t, c.n, c.in, c.want)
		expectPlainDo(t, c.n, c.in)
	}
}

func TestDoOfSomeTensors(t *testing.T) {
	for _, c := range eachTask() {
		if _, e := plainDo(c.n, c.in); e != api.OK {
			t.Errorf("%v: the test is wrong: %d", c.n, e)
		}
		expectPlainDo(t, c.n, c.in)
	}
}

// TestDoTakesTheTensorsInOrder: of two that can be exchanged, the first one is the first input.
func TestDoTakesTheTensorsInOrder(t *testing.T) {
	a, b := of(dims(2, 2), 1, 2, 3, 4), of(dims(2, 2), 0, 1, 1, 1)
	expectDo(t, node(api.NkProduct, 2), list(a, b), of(dims(2, 2), 2, 3, 4, 7))
	expectDo(t, node(api.NkProduct, 2), list(b, a), of(dims(2, 2), 3, 4, 4, 6))
	expectDo(t, nodeBy(api.NkJoin, 2, 0), list(a, b), of(dims(4, 2), 1, 2, 3, 4, 0, 1, 1, 1))
	expectDo(t, nodeBy(api.NkJoin, 2, 0), list(b, a), of(dims(4, 2), 0, 1, 1, 1, 1, 2, 3, 4))
	image, filters := counted(1, 2, 2), of(dims(1, 1, 1, 1), 5)
	expectDo(t, window(1, 0), list(image, filters), of(dims(1, 2, 2), 5, 10, 15, 20))
	expectNoDo(t, window(1, 0), list(filters, image), api.ErrShape)
}

// TestNumbersOfInputs: of each kind, each number that it takes and those beside it, with as many tensors, with fewer, and with more.
func TestNumbersOfInputs(t *testing.T) {
	x, image, filters := mixed(1, 2, 2), mixed(2, 1, 2, 2), mixed(3, 1, 1, 1, 1)
	for _, c := range []struct {
		n           api.Node
		x           api.Tensor
		least, most int
	}{
		{api.Node{Kind: api.NkAdd}, x, 2, 2}, {api.Node{Kind: api.NkMul}, x, 2, 2}, {api.Node{Kind: api.NkRelu}, x, 1, 1}, {api.Node{Kind: api.NkShift, N: 3}, x, 1, 1}, {api.Node{Kind: api.NkProduct}, x, 2, 2},
		{api.Node{Kind: api.NkWindow, N: 1}, filters, 2, 2}, {api.Node{Kind: api.NkPool, N: 2}, image, 1, 1}, {api.Node{Kind: api.NkShape, Shape: dims(4)}, x, 1, 1}, {api.Node{Kind: api.NkTurn, Shape: dims(1, 0)}, x, 1, 1},
		{api.Node{Kind: api.NkJoin, N: 1}, x, 1, 4}, {api.Node{Kind: api.NkSum, N: 1}, x, 1, 1},
	} {
		for inputs := range 7 {
			for tensors := range 7 {
				c.n.In = make([]int, inputs)
				in := slices.Repeat(list(c.x), tensors)
				if c.n.Kind == api.NkWindow && tensors > 0 {
					in[0] = image
				}
				if inputs != tensors || inputs < c.least || inputs > c.most {
					expectNoDo(t, c.n, in, api.ErrArg)
				} else if _, e := means.Do(c.n, in); e != api.OK {
					t.Errorf("Do(%v, %v): %d", c.n, short(in...), e)
				}
				expectPlainDo(t, c.n, in)
			}
		}
		c.n.In = make([]int, 1<<16)
		expectNoDo(t, c.n, slices.Repeat(list(c.x), 1<<16), api.ErrArg)
	}
}

// TestFieldsOfEachKind: the numbers N and Pad, and the list Shape, at their edges, beside them, and far off; each by itself.
func TestFieldsOfEachKind(t *testing.T) {
	lists := append(notShapes(), dims(1), dims(4), dims(12), dims(0), dims(1, 0), dims(0, 1), dims(0, 0), dims(1, 2), dims(2, -1), dims(0, 2, 1), dims(0, 1, 2), dims(3, 1, 0, 2), dims(0, 1, 2, 3, 4), dims(1, 1, 1, 12), dims(64, 64))
	for _, c := range eachTask() {
		for _, number := range someNumbers() {
			n := c.n
			n.N = number
			expectPlainDo(t, n, c.in)
			n = c.n
			n.Pad = number
			expectPlainDo(t, n, c.in)
		}
		for _, s := range lists {
			n := c.n
			n.Shape = s
			expectPlainDo(t, n, c.in)
		}
	}
}

// TestFieldsOfOtherKinds: what a kind does not have must be zero, and empty.
func TestFieldsOfOtherKinds(t *testing.T) {
	has := func(k api.Kind, kinds ...api.Kind) bool { return slices.Contains(kinds, k) }
	for _, c := range eachTask() {
		n := c.n
		if !has(n.Kind, api.NkShift, api.NkWindow, api.NkPool, api.NkJoin, api.NkSum) {
			n.N = 1
			expectNoDo(t, n, c.in, api.ErrArg)
			n.N = -1
			expectNoDo(t, n, c.in, api.ErrArg)
		}
		n = c.n
		if !has(n.Kind, api.NkWindow) {
			n.Pad = 1
			expectNoDo(t, n, c.in, api.ErrArg)
			n.Pad = math.MinInt
			expectNoDo(t, n, c.in, api.ErrArg)
		}
		n = c.n
		if !has(n.Kind, api.NkShape, api.NkTurn) {
			n.Shape = slices.Clone(c.in[0].Shape)
			expectNoDo(t, n, c.in, api.ErrArg)
			n.Shape = dims(0)
			expectNoDo(t, n, c.in, api.ErrArg)
			n.Shape = dims()
			expectPlainDo(t, n, c.in)
		}
	}
}

// TestKindsThatAreNotComputed: the input and the weights, no kind, and those that do not exist, whatever they are given.
func TestKindsThatAreNotComputed(t *testing.T) {
	for kind := range 256 {
		if kind > 2 && kind < 14 {
			continue
		}
		for inputs := range 6 {
			for _, s := range [][]int{nil, {1}, {2}, {1, 0}} {
				n := api.Node{Kind: api.Kind(kind), In: make([]int, inputs), Shape: s}
				expectNoDo(t, n, nil, api.ErrArg)
				expectNoDo(t, n, slices.Repeat(list(line(1, 2)), inputs), api.ErrArg)
				n.N = 1
				expectNoDo(t, n, slices.Repeat(list(line(1)), inputs), api.ErrArg)
			}
		}
	}
	for _, c := range eachTask() {
		for _, kind := range []api.Kind{api.NkNone, api.NkInput, api.NkWeight, 14, 128, 255} {
			c.n.Kind = kind
			expectNoDo(t, c.n, c.in, api.ErrArg)
		}
	}
}

// TestIndicesOfInputsDoNotMatter: only how many there are.
func TestIndicesOfInputsDoNotMatter(t *testing.T) {
	for _, c := range eachTask() {
		want, _ := plainDo(c.n, c.in)
		for _, index := range someNumbers() {
			for i := range c.n.In {
				n := c.n
				n.In = slices.Clone(n.In)
				n.In[i] = index
				expectDo(t, n, c.in, want)
				n.In = slices.Repeat([]int{index}, len(n.In))
				expectDo(t, n, c.in, want)
			}
		}
	}
}

// TestTensorsThatDoNotFit: ErrShape of each kind that has it.
func TestTensorsThatDoNotFit(t *testing.T) {
	for _, c := range []struct {
		n  api.Node
		in []api.Tensor
	}{
		{node(api.NkAdd, 2), list(line(1), line(1, 2))}, {node(api.NkAdd, 2), list(counted(2, 3), counted(3, 2))}, {node(api.NkAdd, 2), list(line(1), of(dims(1, 1), 1))},
		{node(api.NkMul, 2), list(line(1, 2), line(1))}, {node(api.NkMul, 2), list(counted(6), counted(2, 3))},
		{node(api.NkProduct, 2), list(line(1, 2), line(1, 2))}, {node(api.NkProduct, 2), list(counted(2, 3), counted(2, 3))}, {node(api.NkProduct, 2), list(counted(2, 2), counted(2, 2, 1))},
		{window(1, 0), list(counted(3, 3), counted(1, 1, 2, 2))}, {window(1, 0), list(counted(1, 3, 3), counted(1, 2, 2))}, {window(1, 0), list(counted(2, 3, 3), counted(1, 1, 2, 2))}, {window(8, 1), list(counted(1, 3, 3), counted(1, 1, 6, 1))}, {window(1, 1), list(counted(1, 64, 64), counted(1, 1, 1, 1))},
		{nodeBy(api.NkPool, 1, 1), list(counted(2, 2))}, {nodeBy(api.NkPool, 1, 4), list(counted(1, 3, 4))}, {nodeBy(api.NkPool, 1, 64), list(counted(1, 64, 63))},
		{nodeTo(api.NkShape, 5), list(counted(2, 2))}, {nodeTo(api.NkShape, 64, 64), list(line(1))},
		{nodeBy(api.NkJoin, 2, 0), list(line(1), of(dims(1, 1), 1))}, {nodeBy(api.NkJoin, 2, 0), list(counted(2, 3), counted(3, 2))}, {nodeBy(api.NkJoin, 2, 0), list(counted(64), line(1))}, {nodeBy(api.NkJoin, 4, 1), list(counted(2, 3), counted(2, 1), counted(2, 3), counted(1, 3))},
	} {
		expectNoDo(t, c.n, c.in, api.ErrShape)
		expectPlainDo(t, c.n, c.in)
	}
}

// TestFieldsThatDoNotFitTheTensor: an order, or a dimension, that the node may have, but not with this tensor, is ErrArg.
func TestFieldsThatDoNotFitTheTensor(t *testing.T) {
	x := counted(2, 3)
	for _, n := range []api.Node{nodeTo(api.NkTurn, 0), nodeTo(api.NkTurn, 0, 1, 2), nodeTo(api.NkTurn, 3, 2, 1, 0), nodeBy(api.NkSum, 1, 2), nodeBy(api.NkSum, 1, 3), nodeBy(api.NkJoin, 1, 2), nodeBy(api.NkJoin, 1, 3)} {
		expectNoDo(t, n, list(x), api.ErrArg)
	}
	expectNoDo(t, nodeBy(api.NkJoin, 2, 1), list(line(1), x), api.ErrArg)
	expectNoDo(t, nodeBy(api.NkJoin, 2, 1), list(x, line(1)), api.ErrShape)
	expectNoDo(t, nodeBy(api.NkSum, 1, 1), list(line(1)), api.ErrArg)
}

// TestWhichErrorIsFirst: ErrArg, of the node as of the tensors, comes ahead of ErrShape.
func TestWhichErrorIsFirst(t *testing.T) {
	a, b := counted(2, 3), counted(1, 3, 3)
	for _, n := range []api.Node{
		{Kind: api.NkAdd, N: 1}, {Kind: api.NkAdd, Shape: dims(2, 3)}, {Kind: api.NkMul, Pad: 1}, {Kind: api.NkProduct, N: -1}, {Kind: api.NkJoin, N: 4}, {Kind: api.NkJoin, N: -1}, {Kind: api.NkJoin, Pad: 1}, {Kind: api.NkJoin, Shape: dims(1)},
		{Kind: api.NkWindow}, {Kind: api.NkWindow, N: 9}, {Kind: api.NkWindow, N: 1, Pad: 9}, {Kind: api.NkWindow, N: 1, Pad: -1}, {Kind: api.NkWindow, N: 1, Shape: dims(1)},
	} {
		n.In = []int{0, 0}
		expectNoDo(t, n, list(a, b), api.ErrArg)
		expectNoDo(t, n, list(b, a), api.ErrArg)
	}
	for _, n := range []api.Node{{Kind: api.NkPool}, {Kind: api.NkPool, N: 65}, {Kind: api.NkPool, N: -1}, {Kind: api.NkPool, N: 1, Pad: 1}, {Kind: api.NkPool, N: 1, Shape: dims(1)}, {Kind: api.NkShape}, {Kind: api.NkShape, Shape: dims(0)}, {Kind: api.NkShape, Shape: dims(65)}, {Kind: api.NkShape, Shape: dims(5), N: 1}, {Kind: api.NkShape, Shape: dims(5), Pad: 1}} {
		n.In = []int{0}
		expectNoDo(t, n, list(a), api.ErrArg)
	}
	for _, n := range []api.Node{node(api.NkAdd, 2), node(api.NkMul, 2), node(api.NkProduct, 2), window(1, 0), nodeBy(api.NkJoin, 2, 0)} {
		expectNoDo(t, n, list(a, b), api.ErrShape)
		expectNoDo(t, n, list(a, b, b), api.ErrArg)
		expectNoDo(t, n, list(a), api.ErrArg)
		expectNoDo(t, n, list(a, api.Tensor{}), api.ErrArg)
		expectNoDo(t, n, list(api.Tensor{}, b), api.ErrArg)
		expectNoDo(t, n, list(of(dims(2, 3), 1), b), api.ErrArg)
	}
}

// TestInvalidTensors at each place, of each kind.
func TestInvalidTensors(t *testing.T) {
	for _, c := range eachTask() {
		for i, x := range c.in {
			for _, bad := range notTensors(x.Shape) {
				in := slices.Clone(c.in)
				in[i] = bad
				expectNoDo(t, c.n, in, api.ErrArg)
			}
		}
	}
}

// TestDoOfAnyNodeAndList: each kind with each number of inputs, with fields and tensors that often do not fit.
func TestDoOfAnyNodeAndList(t *testing.T) {
	for kind := range 16 {
		for inputs := range 6 {
			for _, number := range []int{-1, 0, 1, 2, 4, 9, 32, 65} {
				for _, pad := range []int{-1, 0, 1, 9} {
					for _, s := range [][]int{nil, {0}, {4}, {1, 0}, {2, 0, 1}} {
						n := api.Node{Kind: api.Kind(kind), In: make([]int, inputs), Shape: s, N: number, Pad: pad}
						for _, in := range someLists() {
							expectPlainDo(t, n, in)
						}
					}
				}
			}
		}
	}
}

// P13.2 and P13.3

// TestEachKindInAGraph: at the end, where another node takes it, and where none does.
func TestEachKindInAGraph(t *testing.T) {
	for i, text := range eachKind() {
		for _, end := range []string{"", "; relu 5", "; relu 0", "; join 5 5 along 0; sum 6 along 0"} {
			expectPlain(t, jobOf(parse(begin+text+end), uint32(i)))
		}
	}
}

// TestValuesByHand: graphs in which the input and the weights stand at other places, a node is taken twice, and numbers wrap round.
func TestValuesByHand(t *testing.T) {
	for _, c := range []struct {
		text    string
		weights []api.Tensor
		input   api.Tensor
		want    []api.Tensor
	}{
		{"input 1; relu 0", nil, line(-5), list(line(-5), line(0))},
		{"input 1; relu 0", nil, line(greatest), list(line(greatest), line(greatest))},
		{"input 2; add 0 0", nil, line(greatest, least), list(line(greatest, least), line(-2, 0))},
		{"input 2; mul 0 0", nil, line(46341, -3), list(line(46341, -3), line(-2147479015, 9))},
		{"input 1; join 0 0 0 0 along 0; sum 1 along 0", nil, line(1 << 30), list(line(1<<30), line(1<<30, 1<<30, 1<<30, 1<<30), line(0))},
		{"weight 1; input 1; add 0 1", list(line(7)), line(greatest), list(line(7), line(greatest), line(least+6))},
		{"weight 1; weight 2; input 1; weight 3; join 3 1 along 0", list(line(1), line(2, 3), line(4, 5, 6)), line(7), list(line(1), line(2, 3), line(7), line(4, 5, 6), line(4, 5, 6, 2, 3))},
		{"weight 1; input 1; weight 1; join 0 1 2 along 0", list(line(10), line(30)), line(20), list(line(10), line(20), line(30), line(10, 20, 30))},
		{"weight 2 2; input 2 2; product 0 1; product 1 0", list(of(dims(2, 2), 0, 1, 1, 1)), counted(2, 2), list(of(dims(2, 2), 0, 1, 1, 1), counted(2, 2), of(dims(2, 2), 3, 4, 4, 6), of(dims(2, 2), 2, 3, 4, 7))},
		{"input 1; shift 0 by 31; shift 0 by 0", nil, line(least), list(line(least), line(-1), line(-128))},
		{"input 1; weight 1; mul 0 1; relu 0", list(line(5)), line(-3), list(line(-3), line(5), line(-15), line(0))},
	} {
		j := job{parse(c.text), c.weights, c.input}
		expectAll(t, j, c.want...)
		expectPlain(t, j)
	}
}

func TestSomeJobs(t *testing.T) {
	for _, j := range someJobs() {
		expectPlain(t, j)
	}
}

// TestMostNodes: of MaxNodes, and one more. As many ways lead to the first one as can be.
func TestMostNodes(t *testing.T) {
	double, square := parse("input 2; add 0 0"), parse("input 2; mul 0 0")
	for len(double.Nodes) < 32 {
		last := len(double.Nodes) - 1
		double.Nodes = append(double.Nodes, api.Node{Kind: api.NkAdd, In: []int{last, last}})
		square.Nodes = append(square.Nodes, api.Node{Kind: api.NkMul, In: []int{last, last}})
	}
	expectRun(t, job{double, nil, line(1, 6)}, line(least, 0))
	expectRun(t, job{double, nil, line(-1, 3)}, line(least, least))
	expectRun(t, job{square, nil, line(-1, 2)}, line(1, 0))
	expectNone(t, with(double, api.Node{Kind: api.NkRelu, In: []int{0}}), nil, line(1, 6))
	all, e := means.All(double, nil, line(1, 6))
	for i := range 32 {
		if e != api.OK || len(all) != 32 || !same(all[i], line(1<<i, 6<<i)) {
			t.Fatalf("All of doubles, at %d: %v, %d", i, short(all...), e)
		}
	}
}

// TestInvalidGraphs: ErrArg, also where the weights and the input are right.
func TestInvalidGraphs(t *testing.T) {
	input, weight := api.Node{Kind: api.NkInput, Shape: dims(2)}, api.Node{Kind: api.NkWeight, Shape: dims(2)}
	relu := func(in int) api.Node { return api.Node{Kind: api.NkRelu, In: []int{in}} }
	for _, nodes := range [][]api.Node{
		nil, {}, {input}, {weight}, {relu(0)}, {relu(-1)}, {{}}, {input, weight}, {weight, input}, {input, input}, {weight, relu(0)}, {input, input, relu(0)}, {input, relu(0), weight}, {weight, relu(0), input},
		{input, relu(1)}, {input, relu(2)}, {input, relu(-1)}, {input, relu(math.MinInt)}, {input, relu(math.MaxInt)}, {relu(1), input}, {relu(1), input, relu(0)}, {input, relu(2), relu(1)},
		{input, {}}, {input, {Kind: 14, In: []int{0}}}, {input, {Kind: 255, In: []int{0}}}, {input, {Kind: api.NkNone, In: []int{0}}}, {input, {Kind: api.NkRelu}}, {input, {Kind: api.NkRelu, In: []int{0, 0}}}, {input, {Kind: api.NkAdd, In: []int{0}}}, {input, {Kind: api.NkJoin}}, {input, {Kind: api.NkJoin, In: make([]int, 5)}},
		{input, {Kind: api.NkRelu, In: []int{0}, N: 1}}, {input, {Kind: api.NkShift, In: []int{0}, N: 32}}, {input, {Kind: api.NkSum, In: []int{0}, N: 1}}, {input, {Kind: api.NkProduct, In: []int{0, 0}}}, {input, {Kind: api.NkPool, In: []int{0}, N: 1}}, {input, {Kind: api.NkTurn, In: []int{0}, Shape: dims(1)}}, {input, {Kind: api.NkShape, In: []int{0}, Shape: dims(3)}},
		{{Kind: api.NkInput, Shape: dims(2), N: 1}, relu(0)}, {{Kind: api.NkInput, Shape: dims(2), In: []int{0}}, relu(0)}, {{Kind: api.NkInput}, relu(0)}, {{Kind: api.NkInput, Shape: dims(65)}, relu(0)},
		// The fault is in a node that the last one does not need.
		{input, relu(3), relu(0)}, {input, {}, relu(0)}, {input, {Kind: api.NkSum, In: []int{0}, N: 1}, relu(0)}, {input, {Kind: api.NkWeight}, relu(0)}, {input, {Kind: api.NkWeight, Shape: dims(2), Pad: 1}, relu(0)},
		slices.Concat([]api.Node{input}, slices.Repeat([]api.Node{relu(0)}, 32)), slices.Concat([]api.Node{input}, slices.Repeat([]api.Node{relu(0)}, 1<<16)),
	} {
		g := graph(nodes...)
		if graphs.Check(g) {
			t.Errorf("%v: the test is wrong", g)
		}
		for many := range 4 {
			expectNone(t, g, slices.Repeat(list(line(1, 2)), many), line(1, 2))
		}
		expectNone(t, g, nil, api.Tensor{})
	}
}

// TestHowManyWeights: none, one too few, and one too many, wherever it is put; also of a graph that has none.
func TestHowManyWeights(t *testing.T) {
	for _, j := range someJobs() {
		all := append(list(of(dims(1), 1), j.input, api.Tensor{}), j.weights...)
		for i := range j.weights {
			expectNone(t, j.g, slices.Delete(slices.Clone(j.weights), i, i+1), j.input)
			expectNone(t, j.g, j.weights[:i], j.input)
		}
		for _, x := range all {
			for _, at := range []int{0, len(j.weights) / 2, len(j.weights)} {
				expectNone(t, j.g, slices.Insert(slices.Clone(j.weights), at, x), j.input)
			}
		}
		expectNone(t, j.g, slices.Repeat(list(j.input), 1<<12), j.input)
		if len(j.weights) == 0 {
			expectPlain(t, job{j.g, list(), j.input})
			expectPlain(t, job{j.g, nil, j.input})
		}
	}
}

// otherShapes are such as have the same size, the same dimensions in another order, or one of them more, less, or greater.
func otherShapes(s []int) [][]int {
	back := slices.Clone(s)
	slices.Reverse(back)
	all := [][]int{back, append(slices.Clone(s), 1), append([]int{1}, s...), s[1:], s[:len(s)-1], {sizeOf(s)}, {1}, {64, 64}, {1, 1, 1, 1}}
	for d := range s {
		for _, more := range []int{-1, 1} {
			other := slices.Clone(s)
			other[d] += more
			all = append(all, other)
		}
	}
	return slices.DeleteFunc(all, func(other []int) bool { return slices.Equal(s, other) || !isShape(other) })
}

// TestOtherWeights: each of them with another shape, or invalid; also one that the last node does not need.
func TestOtherWeights(t *testing.T) {
	for _, j := range someJobs() {
		for i, w := range j.weights[:min(len(j.weights), 4)] {
			weights := slices.Clone(j.weights)
			for _, s := range otherShapes(w.Shape) {
				weights[i] = mixed(1, s...)
				expectNone(t, j.g, weights, j.input)
			}
			for _, bad := range notTensors(w.Shape) {
				weights[i] = bad
				expectNone(t, j.g, weights, j.input)
			}
		}
	}
}

// TestWeightsInOrder: their order is that of the nodes. Of different shapes, another order is no model; of the same one, it is another one.
func TestWeightsInOrder(t *testing.T) {
	a, b, c := counted(2, 3), counted(3, 2), counted(2, 3)
	c.L[0] = 100
	g := parse("weight 2 3; weight 3 2; input 1; weight 2 3; product 0 1; product 3 1; join 4 5 along 0")
	expectRun(t, job{g, list(a, b, c), line(1)}, of(dims(4, 2), 22, 28, 49, 64, 121, 226, 49, 64))
	expectRun(t, job{g, list(c, b, a), line(1)}, of(dims(4, 2), 121, 226, 49, 64, 22, 28, 49, 64))
	for _, weights := range [][]api.Tensor{list(b, a, c), list(a, c, b), list(b, c, a), list(c, a, b), list(a, a, a), list(b, b, b)} {
		expectNone(t, g, weights, line(1))
	}
}

// TestOtherInputs: with another shape, or invalid; also where the last node does not need it.
func TestOtherInputs(t *testing.T) {
	jobs := append(someJobs(), jobOf(parse("weight 3; input 2 2; relu 0"), 1), jobOf(parse("input 6; weight 3; relu 1"), 2))
	for _, j := range jobs {
		for _, s := range otherShapes(j.input.Shape) {
			expectNone(t, j.g, j.weights, mixed(1, s...))
		}
		for _, bad := range notTensors(j.input.Shape) {
			expectNone(t, j.g, j.weights, bad)
		}
	}
}

// P13.4

// expectConsequences asks for what follows of the definition: values are what Do returns for values, and have the shapes of the graph.
func expectConsequences(t *testing.T, j job) {
	t.Helper()
	all, e := means.All(j.g, j.weights, j.input)
	s, _ := graphs.Shapes(j.g)
	if e != api.OK || len(all) != len(j.g.Nodes) {
		t.Errorf("All(%v, %v, %v): %d values, %d", j.g, short(j.weights...), short(j.input), len(all), e)
		return
	}
	for i, n := range j.g.Nodes {
		if !slices.Equal(all[i].Shape, s[i]) || len(all[i].L) != sizeOf(s[i]) {
			t.Errorf("%v: the value of the node %d has the shape %v, and %d numbers; want %v", j.g, i, all[i].Shape, len(all[i].L), s[i])
		}
		if n.Kind != api.NkInput && n.Kind != api.NkWeight {
			expectDo(t, n, valuesOf(all, n.In), all[i])
		}
	}
	for i, w := range graphs.Weights(j.g) {
		if !same(all[w], j.weights[i]) {
			t.Errorf("%v: the value of the weight %d is %v; want %v", j.g, w, short(all[w]), short(j.weights[i]))
		}
	}
	if got := all[graphs.Input(j.g)]; !same(got, j.input) {
		t.Errorf("%v: the value of the input is %v; want %v", j.g, short(got), short(j.input))
	}
	expectRun(t, j, all[len(all)-1])
}

func valuesOf(all []api.Tensor, nodes []int) []api.Tensor {
	var in []api.Tensor
	for _, i := range nodes {
		in = append(in, all[i])
	}
	return in
}

func TestConsequences(t *testing.T) {
	for _, j := range someJobs() {
		expectConsequences(t, j)
	}
	r := generator{1}
	for range 150 {
		j := jobOf(r.graph(5+r.number(28)), r.x)
		expectConsequences(t, j)
	}
}

// TestGraphsOfAnyKinds against the document, each node computed again by whoever takes it.
func TestGraphsOfAnyKinds(t *testing.T) {
	r := generator{2}
	for range 300 {
		expectPlain(t, jobOf(r.graph(5+r.number(8)), r.x))
	}
}

// TestOneNodeMore: what it comes to is what Do makes of the values of all others.
func TestOneNodeMore(t *testing.T) {
	r := generator{3}
	added := 0
	for _, j := range someJobs() {
		all, _ := means.All(j.g, j.weights, j.input)
		for range 20 {
			n := r.node(len(j.g.Nodes))
			more := job{with(j.g, n), j.weights, j.input}
			if n.Kind == api.NkWeight || !graphs.Check(more.g) {
				expectNone(t, more.g, more.weights, more.input)
				continue
			}
			added++
			want, e := means.Do(n, valuesOf(all, n.In))
			if e != api.OK {
				t.Errorf("%v: no value: %d", more.g, e)
			}
			expectRun(t, more, want)
			expectAll(t, more, append(slices.Clone(all), want)...)
		}
	}
	if added < 100 {
		t.Errorf("the test is wrong: only %d nodes fit", added)
	}
}

// TestNodesThatAreNotNeeded do not matter: neither what their numbers are, nor whether they are there.
func TestNodesThatAreNotNeeded(t *testing.T) {
	g := parse("weight 3; input 2; weight 2; weight 2; mul 1 2; add 3 3; relu 4; relu 5; add 5 5; relu 0; shift 5 by 1")
	want := line(-6, 7)
	for seed := range uint32(20) {
		j := jobOf(g, seed)
		j.weights[2] = line(-6, 7)
		expectRun(t, j, want)
	}
	expectRun(t, job{parse("weight 2; input 2; weight 2; add 2 2; shift 3 by 1"), list(line(1, 2), line(-6, 7)), line(8, 9)}, want)
	expectRun(t, job{parse("input 1; weight 2; add 1 1; shift 2 by 1"), list(line(-6, 7)), line(8)}, want)
}

// TestPrefix: the values of a graph that ends earlier are those of the nodes that it has.
func TestPrefix(t *testing.T) {
	for _, j := range someJobs() {
		all, _ := means.All(j.g, j.weights, j.input)
		for end := range j.g.Nodes {
			g := graph(j.g.Nodes[:end]...)
			if graphs.Check(g) {
				expectAll(t, job{g, j.weights[:len(graphs.Weights(g))], j.input}, all[:end]...)
			}
		}
	}
}

// TestGreatestWork: the graph with the most to compute ends.
func TestGreatestWork(t *testing.T) {
	g := parse("input 64 64; weight 1 1 33 33; shape 0 to 1 64 64; " + strings.TrimSuffix(strings.Repeat("window 2 1 step 1 pad 0; ", 29), "; "))
	j := jobOf(g, 1)
	got, e := means.Run(j.g, j.weights, j.input)
	want, _ := means.Do(g.Nodes[31], list(of(dims(1, 64, 64), j.input.L...), j.weights[0]))
	if e != api.OK || !same(got, want) {
		t.Errorf("%v, %d; want %v", short(got), e, short(want))
	}
}

// FuzzAll compares with the document: nodes and tensors of any kind, and graphs of them.
func FuzzAll(f *testing.F) {
	f.Add(uint32(1), 4, uint8(7), 1, 0, false)
	f.Add(uint32(9), 9, uint8(8), 1, 1, true)
	f.Add(uint32(5), 12, uint8(13), 0, 0, false)
	f.Add(uint32(77), 2, uint8(11), 0, -1, true)
	f.Fuzz(func(t *testing.T, seed uint32, many int, kind uint8, number, pad int, spoiled bool) {
		r := generator{seed}
		n := r.node(3)
		if spoiled {
			n.Kind, n.N, n.Pad = api.Kind(kind%16), number, pad
		}
		var in []api.Tensor
		for range len(n.In) {
			in = append(in, mixed(r.x, r.shape()...))
		}
		expectPlainDo(t, n, in)
		j := jobOf(r.graph(5+int(uint(many)%8)), seed)
		expectPlain(t, j)
		expectConsequences(t, j)
		if spoiled {
			at := r.number(len(j.g.Nodes))
			j.g.Nodes[at].Kind, j.g.Nodes[at].N, j.g.Nodes[at].Pad = n.Kind, n.N, n.Pad
			expectPlain(t, j)
		}
	})
}
