package means_test

import (
	"fmt"
	"slices"
	"strings"
	"testing"
	"unsafe"

	"drydock/api"
	"drydock/means"
)

// memory is where a list is, its spare capacity included.
type memory struct{ from, to uintptr }

func memoryOf[T any](l []T) memory {
	if cap(l) == 0 {
		return memory{}
	}
	from := uintptr(unsafe.Pointer(unsafe.SliceData(l)))
	return memory{from, from + uintptr(cap(l))*unsafe.Sizeof(l[:1][0])}
}

// memoryOfNode is that of each list of a node, memoryOfTensors that of each one in a list of tensors, and that of the list itself.
func memoryOfNode(n api.Node) []memory { return []memory{memoryOf(n.In), memoryOf(n.Shape)} }

func memoryOfTensors(l []api.Tensor) []memory {
	all := []memory{memoryOf(l)}
	for _, x := range l {
		all = append(all, memoryOf(x.Shape), memoryOf(x.L))
	}
	return all
}

func memoryOfJob(j job) []memory {
	all := append(memoryOfTensors(j.weights), memoryOf(j.input.Shape), memoryOf(j.input.L), memoryOf(j.g.Nodes))
	for _, n := range j.g.Nodes {
		all = append(all, memoryOfNode(n)...)
	}
	return all
}

// expectApart asks that no two lists have memory in common.
func expectApart(t *testing.T, what any, all ...memory) {
	t.Helper()
	all = slices.DeleteFunc(all, func(m memory) bool { return m.from == m.to })
	slices.SortFunc(all, func(a, b memory) int { return int(int64(a.from) - int64(b.from)) })
	for i := 1; i < len(all); i++ {
		if all[i-1].to > all[i].from {
			t.Errorf("%v: two lists share memory", what)
		}
	}
}

// roomy is a list with memory of its own, and with more of itself behind it.
func roomy[T any](l []T, spare int) []T {
	whole := slices.Clone(l)
	for len(l) > 0 && len(whole) < len(l)+spare {
		whole = append(whole, l[len(whole)%len(l)])
	}
	return whole[:len(l):len(whole)]
}

// The next ones are made of roomy lists, whether what they have is valid or not.

func roomyNode(n api.Node, spare int) api.Node {
	n.In, n.Shape = roomy(n.In, spare), roomy(n.Shape, spare)
	return n
}

func roomyTensor(x api.Tensor, spare int) api.Tensor {
	return api.Tensor{Shape: roomy(x.Shape, spare), L: roomy(x.L, spare)}
}

func roomyTensors(l []api.Tensor, spare int) []api.Tensor {
	l = roomy(l, spare)
	for i := range l {
		l[i] = roomyTensor(l[i], spare)
	}
	return l
}

func roomyJob(j job, spare int) job {
	nodes := roomy(j.g.Nodes, spare)
	for i := range nodes {
		nodes[i] = roomyNode(nodes[i], spare)
	}
	return job{graph(nodes...), roomyTensors(j.weights, spare), roomyTensor(j.input, spare)}
}

// tellNode and tellTensors tell all that can be reached, spare capacity included, and where it is.
func tellNode(s *strings.Builder, n api.Node) {
	fmt.Fprintln(s, n.Kind, n.In[:cap(n.In)], len(n.In), memoryOf(n.In), n.Shape[:cap(n.Shape)], len(n.Shape), memoryOf(n.Shape), n.N, n.Pad)
}

func tellTensors(s *strings.Builder, l []api.Tensor) {
	for _, x := range l[:cap(l)] {
		fmt.Fprintln(s, x.Shape[:cap(x.Shape)], len(x.Shape), memoryOf(x.Shape), x.L[:cap(x.L)], len(x.L), memoryOf(x.L))
	}
}

func wholeTask(n api.Node, in []api.Tensor) string {
	var s strings.Builder
	tellNode(&s, n)
	tellTensors(&s, in)
	return s.String()
}

func wholeJob(j job) string {
	var s strings.Builder
	for _, n := range j.g.Nodes[:cap(j.g.Nodes)] {
		tellNode(&s, n)
	}
	tellTensors(&s, j.weights)
	tellTensors(&s, list(j.input))
	return s.String()
}

// spoil overwrites a list and its spare capacity.
func spoil[T int | int32](l []T) {
	l = l[:cap(l)]
	for i := range l {
		l[i] = ^l[i]
	}
}

func spoilTensors(l []api.Tensor) {
	for _, x := range l {
		spoil(x.Shape)
		spoil(x.L)
	}
	clear(l[:cap(l)])
}

func spoilNode(n api.Node) {
	spoil(n.In)
	spoil(n.Shape)
}

func spoilJob(j job) {
	for _, n := range j.g.Nodes {
		spoilNode(n)
	}
	clear(j.g.Nodes[:cap(j.g.Nodes)])
	spoilTensors(j.weights)
	spoilTensors(list(j.input))
}

// badTasks have no value, each for another reason.
func badTasks() []task {
	var all []task
	for _, c := range eachTask() {
		kindless, fielded, padded, shaped := c.n, c.n, c.n, c.n
		kindless.Kind, fielded.N, padded.Pad, shaped.Shape = 0, -1, -1, dims(0, 0)
		for _, n := range []api.Node{kindless, fielded, padded, shaped} {
			all = append(all, task{n, c.in})
		}
		all = append(all, task{c.n, c.in[1:]}, task{c.n, append(slices.Clone(c.in), c.in...)}, task{c.n, slices.Repeat(list(line(1, 2)), len(c.in))}, task{c.n, slices.Repeat(list(of(dims(2, 2), 1)), len(c.in))})
	}
	return all
}

// badJobs have no values, each for another reason.
func badJobs() []job {
	var all []job
	for _, j := range someJobs() {
		all = append(all, job{graph(j.g.Nodes[1:]...), j.weights, j.input}, job{j.g, append(slices.Clone(j.weights), j.input), j.input}, job{j.g, j.weights, line(1, 2, 3, 4, 5)}, job{j.g, j.weights, of(j.input.Shape)})
		if len(j.weights) > 0 {
			last := len(j.weights) - 1
			all = append(all, job{j.g, j.weights[:last], j.input}, job{j.g, append(slices.Clone(j.weights[:last]), line(1, 2, 3, 4, 5)), j.input})
		}
	}
	return all
}

// TestNoCallChangesAnArgument: R4, spare capacity included, whether the call succeeds or not.
func TestNoCallChangesAnArgument(t *testing.T) {
	for _, spare := range []int{0, 1, 5} {
		for _, c := range append(eachTask(), badTasks()...) {
			n, in := roomyNode(c.n, spare), roomyTensors(c.in, spare)
			before := wholeTask(n, in)
			means.Do(n, in)
			if wholeTask(n, in) != before {
				t.Errorf("Do(%v, %v), %d spare: an argument was changed", n, short(in...), spare)
			}
		}
		for _, j := range append(someJobs(), badJobs()...) {
			j = roomyJob(j, spare)
			before := wholeJob(j)
			means.Run(j.g, j.weights, j.input)
			means.All(j.g, j.weights, j.input)
			if wholeJob(j) != before {
				t.Errorf("%v, %d spare: an argument was changed", j.g, spare)
			}
		}
	}
}

// TestDoSharesNothing: R4, neither with the node, nor with the tensors, nor with another result; also where the value is as the tensor is.
func TestDoSharesNothing(t *testing.T) {
	for _, c := range eachTask() {
		n, in := roomyNode(c.n, 3), roomyTensors(c.in, 3)
		want, _ := plainDo(c.n, c.in)
		first, _ := means.Do(n, in)
		second, _ := means.Do(n, in)
		expectApart(t, n, slices.Concat(memoryOfNode(n), memoryOfTensors(in), memoryOfTensors(list(first)), memoryOfTensors(list(second)))...)
		spoilTensors(list(first))
		expectDo(t, n, in, want)
		spoilNode(n)
		spoilTensors(in)
		if !same(second, want) {
			t.Errorf("%v: the result is %v; it follows an argument, or another result", c.n, short(second))
		}
	}
}

// TestRunSharesNothing: R4, likewise of Run.
func TestRunSharesNothing(t *testing.T) {
	for _, start := range someJobs() {
		j := roomyJob(start, 3)
		first, _ := means.Run(j.g, j.weights, j.input)
		second, _ := means.Run(j.g, j.weights, j.input)
		want := of(second.Shape, second.L...)
		expectApart(t, j.g, slices.Concat(memoryOfJob(j), memoryOfTensors(list(first)), memoryOfTensors(list(second)))...)
		spoilTensors(list(first))
		expectRun(t, j, want)
		spoilJob(j)
		if !same(second, want) {
			t.Errorf("%v: the result is %v; it follows an argument, or another result", start.g, short(second))
		}
	}
}

// TestAllSharesNothing: R4, likewise of All, and no list of a result with another one of it: the values of the input and of the weights are new, as are those of nodes that are the same.
func TestAllSharesNothing(t *testing.T) {
	for _, start := range someJobs() {
		j := roomyJob(start, 3)
		want := plainAll(start)
		first, _ := means.All(j.g, j.weights, j.input)
		second, _ := means.All(j.g, j.weights, j.input)
		last, _ := means.Run(j.g, j.weights, j.input)
		expectApart(t, j.g, slices.Concat(memoryOfJob(j), memoryOfTensors(first), memoryOfTensors(second), memoryOfTensors(list(last)))...)
		spoilTensors(first)
		expectAll(t, j, want...)
		for i := range second {
			// A value that is spoiled reaches no other one.
			if !same(second[i], want[i]) {
				t.Errorf("%v: the value of the node %d is %v; it follows another one", start.g, i, short(second[i]))
			}
			spoil(second[i].Shape)
			spoil(second[i].L)
		}
		third, _ := means.All(j.g, j.weights, j.input)
		spoilJob(j)
		if !slices.EqualFunc(third, want, same) {
			t.Errorf("%v: the values are %v; they follow an argument, or another result", start.g, short(third...))
		}
	}
}

// TestResultsAsArguments: a value is given in turn, without being changed; also the same one in several places.
func TestResultsAsArguments(t *testing.T) {
	x, _ := means.Do(node(api.NkAdd, 2), list(line(1, 2), line(3, 4)))
	y, _ := means.Do(node(api.NkMul, 2), list(x, x))
	z, _ := means.Do(nodeBy(api.NkJoin, 3, 0), list(x, y, x))
	g := parse("input 6; weight 6; weight 6; mul 0 1; add 3 2; join 4 0 along 0")
	all, _ := means.All(g, list(z, z), z)
	again, _ := means.All(g, all[1:3], all[0])
	spoilTensors(all)
	if !same(x, line(4, 6)) || !same(y, line(16, 36)) || !same(z, line(4, 6, 16, 36, 4, 6)) {
		t.Errorf("%v, %v, %v", x, y, z)
	}
	if want := line(20, 42, 272, 1332, 20, 42, 4, 6, 16, 36, 4, 6); len(again) != 6 || !same(again[5], want) {
		t.Errorf("%v; want %v at the end", again, want)
	}
}

// TestListsThatShareMemory: inputs, shapes and tensors that are pieces of one list, in an argument.
func TestListsThatShareMemory(t *testing.T) {
	l, numbers := []int{0, 1, 2, 2, 0}, counted(9).L
	j := job{
		graph(
			api.Node{Kind: api.NkInput, Shape: l[2:4]},
			api.Node{Kind: api.NkWeight, Shape: l[1:3]},
			api.Node{Kind: api.NkWeight, Shape: l[2:4]},
			api.Node{Kind: api.NkProduct, In: l[1:3]},
			api.Node{Kind: api.NkTurn, In: l[2:3], Shape: l[:2]},
			api.Node{Kind: api.NkAdd, In: l[3:5]},
		),
		list(api.Tensor{Shape: l[1:3], L: numbers[:2]}, api.Tensor{Shape: l[2:4], L: numbers[1:5]}),
		api.Tensor{Shape: l[2:4], L: numbers[2:6]},
	}
	before := wholeJob(j)
	input, row, square := of(dims(2, 2), 3, 4, 5, 6), of(dims(1, 2), 1, 2), of(dims(2, 2), 2, 3, 4, 5)
	want := list(input, row, square, of(dims(1, 2), 10, 13), square, of(dims(2, 2), 5, 7, 9, 11))
	expectAll(t, j, want...)
	all, _ := means.All(j.g, j.weights, j.input)
	expectApart(t, j.g, memoryOfTensors(all)...)
	expectDo(t, j.g.Nodes[5], list(j.weights[1], j.input), want[5])
	expectDo(t, api.Node{Kind: api.NkShape, In: l[:1], Shape: l[2:4]}, list(j.input), input)
	if wholeJob(j) != before {
		t.Errorf("changed to %v, %v, %v", j.g, j.weights, j.input)
	}
}

// TestSpareCapacityIsNotOfTheList: neither as a node, nor as an input, nor as a tensor, nor as a number.
func TestSpareCapacityIsNotOfTheList(t *testing.T) {
	for _, c := range append(eachTask(), badTasks()...) {
		want, e := plainDo(c.n, c.in)
		n, in := roomyNode(c.n, 5), roomyTensors(c.in, 5)
		if got, errno := means.Do(n, in); errno != e || !same(got, want) {
			t.Errorf("Do(%v, %v) = %v, %d; want %v, %d", n, short(in...), short(got), errno, short(want), e)
		}
	}
	for _, j := range append(someJobs(), badJobs()...) {
		expectPlain(t, roomyJob(j, 5))
	}
	j := example()
	expectNone(t, j.g, j.weights[:0], j.input)
	expectNone(t, graph(j.g.Nodes[:0]...), j.weights, j.input)
	expectNone(t, graph(j.g.Nodes[:2]...), j.weights, j.input)
	expectRun(t, job{graph(j.g.Nodes[:3]...), j.weights, j.input}, line(3, 8))
}

// TestEmptyAndNilAreTheSame: R4.
func TestEmptyAndNilAreTheSame(t *testing.T) {
	for _, none := range [][]int{nil, {}} {
		expectDo(t, api.Node{Kind: api.NkRelu, In: []int{3}, Shape: none}, list(line(-1, 1)), line(0, 1))
		expectNoDo(t, api.Node{Kind: api.NkRelu, In: none, Shape: none}, nil, api.ErrArg)
		expectNoDo(t, api.Node{Kind: api.NkJoin, In: none, Shape: none}, list(), api.ErrArg)
		for _, weights := range [][]api.Tensor{nil, {}} {
			g := graph(api.Node{Kind: api.NkInput, In: none, Shape: []int{1}}, api.Node{Kind: api.NkRelu, In: []int{0}, Shape: none})
			expectAll(t, job{g, weights, line(-2)}, line(-2), line(0))
			expectNone(t, g, weights, api.Tensor{Shape: none, L: []int32{}})
			expectNone(t, graph(), weights, line(1))
		}
	}
}

// TestSameCallSameResult: R5, nothing is left over from other calls, failed ones included.
func TestSameCallSameResult(t *testing.T) {
	j := example()
	for _, other := range append(someJobs(), badJobs()...) {
		means.Run(other.g, other.weights, other.input)
		means.All(other.g, other.weights, other.input)
		expectAll(t, j, line(1, 2), line(3, 4), line(3, 8), line(11))
		expectNone(t, j.g, nil, j.input)
	}
	for _, c := range append(eachTask(), badTasks()...) {
		means.Do(c.n, c.in)
		expectDo(t, node(api.NkMul, 2), list(line(1, 2), line(3, 4)), line(3, 8))
		expectNoDo(t, node(api.NkMul, 2), list(line(1, 2), line(3)), api.ErrShape)
	}
}
