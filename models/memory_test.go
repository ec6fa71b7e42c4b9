package models_test

import (
	"bytes"
	"fmt"
	"slices"
	"strings"
	"testing"
	"unsafe"

	"drydock/api"
	"drydock/models"
)

// memory is where a list is, its spare capacity included.
type memory struct{ from, to uintptr }

func memoryOf[T any](l []T) memory {
	if cap(l) == 0 {
		return memory{}
	}
	from := uintptr(unsafe.Pointer(unsafe.SliceData(l)))
	return memory{from, from + uintptr(cap(l))*unsafe.Sizeof(l[:1][0])}
}

// memoryOfGraph is that of each list in a graph.
func memoryOfGraph(g api.Graph) []memory {
	list := []memory{memoryOf(g.Nodes)}
	for _, n := range g.Nodes {
		list = append(list, memoryOf(n.In), memoryOf(n.Shape))
	}
	return list
}

func memoryOfModel(m api.Model) []memory {
	list := append(memoryOfGraph(m.G), memoryOf(m.W))
	for _, x := range m.W {
		list = append(list, memoryOf(x.Shape), memoryOf(x.L))
	}
	return list
}

// expectApart asks that no two lists have memory in common.
func expectApart(t *testing.T, what any, list ...memory) {
	t.Helper()
	list = slices.DeleteFunc(list, func(m memory) bool { return m.from == m.to })
	slices.SortFunc(list, func(a, b memory) int { return int(int64(a.from) - int64(b.from)) })
	for i := 1; i < len(list); i++ {
		if list[i-1].to > list[i].from {
			t.Errorf("%s: two lists share memory", short(what))
		}
	}
}

// roomy is a list with as much again, and more, of itself behind it.
func roomy[T any](l []T, spare int) []T {
	whole := slices.Clone(l)
	for len(l) > 0 && len(whole) < len(l)+spare {
		whole = append(whole, l[len(whole)%len(l)])
	}
	return whole[:len(l)]
}

// roomyModel is a model with memory of its own, and with spare capacity behind each of its lists.
func roomyModel(m api.Model, spare int) api.Model {
	nodes, w := roomy(m.G.Nodes, spare), roomy(m.W, spare)
	for i, n := range nodes {
		nodes[i].In, nodes[i].Shape = roomy(n.In, spare), roomy(n.Shape, spare)
	}
	for i, x := range w {
		w[i] = api.Tensor{Shape: roomy(x.Shape, spare), L: roomy(x.L, spare)}
	}
	return api.Model{G: api.Graph{Nodes: nodes}, W: w}
}

// whole is all that can be reached from a model, spare capacity included, and where it is.
func whole(m api.Model) string {
	var s strings.Builder
	for _, n := range m.G.Nodes[:cap(m.G.Nodes)] {
		fmt.Fprintln(&s, n.Kind, n.In[:cap(n.In)], len(n.In), memoryOf(n.In), n.Shape[:cap(n.Shape)], len(n.Shape), memoryOf(n.Shape), n.N, n.Pad)
	}
	for _, x := range m.W[:cap(m.W)] {
		fmt.Fprintln(&s, x.Shape[:cap(x.Shape)], len(x.Shape), memoryOf(x.Shape), x.L[:cap(x.L)], len(x.L), memoryOf(x.L))
	}
	return s.String()
}

// spoil overwrites a list and its spare capacity.
func spoil[T byte | int | int32](l []T) {
	l = l[:cap(l)]
	for i := range l {
		l[i] = ^l[i]
	}
}

// spoilModel overwrites all that can be reached from a model.
func spoilModel(m api.Model) {
	for _, n := range m.G.Nodes {
		spoil(n.In)
		spoil(n.Shape)
	}
	for _, x := range m.W {
		spoil(x.Shape)
		spoil(x.L)
	}
	clear(m.G.Nodes[:cap(m.G.Nodes)])
	clear(m.W[:cap(m.W)])
}

// someModels are valid.
func someModels() []api.Model {
	var list []api.Model
	for _, g := range someGraphs() {
		list = append(list, modelOf(g))
	}
	return list
}

// TestNoCallChangesAnArgument: R4, spare capacity included, whether the call succeeds or not.
func TestNoCallChangesAnArgument(t *testing.T) {
	for _, spare := range []int{0, 1, 5} {
		for _, m := range append(someModels(), badModels()...) {
			m = roomyModel(m, spare)
			before := whole(m)
			models.Put(m)
			models.Text(m.G)
			if whole(m) != before {
				t.Errorf("%s, %d spare: it was changed", short(m), spare)
			}
		}
		for _, m := range someModels() {
			for _, cut := range []int{0, 1, 4} {
				b := plainBytes(m)
				b = roomy(b[:len(b)-cut], spare)
				before := slices.Clone(b[:cap(b)])
				models.Get(b)
				if !slices.Equal(b[:cap(b)], before) {
					t.Errorf("%s, %d spare, %d less: the bytes were changed", short(m), spare, cut)
				}
			}
		}
	}
}

// TestPutSharesNothing: R4, neither with the model nor with another result.
func TestPutSharesNothing(t *testing.T) {
	for _, m := range someModels() {
		m = roomyModel(m, 3)
		want := plainBytes(m)
		first, _ := models.Put(m)
		second, _ := models.Put(m)
		expectApart(t, m, append(memoryOfModel(m), memoryOf(first), memoryOf(second))...)
		spoil(first)
		expectPut(t, m, want)
		spoilModel(m)
		if !bytes.Equal(second, want) {
			t.Errorf("%s: the bytes follow the model, or other bytes", short(want))
		}
	}
}

// TestGetSharesNothing: R4, neither with the bytes, nor with another result, nor one list with another.
func TestGetSharesNothing(t *testing.T) {
	for _, m := range someModels() {
		b := roomy(plainBytes(m), 5)
		first, _ := models.Get(b)
		second, _ := models.Get(b)
		expectApart(t, m, slices.Concat(memoryOfModel(first), memoryOfModel(second), []memory{memoryOf(b)})...)
		spoilModel(first)
		expectGet(t, b, m)
		spoil(b)
		if !sameModel(second, m) {
			t.Errorf("%s: the model follows the bytes, or another model", short(m))
		}
	}
}

// TestParseSharesNothing: R4, neither one result with another, nor one list with another.
func TestParseSharesNothing(t *testing.T) {
	for _, g := range someGraphs() {
		s := plainText(g)
		first, _, _ := models.Parse(s)
		second, _, _ := models.Parse(s)
		expectApart(t, g, append(memoryOfGraph(first), memoryOfGraph(second)...)...)
		spoilModel(api.Model{G: first})
		if !sameGraph(second, g) {
			t.Errorf("%s: the graph follows another one", short(g))
		}
		expectParse(t, s, g)
	}
}

// TestTextStays: R4, what becomes of the graph changes no text.
func TestTextStays(t *testing.T) {
	for _, g := range someGraphs() {
		m := roomyModel(api.Model{G: g}, 2)
		s, _ := models.Text(m.G)
		spoilModel(m)
		if s != plainText(g) {
			t.Errorf("%s: the text is %q", short(g), s)
		}
	}
}

// TestSpareCapacityIsNotOfTheList: neither as a node, nor as an input, nor as a weight, nor as a byte.
func TestSpareCapacityIsNotOfTheList(t *testing.T) {
	for _, m := range someModels() {
		b, s := plainBytes(m), plainText(m.G)
		m := roomyModel(m, 40)
		expectPut(t, m, b)
		expectText(t, m.G, s)
		expectGet(t, roomy(b, 9), m)
		expectNoGet(t, b[:len(b)-1], api.ErrSum)
		expectNoGet(t, b[:3], api.ErrShort)
		expectNoPut(t, api.Model{G: api.Graph{Nodes: m.G.Nodes[:0]}, W: m.W})
		expectNoText(t, api.Graph{Nodes: m.G.Nodes[:1]})
		if len(m.W) > 0 {
			expectNoPut(t, api.Model{G: m.G, W: m.W[:len(m.W)-1]})
		}
	}
}

// TestEmptyAndNilAreTheSame: R4.
func TestEmptyAndNilAreTheSame(t *testing.T) {
	for _, none := range [][]int{nil, {}} {
		for _, w := range [][]api.Tensor{nil, {}} {
			m := api.Model{G: api.Graph{Nodes: []api.Node{{Kind: api.NkInput, In: none, Shape: []int{1}}, {Kind: api.NkRelu, In: []int{0}, Shape: none}}}, W: w}
			expectPut(t, m, plainBytes(m))
			expectText(t, m.G, "input 1\nrelu 0\n")
		}
	}
	expectNoPut(t, api.Model{G: api.Graph{Nodes: []api.Node{}}, W: []api.Tensor{}})
	expectNoText(t, api.Graph{Nodes: []api.Node{}})
	expectNoGet(t, []byte{}, api.ErrShort)
}

// TestListsThatShareMemory: inputs, shapes and weights that are pieces of one list, in an argument.
func TestListsThatShareMemory(t *testing.T) {
	l, numbers := []int{0, 1, 2, 2, 0}, numberRun(9)
	m := api.Model{
		G: api.Graph{Nodes: []api.Node{
			{Kind: api.NkInput, Shape: l[2:4]},
			{Kind: api.NkWeight, Shape: l[1:3]},
			{Kind: api.NkWeight, Shape: l[2:4]},
			{Kind: api.NkProduct, In: []int{1, 0}},
			{Kind: api.NkTurn, In: l[2:3], Shape: l[:2]},
			{Kind: api.NkAdd, In: l[3:5]},
		}},
		W: []api.Tensor{{Shape: l[1:3], L: numbers[:2]}, {Shape: l[2:4], L: numbers[1:5]}},
	}
	before := whole(m)
	b := plainBytes(m)
	expectPut(t, m, b)
	expectGet(t, b, m)
	expectText(t, m.G, "input 2 2\nweight 1 2\nweight 2 2\nproduct 1 0\nturn 2 to 0 1\nadd 2 0\n")
	if whole(m) != before {
		t.Errorf("changed to %s", short(m))
	}
}

// TestSameCallSameResult: R5, nothing is left over from other calls, failed ones included.
func TestSameCallSameResult(t *testing.T) {
	_, g, _ := all(append(begin(), eachKind()[0])...)
	m := modelOf(g)
	s, b := plainText(g), plainBytes(m)
	for _, other := range append(someModels(), badModels()...) {
		bytesOf, _ := models.Put(other)
		models.Get(bytesOf)
		models.Get(bytesOf[:len(bytesOf)/2])
		models.Get(summed(bytesOf))
		text, _ := models.Text(other.G)
		models.Parse(text)
		models.Parse(text + "x")
		models.Parse(text[:len(text)/2])
		expectPut(t, m, b)
		expectGet(t, b, m)
		expectText(t, g, s)
		expectParse(t, s, g)
		expectNoParse(t, s+"x", 6, api.ErrForm)
	}
}
