package orders_test

import (
	"fmt"
	"slices"
	"strings"
	"testing"

	"drydock/api"
	"drydock/orders"
)

// spoil overwrites a list and its spare capacity.
func spoil(l []int) {
	l = l[:cap(l)]
	for i := range l {
		l[i] = ^l[i]
	}
}

// roomy is a list with memory of its own, and with spare capacity that holds 0, 1, 0, 1 ..
func roomy(l []int, spare int) []int {
	whole := make([]int, len(l)+spare)
	for i := range spare {
		whole[len(l)+i] = i % 2
	}
	copy(whole, l)
	return whole[:len(l)]
}

// roomyGraph likewise, behind the nodes and behind each of their lists.
func roomyGraph(g api.Graph, spare int) api.Graph {
	nodes := make([]api.Node, 0, len(g.Nodes)+spare)
	for _, n := range g.Nodes {
		n.In, n.Shape = roomy(n.In, spare), roomy(n.Shape, spare)
		nodes = append(nodes, n)
	}
	for i := range spare {
		nodes[:cap(nodes)][len(g.Nodes)+i] = node(api.NkAdd, 0, i)
	}
	return api.Graph{Nodes: nodes}
}

// spoilGraph overwrites all that can be reached from a graph.
func spoilGraph(g api.Graph) {
	for _, n := range g.Nodes {
		spoil(n.In)
		spoil(n.Shape)
	}
	clear(g.Nodes[:cap(g.Nodes)])
}

// whole is all that can be reached from the arguments, spare capacity included, and where it is.
func whole(g api.Graph, order []int) string {
	var s strings.Builder
	tell := func(l []int) {
		fmt.Fprintf(&s, "%p %v %d ", l[:cap(l)], l[:cap(l)], len(l))
	}
	tell(order)
	for _, n := range g.Nodes[:cap(g.Nodes)] {
		fmt.Fprint(&s, n.Kind, n.N, n.Pad)
		tell(n.In)
		tell(n.Shape)
	}
	return s.String()
}

// someOrders are some of a graph with as many nodes, and some that are none.
func someOrders(many int) [][]int {
	return [][]int{nil, {}, {0}, {many - 1}, list(many), reversed(list(many)), list(many)[many/2:], {many - 1, 0, 1}, {0, 0}, {-1}, {many}, list(many + 1)}
}

// TestNoCallChangesAnArgument: R4, spare capacity included, whether the call succeeds or not.
func TestNoCallChangesAnArgument(t *testing.T) {
	bad := badGraphs()
	for _, spare := range []int{0, 1, 5, 40} {
		for _, g := range slices.Concat(someGraphs(), bad[:len(bad)/2]) {
			for _, order := range someOrders(min(len(g.Nodes), 40)) {
				g, order := roomyGraph(short(g), spare), roomy(order, spare)
				before := whole(g, order)
				orders.Of(g)
				orders.Uses(g, order)
				for at := -2; at <= min(len(order), 3); at++ {
					orders.Next(g, order, at)
				}
				orders.Next(g, order, len(order)-1)
				if whole(g, order) != before {
					t.Errorf("%v, %v, %d spare: changed", g, order, spare)
				}
			}
		}
	}
}

// expectNew asks that what call returns is new memory each time, whatever becomes of it and of the arguments.
func expectNew(t *testing.T, g api.Graph, order []int, want []int, call func(g api.Graph, order []int) ([]int, api.Errno)) {
	t.Helper()
	for _, spare := range []int{0, 1, 8, 40} {
		g, order := roomyGraph(g, spare), roomy(order, spare)
		before := whole(g, order)
		first, _ := call(g, order)
		second, _ := call(g, order)
		spoil(first)
		if whole(g, order) != before {
			t.Errorf("%v, %v, %d spare: the result is an argument's memory", g, order, spare)
		}
		if third, e := call(g, order); e != api.OK || !slices.Equal(third, want) || !slices.Equal(second, want) {
			t.Errorf("%v, %v, %d spare: two results share memory: %v, %v, %d; want %v", g, order, spare, second, third, e, want)
		}
		spoilGraph(g)
		spoil(order)
		if !slices.Equal(second, want) {
			t.Errorf("%d spare: the result follows the arguments: %v, want %v", spare, second, want)
		}
	}
}

// TestResultsShareNothing: R4, neither with arguments, nor with other results, spare capacity included.
func TestResultsShareNothing(t *testing.T) {
	for _, g := range someGraphs() {
		want, _ := plainOf(g)
		expectNew(t, g, nil, want, func(g api.Graph, _ []int) ([]int, api.Errno) { return orders.Of(g) })
		for _, order := range someOrders(len(g.Nodes)) {
			if !plainIsOrder(g, order) {
				continue
			}
			want, _ = plainUses(g, order)
			expectNew(t, g, order, want, orders.Uses)
			for _, at := range []int{-1, len(order)/2 - 1, len(order) - 1} {
				want, _ = plainNext(g, order, at)
				expectNew(t, g, order, want, func(g api.Graph, order []int) ([]int, api.Errno) { return orders.Next(g, order, at) })
			}
		}
	}
}

// TestResultsAsOrders: a result of Of is an order that is not used up, and is given in turn without being changed.
func TestResultsAsOrders(t *testing.T) {
	for _, g := range someGraphs() {
		want, _ := plainOf(g)
		order, _ := orders.Of(g)
		next, _ := orders.Next(g, order, -1)
		uses, _ := orders.Uses(g, order)
		nextWant, _ := plainNext(g, want, -1)
		usesWant, _ := plainUses(g, want)
		spoil(order)
		if !slices.Equal(next, nextWant) || !slices.Equal(uses, usesWant) {
			t.Errorf("%v: a result follows the order", g)
		}
		spoil(next)
		if !slices.Equal(uses, usesWant) {
			t.Errorf("%v: the results of Next and Uses share memory", g)
		}
		expectOf(t, g, want...)
	}
}

// TestListsThatShareMemory: inputs, shapes and an order that are pieces of one list.
func TestListsThatShareMemory(t *testing.T) {
	l := []int{0, 1, 2, 2, 0, 3}
	g := graph(
		api.Node{Kind: api.NkInput, Shape: l[2:4]},
		api.Node{Kind: api.NkTurn, In: l[:1], Shape: l[:2]},
		api.Node{Kind: api.NkAdd, In: l[:2]},
		api.Node{Kind: api.NkMul, In: l[3:5]},
	)
	before := whole(g, l)
	expectOf(t, g, 0, 1, 2, 3)
	expectNext(t, g, l[:3], -1, 1, 2, -1, 3)
	expectNext(t, g, l[3:], -1, 0, 0, 2, 3)
	expectNext(t, g, l[3:], 0, 2, -1, 2, 3)
	expectNext(t, g, g.Nodes[3].In, -1, 0, 0, -1, 2)
	expectUses(t, g, g.Nodes[2].In, 1, 0, 0, 0)
	expectUses(t, g, l[3:], 2, 1, 1, 0)
	expectNoOrder(t, g, l)
	expectNoOrder(t, g, l[2:4])
	if whole(g, l) != before {
		t.Errorf("changed to %v, %v", g, l)
	}
}

// TestSpareCapacityIsNotOfTheList: neither as a node, nor as an input, nor as an index of an order.
func TestSpareCapacityIsNotOfTheList(t *testing.T) {
	for _, g := range someGraphs() {
		want, _ := plainOf(g)
		expectOf(t, roomyGraph(g, 5), want...)
		for _, order := range someOrders(len(g.Nodes)) {
			expectPlain(t, roomyGraph(g, 5), roomy(order, 5))
		}
	}
	nodes := example().Nodes
	expectOf(t, api.Graph{Nodes: nodes[:2]}, 0, 1)
	expectNext(t, api.Graph{Nodes: nodes[:2]}, list(5)[:2], -1, 1, 2)
	expectNext(t, api.Graph{Nodes: nodes[:2]}, list(5)[:1], -1, -1, 1)
	expectUses(t, api.Graph{Nodes: nodes[:2]}, list(5)[:2], 1, 0)
	expectNoOrder(t, api.Graph{Nodes: nodes[:2]}, list(5)[:3])
	expectNoOrder(t, api.Graph{Nodes: nodes[:1]}, list(5)[:1])
	expectNoOrder(t, api.Graph{Nodes: nodes[:0]}, list(5)[:0])
}

// TestSameCallSameResult: R5, nothing is left over from other calls, failed ones included.
func TestSameCallSameResult(t *testing.T) {
	g := example()
	for _, other := range slices.Concat(someGraphs(), badGraphs()) {
		for _, order := range someOrders(min(len(other.Nodes), 40)) {
			orders.Of(other)
			orders.Next(other, order, len(order)-1)
			orders.Next(other, order, -1)
			orders.Uses(other, order)
			expectOf(t, g, 0, 1, 3, 4)
			expectNext(t, g, []int{0, 1, 3, 4}, -1, 1, 3, -1, 3, 4)
			expectUses(t, g, []int{0, 1, 3, 4}, 3, 1, 0, 1, 0)
			expectNoNext(t, g, []int{0, 1}, 2)
		}
	}
}
