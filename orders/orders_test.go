package orders_test

import (
	"math"
	"slices"
	"strings"
	"testing"

	"drydock/api"
	"drydock/graphs"
	"drydock/orders"
)

// example is the chapter's G.
func example() api.Graph { return parse("input 2; relu 0; weight 2; add 0 0; add 3 1") }

func TestExamples(t *testing.T) {
	g, order := example(), []int{0, 1, 3, 4}
	expectOf(t, g, 0, 1, 3, 4)
	expectNext(t, g, order, -1, 1, 3, -1, 3, 4)
	expectNext(t, g, order, 2, -1, 3, -1, 3, 4)
	expectUses(t, g, order, 3, 1, 0, 1, 0)
	expectNoOrder(t, g, []int{0, 0})
	expectNoNext(t, g, []int{0, 1}, 2)
	expectNoOrder(t, g, []int{5})
}

// TestErrorNumber: as the chapter gives it.
func TestErrorNumber(t *testing.T) {
	_, of := orders.Of(api.Graph{})
	_, next := orders.Next(example(), nil, 0)
	_, uses := orders.Uses(example(), []int{-1})
	if of != 1 || next != 1 || uses != 1 {
		t.Errorf("%d, %d, %d", of, next, uses)
	}
}

// TestInvalidGraphs: ErrArg of all three, whatever the order, and wherever it is looked at.
func TestInvalidGraphs(t *testing.T) {
	for _, g := range badGraphs() {
		if graphs.Check(g) {
			t.Errorf("%v: the test is wrong", g)
		}
		if l, e := orders.Of(g); e != api.ErrArg || len(l) != 0 {
			t.Errorf("Of(%v) = %v, %d; want ErrArg and nothing else", short(g), l, e)
		}
		many := min(len(g.Nodes), 40)
		for _, order := range [][]int{nil, {}, {0}, {many - 1}, list(many), reversed(list(many)), {0, 0}, {many}, {-1}} {
			expectNoOrder(t, g, order)
		}
	}
}

// TestOneNode: no graph has only one; neither the node nor the lack of it makes an order.
func TestOneNode(t *testing.T) {
	for kind := range 256 {
		for _, in := range [][]int{nil, {0}, {0, 0}} {
			for _, s := range [][]int{nil, {1}} {
				g := graph(api.Node{Kind: api.Kind(kind), In: in, Shape: s})
				if l, e := orders.Of(g); e != api.ErrArg || len(l) != 0 {
					t.Errorf("Of(%v) = %v, %d; want ErrArg and nothing else", g, l, e)
				}
				expectNoOrder(t, g, nil)
				expectNoOrder(t, g, []int{0})
			}
		}
	}
}

// P12.1

// TestOfEachKind: at the end it needs what it takes; when it is taken it is needed itself; when it is not, it is left out with what it takes.
func TestOfEachKind(t *testing.T) {
	for _, r := range eachKind() {
		want := slices.Compact(slices.Sorted(slices.Values(append([]int{5}, r.in...))))
		expectOf(t, parse(begin+r.text), want...)
		expectOf(t, parse(begin+r.text+"; relu 5"), append(want, 6)...)
		expectOf(t, parse(begin+r.text+"; relu 0"), 0, 6)
	}
	expectOf(t, parse(wholeGraph), list(17)...)
}

// TestNodesThatAreNotNeeded: ahead of those that are, between them, and at their end.
func TestNodesThatAreNotNeeded(t *testing.T) {
	for _, c := range []struct {
		text string
		want []int
	}{
		{"input 1; relu 0", []int{0, 1}},
		{"weight 1; input 1; relu 1", []int{1, 2}},
		{"weight 1; weight 1; weight 1; input 1; relu 3", []int{3, 4}},
		{"input 1; weight 1; relu 0", []int{0, 2}},
		{"input 1; relu 0; relu 0", []int{0, 2}},
		{"input 1; relu 0; relu 1; relu 0; relu 3", []int{0, 3, 4}},
		{"input 1; relu 0; relu 1; relu 0; relu 1", []int{0, 1, 4}},
		{"input 1; relu 0; relu 1; relu 2; relu 1", []int{0, 1, 4}},
		{"weight 1; input 1; weight 1; add 1 0; weight 1; relu 3; weight 1; add 5 4; relu 3; relu 7", []int{0, 1, 3, 4, 5, 7, 9}},
		// The input itself may be one of them.
		{"input 1; weight 1; relu 1", []int{1, 2}},
		{"weight 1; input 1; relu 0", []int{0, 2}},
		{"weight 1; relu 0; input 1; relu 1", []int{0, 1, 3}},
		{"weight 1; input 1; relu 1; weight 1; add 2 2; add 3 0", []int{0, 3, 5}},
		// What takes a needed node is not needed for that.
		{"input 1; relu 0; add 0 1; mul 2 1; relu 1", []int{0, 1, 4}},
	} {
		expectOf(t, parse(c.text), c.want...)
	}
}

// TestNodesThatAreNeededTwice are there once, whatever leads to them.
func TestNodesThatAreNeededTwice(t *testing.T) {
	expectOf(t, parse("input 1; add 0 0"), 0, 1)
	expectOf(t, parse("input 1; join 0 0 0 0 along 0"), 0, 1)
	expectOf(t, parse("input 1; relu 0; relu 0; add 1 2; add 3 0; add 4 4"), 0, 1, 2, 3, 4, 5)
	expectOf(t, parse("input 1; relu 0; relu 0; add 2 1"), 0, 1, 2, 3)
}

// TestOfMostNodes: of MaxNodes, and one more. As many ways lead to the first one as can be: 2 to the 30th.
func TestOfMostNodes(t *testing.T) {
	for i, want := range [][]int{{0, 31}, list(32), list(32), list(32), {0, 1, 2, 3, 4, 7, 10, 15, 31}, {29, 30, 31}, {0, 31}} {
		expectOf(t, mostNodes()[i], want...)
	}
	for _, g := range mostNodes() {
		g.Nodes = append(g.Nodes, node(api.NkRelu, 0))
		if l, e := orders.Of(g); e != api.ErrArg || len(l) != 0 {
			t.Errorf("Of(%v) = %v, %d; want ErrArg and nothing else", g, l, e)
		}
	}
}

func TestOfSomeGraphs(t *testing.T) {
	for _, g := range slices.Concat(someGraphs(), smallGraphs()) {
		expectPlainOf(t, g)
	}
}

// P12.2

// TestNextOfEachKind: its inputs are used where it stands, and nowhere behind that.
func TestNextOfEachKind(t *testing.T) {
	for _, r := range eachKind() {
		g := parse(begin + r.text)
		for _, c := range []struct {
			order []int
			place int
		}{{list(6), 5}, {[]int{5}, 0}, {[]int{5, 4, 3, 2, 1, 0}, 0}, {[]int{2, 0, 5, 4}, 2}} {
			for at := range c.order {
				want := []int{-1, -1, -1, -1, -1, len(c.order)}
				for _, in := range r.in {
					if at <= c.place {
						want[in] = c.place
					}
				}
				expectNext(t, g, c.order, at-1, want...)
			}
			expectNext(t, g, c.order, len(c.order)-1, -1, -1, -1, -1, -1, len(c.order))
		}
	}
}

// TestNextAtEachPlace of one order, with nodes that are used again and again.
func TestNextAtEachPlace(t *testing.T) {
	g := parse("input 1; weight 1; add 0 1; mul 0 2; relu 1; add 2 2; add 5 0")
	for at, want := range [][]int{
		{2, 2, 3, -1, -1, 6, 7},
		{2, 2, 3, -1, -1, 6, 7},
		{2, 2, 3, -1, -1, 6, 7},
		{3, 4, 3, -1, -1, 6, 7},
		{6, 4, 5, -1, -1, 6, 7},
		{6, -1, 5, -1, -1, 6, 7},
		{6, -1, -1, -1, -1, 6, 7},
		{-1, -1, -1, -1, -1, -1, 7},
	} {
		expectNext(t, g, list(7), at-1, want...)
	}
	for at, want := range [][]int{
		{0, 2, 1, -1, -1, 0, 7},
		{3, 2, 1, -1, -1, -1, 7},
		{3, 2, 3, -1, -1, -1, 7},
		{3, 4, 3, -1, -1, -1, 7},
		{4, 4, -1, -1, -1, -1, 7},
		{-1, -1, -1, -1, -1, -1, 7},
		{-1, -1, -1, -1, -1, -1, 7},
		{-1, -1, -1, -1, -1, -1, 7},
	} {
		expectNext(t, g, []int{6, 5, 4, 3, 2, 1, 0}, at-1, want...)
	}
	for at, want := range [][]int{{1, 1, 0, -1, -1, -1, 3}, {1, 1, -1, -1, -1, -1, 3}, {-1, 2, -1, -1, -1, -1, 3}, {-1, -1, -1, -1, -1, -1, 3}} {
		expectNext(t, g, []int{5, 2, 4}, at-1, want...)
	}
}

// TestPlacesOutsideOfTheOrder: from -1 to the last index is in it, all else is not.
func TestPlacesOutsideOfTheOrder(t *testing.T) {
	g := example()
	for _, order := range [][]int{{0}, {4}, {2}, {4, 0}, {0, 1, 3, 4}, {4, 3, 2, 1, 0}, list(5)} {
		for _, at := range []int{math.MinInt, math.MinInt + 1, math.MinInt32, -1 << 32, -6, -5, -4, -3, -2, len(order), len(order) + 1, 100, math.MaxInt32, 1 << 32, math.MaxInt - 1, math.MaxInt} {
			expectNoNext(t, g, order, at)
		}
		last := len(order) - 1
		for _, at := range []int{-1, 0, last} {
			if l, e := orders.Next(g, order, at); e != api.OK || len(l) != 5 {
				t.Errorf("Next(%v, %d) = %v, %d", order, at, l, e)
			}
		}
		expectNext(t, g, order, last, -1, -1, -1, -1, len(order))
	}
}

// TestEmptyOrder: its last index is -1, be it nil or empty.
func TestEmptyOrder(t *testing.T) {
	g := example()
	for _, none := range [][]int{nil, {}, list(5)[:0], make([]int, 0, 9)} {
		expectNext(t, g, none, -1, -1, -1, -1, -1, 0)
		expectUses(t, g, none, 0, 0, 0, 0, 0)
		for _, at := range []int{math.MinInt, -3, -2, 0, 1, 2, 4, 5, math.MaxInt} {
			expectNoNext(t, g, none, at)
		}
	}
	for _, g := range someGraphs() {
		want := slices.Repeat([]int{-1}, len(g.Nodes))
		want[len(want)-1] = 0
		expectNext(t, g, nil, -1, want...)
		expectUses(t, g, nil, make([]int, len(g.Nodes))...)
	}
}

// TestTheLastNode at each place of an order, and in none: what is told of it is the order's length.
func TestTheLastNode(t *testing.T) {
	for _, g := range someGraphs() {
		last := len(g.Nodes) - 1
		for place := range g.Nodes {
			order := slices.Insert(list(last), place, last)
			expectPlain(t, g, order)
			expectPlain(t, g, order[:place+1])
			expectPlain(t, g, order[place:])
			for at := -1; at <= last; at++ {
				if l, e := orders.Next(g, order, at); e != api.OK || l[last] != last+1 {
					t.Errorf("Next(%v, %v, %d) = %v, %d", g, order, at, l, e)
				}
			}
			if l, e := orders.Next(g, list(last)[:place], -1); e != api.OK || l[last] != place {
				t.Errorf("Next(%v, %v, -1) = %v, %d", g, list(last)[:place], l, e)
			}
		}
	}
}

// P12.3

func TestUsesOfEachKind(t *testing.T) {
	for _, r := range eachKind() {
		g := parse(begin + r.text)
		want := make([]int, 6)
		for _, in := range r.in {
			want[in]++
		}
		for _, order := range [][]int{list(6), reversed(list(6)), {5}, {5, 0}, {3, 5, 2}} {
			expectUses(t, g, order, want...)
		}
		for _, order := range [][]int{nil, {0}, list(5), {4, 2}} {
			expectUses(t, g, order, 0, 0, 0, 0, 0, 0)
		}
	}
	expectUses(t, parse(begin+"join 0 0 0 0 along 0"), []int{5}, 4, 0, 0, 0, 0, 0)
	expectUses(t, parse(begin+"join 1 0 1 1 along 0"), []int{5}, 1, 3, 0, 0, 0, 0)
	expectUses(t, parse(begin+"add 1 1; mul 5 1"), []int{6, 5}, 0, 3, 0, 0, 0, 1, 0)
	expectUses(t, parse(begin+"add 1 1; mul 5 1"), []int{6, 1}, 0, 1, 0, 0, 0, 1, 0)
}

// TestUsesOfMostNodes: as often as one node can be taken.
func TestUsesOfMostNodes(t *testing.T) {
	g := chain(func(int) api.Node { return api.Node{Kind: api.NkJoin, In: []int{0, 0, 0, 0}} })
	expectUses(t, g, list(32), append([]int{121}, make([]int, 31)...)...)
	expectUses(t, g, reversed(list(32)), append([]int{121}, make([]int, 31)...)...)
	expectUses(t, g, []int{31, 30}, append([]int{8}, make([]int, 31)...)...)
	expectUses(t, mostNodes()[2], list(32), append([]int{1}, append(slices.Repeat([]int{2}, 30), 0)...)...)
}

// P12.2 and P12.3

// TestAllOrders of some small graphs: in whatever order, with nodes or inputs that are lacking.
func TestAllOrders(t *testing.T) {
	for _, text := range []string{
		"input 1; relu 0", "weight 1; input 1; add 1 0", "input 1; relu 0; weight 1; mul 2 1", "input 2; relu 0; weight 2; add 0 0; add 3 1",
		"weight 2; input 3; join 0 1 1 0 along 0; join 1 2 along 0; relu 2", "input 1; add 0 0; add 1 1; add 2 2; add 3 3", "weight 1; relu 0; input 1; add 1 0; mul 3 1; add 4 0",
	} {
		g := parse(text)
		for _, order := range allOrders(len(g.Nodes)) {
			if !plainIsOrder(g, order) {
				t.Errorf("%v: the test is wrong", order)
			}
			expectPlain(t, g, order)
		}
	}
}

// TestAllLists of few numbers, orders or not: one twice, one too small, one too great, at any place.
func TestAllLists(t *testing.T) {
	for _, text := range []string{"input 1; relu 0", "weight 1; input 1; add 1 0", "input 1; relu 0; weight 1; mul 2 1"} {
		g := parse(text)
		for _, order := range allLists(4, -2, len(g.Nodes)+1) {
			expectPlain(t, g, order)
		}
	}
}

func TestSmallGraphs(t *testing.T) {
	for _, g := range smallGraphs() {
		order, _ := orders.Of(g)
		many := len(g.Nodes)
		for _, l := range [][]int{order, reversed(list(many)), list(many)[1:], {many - 1}} {
			expectPlain(t, g, l)
		}
	}
}

// TestOneNumberOff: an order of any length, with one number in it that is not right.
func TestOneNumberOff(t *testing.T) {
	for _, g := range someGraphs() {
		many := len(g.Nodes)
		for _, order := range [][]int{list(many), reversed(list(many)), list(many)[many/2-1:], {many - 1, 0}} {
			for place := range order {
				for _, off := range []int{math.MinInt, math.MinInt32, -many, -2, -1, many, many + 1, 32, 33, math.MaxInt32, 1 << 32, 1<<32 + order[place], math.MaxInt, order[(place+1)%len(order)]} {
					l := slices.Clone(order)
					l[place] = off
					expectNoOrder(t, g, l)
				}
			}
			for place := range len(order) + 1 {
				for _, twice := range order {
					expectNoOrder(t, g, slices.Insert(slices.Clone(order), place, twice))
				}
			}
		}
	}
}

// TestListsThatAreTooLong: longer than there are nodes, whatever is in them.
func TestListsThatAreTooLong(t *testing.T) {
	for _, g := range []api.Graph{example(), mostNodes()[0], mostNodes()[2]} {
		many := len(g.Nodes)
		for _, longer := range []int{many + 1, 2 * many, 256, 257, 1 << 16, 1 << 20} {
			expectNoOrder(t, g, make([]int, longer))
			expectNoOrder(t, g, list(longer))
			expectNoOrder(t, g, slices.Repeat(list(many), longer/many+1)[:longer])
		}
	}
}

// TestAnyGraphs of any kinds, with any order, and with one that is none.
func TestAnyGraphs(t *testing.T) {
	kinds := map[api.Kind]int{}
	for seed := range uint32(600) {
		r := generator{seed}
		g := r.graph(4 + r.number(29))
		expectPlainOf(t, g)
		for _, n := range g.Nodes {
			kinds[n.Kind]++
		}
		for range 4 {
			order := r.order(len(g.Nodes))
			expectPlain(t, g, order)
			expectPlain(t, g, append(order, r.number(len(g.Nodes)+1)))
		}
	}
	for k := api.NkInput; k <= api.NkSum; k++ {
		if kinds[k] < 50 {
			t.Errorf("kind %d: %d nodes", k, kinds[k])
		}
	}
}

// P12.4

// TestOfIsAnOrder in which each node comes after its inputs, and each but the last is taken by another.
func TestOfIsAnOrder(t *testing.T) {
	for _, g := range slices.Concat(someGraphs(), smallGraphs()) {
		order, _ := orders.Of(g)
		taken := map[int]int{}
		for place, i := range order {
			for _, in := range g.Nodes[i].In {
				if !slices.Contains(order[:place], in) {
					t.Errorf("Of(%v) = %v: %d is not before %d", g, order, in, i)
				}
				taken[in]++
			}
		}
		last := len(g.Nodes) - 1
		for _, i := range order {
			if (taken[i] == 0) != (i == last) {
				t.Errorf("Of(%v) = %v: %d is taken %d times", g, order, i, taken[i])
			}
		}
		if uses, e := orders.Uses(g, order); e != api.OK || len(order) == 0 || order[len(order)-1] != last || uses[last] != 0 {
			t.Errorf("Of(%v) = %v, with the uses %v, %d", g, order, uses, e)
		}
	}
}

// TestNextFromPlaceToPlace: at an index and at the one behind it the results differ in the inputs of the node there, in all of them and in nothing else.
func TestNextFromPlaceToPlace(t *testing.T) {
	for _, g := range someGraphs() {
		order, _ := orders.Of(g)
		many := len(g.Nodes)
		for _, order := range [][]int{order, reversed(order), list(many), reversed(list(many)), list(many)[many/2:]} {
			for at := -1; at+1 < len(order); at++ {
				before, _ := orders.Next(g, order, at)
				after, _ := orders.Next(g, order, at+1)
				there := g.Nodes[order[at+1]].In
				for v := range g.Nodes {
					isIn := slices.Contains(there, v)
					if (before[v] != after[v]) != isIn || isIn && (before[v] != at+1 || after[v] >= 0 && after[v] <= at+1) {
						t.Errorf("%v, %v: Next is %v at %d and %v behind it", g, order, before, at, after)
					}
				}
			}
		}
	}
}

func TestSumOfUses(t *testing.T) {
	for _, g := range someGraphs() {
		many := len(g.Nodes)
		r := generator{uint32(many)}
		for _, order := range [][]int{nil, list(many), reversed(list(many)), {many - 1}, {0}, r.order(many), r.order(many), r.order(many)} {
			all := 0
			for _, i := range order {
				all += len(g.Nodes[i].In)
			}
			uses, e := orders.Uses(g, order)
			for _, n := range uses {
				all -= n
			}
			if e != api.OK || all != 0 {
				t.Errorf("Uses(%v, %v) = %v, %d", g, order, uses, e)
			}
		}
	}
}

// R1

// FuzzAll: R1 and P12.1 to P12.3 for any graph and any list: no call panics, and an error comes alone.
func FuzzAll(f *testing.F) {
	f.Add(uint32(0), uint8(5), []byte{0, 1, 2, 3, 4}, -1, 0, 0, 0)
	f.Add(uint32(1), uint8(32), []byte{31, 30, 7}, 2, 3, 1, math.MaxInt)
	f.Add(uint32(2), uint8(9), []byte{8, 255, 8}, 0, 8, 0, -1)
	f.Add(uint32(3), uint8(33), []byte(strings.Repeat("\x01", 40)), math.MaxInt, 0, 0, math.MinInt)
	f.Fuzz(func(t *testing.T, seed uint32, many uint8, b []byte, at, v, in, taken int) {
		r := generator{seed}
		g := r.graph(4 + int(many)%29)
		var order []int
		for _, x := range b {
			order = append(order, int(int8(x)))
		}
		check := func(g api.Graph) {
			expectPlainOf(t, g)
			expectPlain(t, g, order)
			expectPlainNext(t, g, order, at)
			expectPlain(t, g, r.order(len(g.Nodes)))
			expectPlain(t, g, append(order, at, taken))
		}
		check(g)
		if v >= 0 && v < len(g.Nodes) && in >= 0 && in < len(g.Nodes[v].In) {
			g.Nodes[v].In[in] = taken
			check(g)
		}
		g.Nodes = append(g.Nodes, node(api.Kind(many), v, in))
		check(g)
	})
}
