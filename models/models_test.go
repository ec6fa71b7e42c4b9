package models_test

import (
	"bytes"
	"math"
	"slices"
	"strings"
	"testing"

	"drydock/api"
	"drydock/models"
)

func TestExamples(t *testing.T) {
	g := api.Graph{Nodes: []api.Node{{Kind: api.NkInput, Shape: []int{2, 3}}, {Kind: api.NkWeight, Shape: []int{3, 2}}, {Kind: api.NkProduct, In: []int{0, 1}}, {Kind: api.NkRelu, In: []int{2}}}}
	expectText(t, g, "input 2 3\nweight 3 2\nproduct 0 1\nrelu 2\n")
	expectParse(t, "input 4\nrelu 0", api.Graph{Nodes: []api.Node{{Kind: api.NkInput, Shape: []int{4}}, {Kind: api.NkRelu, In: []int{0}}}})
	expectNoParse(t, "input 4\nrelu", 1, api.ErrForm)
	expectNoParse(t, "input 4\nrelu 1", 0, api.ErrArg)
	expectNoParse(t, "input 04", 0, api.ErrForm)
	expectNoGet(t, []byte{1, 2, 3}, api.ErrShort)
	expectNoGet(t, []byte{0, 0, 0, 0}, api.ErrForm)
	expectNoGet(t, summed([]byte{7}), api.ErrForm)
}

// TestErrorNumbers: as the chapter gives them.
func TestErrorNumbers(t *testing.T) {
	_, put := models.Put(api.Model{})
	_, text := models.Text(api.Graph{})
	_, _, parse := models.Parse("")
	_, _, long := models.Parse(strings.Repeat("x", 65537))
	_, _, row := models.Parse("x")
	_, cut := models.Get(nil)
	_, sum := models.Get([]byte{0, 0, 0, 1})
	_, form := models.Get([]byte{0, 0, 0, 0})
	if got, want := []api.Errno{put, text, parse, long, row, form, cut, sum}, []api.Errno{1, 1, 1, 3, 4, 4, 5, 11}; !slices.Equal(got, want) {
		t.Errorf("%v, want %v", got, want)
	}
}

// P11.1: Put

// TestBytesOfEachKind: byte by byte, with each weight's numbers behind all nodes, and the sum behind those.
func TestBytesOfEachKind(t *testing.T) {
	lists := [][]sample{slices.Concat(begin(), eachKind())}
	for _, s := range eachKind() {
		lists = append(lists, append(begin(), s))
	}
	for _, l := range lists {
		_, g, b := all(l...)
		m := modelOf(g)
		for _, x := range m.W {
			for _, n := range x.L {
				b = append(b, byte(n), byte(n>>8), byte(n>>16), byte(n>>24))
			}
		}
		expectPut(t, m, summed(b))
		expectGet(t, summed(b), m)
	}
}

// TestBytesAndTheirSum: a whole model's, the lowest byte of each number and of the sum first.
func TestBytesAndTheirSum(t *testing.T) {
	g, _, _ := plainParse("weight 2\ninput 2\nadd 0 1\n")
	m := api.Model{G: g, W: []api.Tensor{{Shape: []int{2}, L: []int32{0x01020304, -2}}}}
	b := []byte{3, 2, 0, 1, 2, 0, 0, 1, 0, 1, 2, 0, 0, 3, 2, 0, 1, 0, 0, 0, 4, 3, 2, 1, 254, 255, 255, 255, 233, 75, 81, 166}
	expectPut(t, m, b)
	expectGet(t, b, m)
}

func TestInvalidModels(t *testing.T) {
	for _, m := range badModels() {
		if plainCheck(m) {
			t.Errorf("%s: the test is wrong", short(m))
		}
		expectNoPut(t, m)
	}
}

// TestWeightsOfEachNumber: only as many as there are nodes of that kind will do, in their order.
func TestWeightsOfEachNumber(t *testing.T) {
	for _, g := range someGraphs() {
		m := modelOf(g)
		expectPut(t, m, plainBytes(m))
		for many := range len(m.W) {
			expectNoPut(t, api.Model{G: g, W: m.W[:many]})
		}
		expectNoPut(t, api.Model{G: g, W: append(m.W, api.Tensor{Shape: []int{1}, L: []int32{0}})})
		for i := range m.W {
			other := modelOf(g)
			other.W[i].Shape = append(other.W[i].Shape, 1)
			expectNoPut(t, other)
			other.W[i] = api.Tensor{Shape: m.W[i].Shape, L: m.W[i].L[1:]}
			expectNoPut(t, other)
			other.W[i].L = append(slices.Clone(m.W[i].L), 0)
			expectNoPut(t, other)
			other.W[i].L = slices.Repeat([]int32{math.MinInt32}, len(m.W[i].L))
			expectPut(t, other, plainBytes(other))
			other.W = slices.Delete(slices.Clone(m.W), i, i+1)
			expectNoPut(t, other)
		}
	}
}

// TestNumbersAtTheEdges: the least and the greatest ones, and those at which a byte or a sign changes.
func TestNumbersAtTheEdges(t *testing.T) {
	edges := []int32{0, -1, 1, math.MinInt32, math.MaxInt32, math.MinInt32 + 1, 127, 128, -128, -129, 255, 256, -256, -257, 65535, 65536, 0x01020304, -0x01020304}
	g, _, _ := plainParse("weight 18\nweight 3 6\ninput 18\nadd 0 2\n")
	m := api.Model{G: g, W: []api.Tensor{{Shape: []int{18}, L: edges}, {Shape: []int{3, 6}, L: slices.Repeat([]int32{math.MaxInt32}, 18)}}}
	expectPut(t, m, plainBytes(m))
	expectGet(t, plainBytes(m), m)
	m.W[0].L, m.W[1].L = slices.Repeat([]int32{math.MinInt32}, 18), edges
	expectPut(t, m, plainBytes(m))
	expectGet(t, plainBytes(m), m)
}

func TestNoWeight(t *testing.T) {
	g, _, _ := plainParse("input 1\nrelu 0\n")
	b := summed([]byte{2, 1, 0, 1, 1, 0, 0, 5, 1, 0, 0, 0, 0})
	expectPut(t, api.Model{G: g}, b)
	expectPut(t, api.Model{G: g, W: []api.Tensor{}}, b)
	expectGet(t, b, api.Model{G: g})
}

// TestMostNodes: MaxNodes and one more; and the greatest model.
func TestMostNodes(t *testing.T) {
	for _, text := range []string{"input 3\n" + strings.Repeat("relu 0\n", 31), strings.Repeat("weight 64 64\n", 30) + "input 64 64\nproduct 29 30\n"} {
		g, _, _ := plainParse(text)
		m := modelOf(g)
		b := plainBytes(m)
		expectPut(t, m, b)
		expectGet(t, b, m)
		m.G.Nodes = append(m.G.Nodes, api.Node{Kind: api.NkRelu, In: []int{0}})
		expectNoPut(t, m)
		expectNoGet(t, plainBytes(m), api.ErrForm)
	}
}

// P11.1: Get

func TestGetOfTooFewBytes(t *testing.T) {
	expectNoGet(t, nil, api.ErrShort)
	for many := range 4 {
		for _, x := range []byte{0, 1, 7, 255} {
			expectNoGet(t, slices.Repeat([]byte{x}, many), api.ErrShort)
		}
	}
	expectNoGet(t, []byte{0, 0, 0, 0}, api.ErrForm)
	for i := range 4 {
		b := make([]byte, 4)
		for x := 1; x < 256; x++ {
			b[i] = byte(x)
			expectNoGet(t, b, api.ErrSum)
		}
	}
	expectNoGet(t, []byte{255, 255, 255, 255}, api.ErrSum)
	expectNoGet(t, []byte{0, 0, 0, 0, 0}, api.ErrSum)
}

// TestGetOfBytesThatAreCut at every place, or go on: the sum tells.
func TestGetOfBytesThatAreCut(t *testing.T) {
	for _, g := range someGraphs()[:30] {
		b := plainBytes(modelOf(g))
		for size := range min(len(b), 2000) {
			want := api.ErrSum
			if size < 4 {
				want = api.ErrShort
			}
			expectNoGet(t, b[:size], want)
		}
		expectNoGet(t, b[:len(b)-1], api.ErrSum)
		expectNoGet(t, b[1:], api.ErrSum)
		for x := range 256 {
			expectNoGet(t, append(slices.Clone(b), byte(x)), api.ErrSum)
		}
	}
}

// TestGetOfBytesThatTurned: each byte, to each other one.
func TestGetOfBytesThatTurned(t *testing.T) {
	_, g, _ := all(slices.Concat(begin()[:1], begin()[4:], []sample{{"relu 0", api.Node{Kind: api.NkRelu, In: []int{0}}, nil}})...)
	b := plainBytes(modelOf(g))
	for i := range b {
		other := slices.Clone(b)
		for x := 1; x < 256; x++ {
			other[i] = b[i] ^ byte(x)
			expectNoGet(t, other, api.ErrSum)
		}
	}
	for _, g := range someGraphs() {
		b := plainBytes(modelOf(g))
		for i := range min(len(b), 500) {
			other := slices.Clone(b)
			other[i] ^= 0x10
			expectNoGet(t, other, api.ErrSum)
		}
		for i := range 4 {
			other := slices.Clone(b)
			other[len(b)-1-i] ^= 1
			expectNoGet(t, other, api.ErrSum)
		}
	}
}

// TestGetOfNoModel: the sum is right, but Put returns these bytes for no model.
func TestGetOfNoModel(t *testing.T) {
	input, relu := []byte{1, 0, 1, 1, 0, 0}, []byte{5, 1, 0, 0, 0, 0}
	weight := []byte{2, 0, 1, 2, 0, 0}
	two := func(l ...[]byte) []byte { return slices.Concat([]byte{2}, slices.Concat(l...)) }
	expectGet(t, summed(two(input, relu)), api.Model{G: api.Graph{Nodes: []api.Node{{Kind: 1, Shape: []int{1}}, {Kind: 5, In: []int{0}}}}})
	for _, b := range [][]byte{
		// the number of nodes, and what is behind it
		{}, {0}, {1}, {2}, {33}, {255}, {0, 0}, {0, 0, 0, 0, 0, 0, 0, 0},
		slices.Concat([]byte{1}, input), slices.Concat([]byte{0}, input, relu), slices.Concat([]byte{1}, input, relu), slices.Concat([]byte{3}, input, relu), slices.Concat([]byte{255}, input, relu),
		slices.Concat([]byte{33}, input, slices.Repeat(relu, 32)), slices.Concat([]byte{255}, input, slices.Repeat(relu, 254)), slices.Concat([]byte{32}, input, slices.Repeat(relu, 32)),
		slices.Concat([]byte{34}, input, slices.Repeat(relu, 33)), slices.Concat([]byte{0}, slices.Repeat(relu, 256)),
		// kinds
		two(input, []byte{0, 1, 0, 0, 0, 0}), two(input, []byte{14, 1, 0, 0, 0, 0}), two(input, []byte{255, 1, 0, 0, 0, 0}), two(input, []byte{0, 0, 0, 0, 0}), two([]byte{0, 0, 1, 1, 0, 0}, relu),
		// inputs: none, too many, more than there are bytes
		two(input, []byte{5, 0, 0, 0, 0}), two(input, []byte{5, 2, 0, 0, 0, 0, 0}), two(input, []byte{12, 5, 0, 0, 0, 0, 0, 0, 0, 0}), two(input, []byte{12, 255, 0, 0, 0, 0}), two(input, []byte{12, 0, 0, 0, 0}), two(input, []byte{5, 1, 1, 0, 0, 0}), two(input, []byte{5, 1, 255, 0, 0, 0}),
		two(input, slices.Concat([]byte{12, 255}, make([]byte, 255), []byte{0, 0, 0})),
		// dimensions
		two([]byte{1, 0, 0, 0, 0}, relu), two([]byte{1, 0, 1, 0, 0, 0}, relu), two([]byte{1, 0, 1, 65, 0, 0}, relu), two([]byte{1, 0, 5, 1, 1, 1, 1, 1, 0, 0}, relu), two([]byte{1, 0, 3, 64, 64, 2, 0, 0}, relu), two([]byte{1, 0, 255, 1, 0, 0}, relu),
		two(slices.Concat([]byte{1, 0, 255}, slices.Repeat([]byte{1}, 255), []byte{0, 0}), relu), two(input, []byte{5, 1, 0, 1, 1, 0, 0}),
		// N and Pad
		two([]byte{1, 0, 1, 1, 1, 0}, relu), two([]byte{1, 0, 1, 1, 0, 1}, relu), two(input, []byte{5, 1, 0, 0, 1, 0}), two(input, []byte{5, 1, 0, 0, 0, 1}), two(input, []byte{6, 1, 0, 0, 32, 0}), two(input, []byte{6, 1, 0, 0, 255, 0}), two(input, []byte{13, 1, 0, 0, 1, 0}),
		// bytes left, ahead of all, in between and behind
		two(input, relu, []byte{0}), two(input, relu, []byte{0, 0, 0, 0}), two(input, []byte{0}, relu), two([]byte{0}, input, relu), two(input, relu, input), two(input, relu, two(input, relu)),
		two(input, relu[:5]), two(input, relu[:4]), two(input, relu[:3]), two(input, relu[:2]), two(input, relu[:1]), two(input), two(input[:5]), two(input[:3], relu), two(input[1:], relu),
		// graphs that are invalid as such
		two(input, input), two(relu, relu), two(relu, input), two(weight, relu), two(input, weight), two(input, weight, make([]byte, 8)), two(weight, relu, make([]byte, 8)),
	} {
		if e := expectPlainGet(t, summed(b)); e != api.ErrForm {
			t.Errorf("%v: the test is wrong: %d", b, e)
		}
	}
	// numbers that are missing or left over
	body := slices.Concat([]byte{4}, weight, input, weight, []byte{3, 2, 0, 2, 0, 0, 0})
	for many := range 40 {
		e := expectPlainGet(t, summed(append(slices.Clone(body), slices.Repeat([]byte{9}, many)...)))
		if (e == api.OK) != (many == 16) || e != api.OK && e != api.ErrForm {
			t.Errorf("%d bytes of numbers: the test is wrong: %d", many, e)
		}
	}
}

// TestGetOfInvalidModels: their bytes are written as a valid model's would be.
func TestGetOfInvalidModels(t *testing.T) {
	for _, m := range badModels() {
		expectPlainGet(t, plainBytes(m))
	}
	for _, g := range badGraphs() {
		expectPlainGet(t, plainBytes(api.Model{G: g}))
	}
}

// TestGetOfChangedBytes with a sum that is right again: each byte to each other one, left out, doubled, and with another one ahead of it.
func TestGetOfChangedBytes(t *testing.T) {
	_, many, _ := all(slices.Concat(begin(), eachKind())...)
	_, few, _ := all(append(begin(), eachKind()[6])...)
	for _, g := range []api.Graph{many, few} {
		b := plainBytes(modelOf(g))
		b = b[:len(b)-4]
		good, bad := 0, 0
		count := func(b []byte) {
			if expectPlainGet(t, summed(b)) == api.OK {
				good++
			} else {
				bad++
			}
		}
		for i := range min(len(b), 160) {
			count(slices.Delete(slices.Clone(b), i, i+1))
			count(slices.Insert(slices.Clone(b), i, b[i]))
			count(slices.Insert(slices.Clone(b), i, 0))
			count(slices.Insert(slices.Clone(b), i, 1, 0, 0, 0))
			count(b[:i])
			for x := range 256 {
				other := slices.Clone(b)
				other[i] = byte(x)
				count(other)
			}
		}
		if good < 100 || bad < 100 {
			t.Errorf("the test is wrong: %d are a model's, %d are not", good, bad)
		}
	}
}

// P11.3

// TestWhatIsPutIsReadBack: and what is read back puts the same bytes.
func TestWhatIsPutIsReadBack(t *testing.T) {
	for _, g := range someGraphs() {
		m := modelOf(g)
		b, e := models.Put(m)
		if e != api.OK || !bytes.Equal(b, plainBytes(m)) {
			t.Errorf("%s: Put = %d", short(m), e)
		}
		again, e := models.Get(b)
		if e != api.OK || !sameModel(again, m) {
			t.Errorf("%s: Get = %s, %d", short(m), short(again), e)
		}
		expectPut(t, again, b)
	}
}

// TestUnlikeModelsHaveUnlikeBytes: any two graphs, and any two of weights.
func TestUnlikeModelsHaveUnlikeBytes(t *testing.T) {
	known := map[string]api.Model{}
	add := func(m api.Model) {
		b, _ := models.Put(m)
		if other, there := known[string(b)]; there && !sameModel(m, other) {
			t.Errorf("%s and %s have the same bytes", short(m), short(other))
		}
		known[string(b)] = m
	}
	for _, g := range someGraphs() {
		add(modelOf(g))
	}
	g, _, _ := plainParse("weight 2 3\ninput 2 3\nadd 0 1\n")
	for i := range 6 {
		for bit := range 32 {
			m := modelOf(g)
			m.W[0].L[i] ^= 1 << bit
			add(m)
		}
	}
}

// TestGrownGraphsHaveEachKind: else the tests that go through them would ask too little.
func TestGrownGraphsHaveEachKind(t *testing.T) {
	var many [14]int
	for seed := range uint32(40) {
		for _, n := range grown(seed).Nodes {
			many[n.Kind]++
		}
	}
	for k := api.NkInput; k <= api.NkSum; k++ {
		if many[k] < 5 {
			t.Errorf("kind %d: %d", k, many[k])
		}
	}
}

// R1

// FuzzGet: R1 and P11.1 for any bytes, with whatever sum, and with the right one.
func FuzzGet(f *testing.F) {
	for _, g := range someGraphs() {
		b := plainBytes(modelOf(g))
		f.Add(b)
		f.Add(b[:len(b)-4])
		f.Add(b[:len(b)/2])
	}
	for _, g := range badGraphs() {
		f.Add(plainBytes(api.Model{G: g}))
	}
	f.Fuzz(func(t *testing.T, b []byte) {
		expectPlainGet(t, b)
		expectPlainGet(t, summed(b))
		if len(b) > 4 {
			expectPlainGet(t, summed(b[:len(b)-4]))
		}
	})
}
