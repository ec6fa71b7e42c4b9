package models_test

import (
	"bytes"
	"encoding/binary"
	"fmt"
	"hash/crc32"
	"math"
	"regexp"
	"slices"
	"strconv"
	"strings"
	"sync"
	"testing"

	"drydock/api"
	"drydock/graphs"
	"drydock/models"
)

// sample is a line of a text, and what the chapter says it stands for.
type sample struct {
	line string
	node api.Node
	b    []byte
}

// begin is a beginning to which each of eachKind fits.
func begin() []sample {
	return []sample{
		{"input 2 4 4", api.Node{Kind: api.NkInput, Shape: []int{2, 4, 4}}, []byte{1, 0, 3, 2, 4, 4, 0, 0}},
		{"weight 2 4 4", api.Node{Kind: api.NkWeight, Shape: []int{2, 4, 4}}, []byte{2, 0, 3, 2, 4, 4, 0, 0}},
		{"weight 3 2 2 2", api.Node{Kind: api.NkWeight, Shape: []int{3, 2, 2, 2}}, []byte{2, 0, 4, 3, 2, 2, 2, 0, 0}},
		{"weight 4 2", api.Node{Kind: api.NkWeight, Shape: []int{4, 2}}, []byte{2, 0, 2, 4, 2, 0, 0}},
		{"weight 2 4", api.Node{Kind: api.NkWeight, Shape: []int{2, 4}}, []byte{2, 0, 2, 2, 4, 0, 0}},
	}
}

// eachKind is a node of each kind that may stand at the end, behind begin; and some at the edges.
func eachKind() []sample {
	return []sample{
		{"add 0 1", api.Node{Kind: api.NkAdd, In: []int{0, 1}}, []byte{3, 2, 0, 1, 0, 0, 0}},
		{"mul 1 0", api.Node{Kind: api.NkMul, In: []int{1, 0}}, []byte{4, 2, 1, 0, 0, 0, 0}},
		{"relu 2", api.Node{Kind: api.NkRelu, In: []int{2}}, []byte{5, 1, 2, 0, 0, 0}},
		{"shift 3 by 0", api.Node{Kind: api.NkShift, In: []int{3}}, []byte{6, 1, 3, 0, 0, 0}},
		{"shift 0 by 31", api.Node{Kind: api.NkShift, In: []int{0}, N: 31}, []byte{6, 1, 0, 0, 31, 0}},
		{"product 3 4", api.Node{Kind: api.NkProduct, In: []int{3, 4}}, []byte{7, 2, 3, 4, 0, 0, 0}},
		{"window 0 2 step 1 pad 0", api.Node{Kind: api.NkWindow, In: []int{0, 2}, N: 1}, []byte{8, 2, 0, 2, 0, 1, 0}},
		{"window 0 2 step 8 pad 7", api.Node{Kind: api.NkWindow, In: []int{0, 2}, N: 8, Pad: 7}, []byte{8, 2, 0, 2, 0, 8, 7}},
		{"pool 0 wide 3", api.Node{Kind: api.NkPool, In: []int{0}, N: 3}, []byte{9, 1, 0, 0, 3, 0}},
		{"shape 4 to 8", api.Node{Kind: api.NkShape, In: []int{4}, Shape: []int{8}}, []byte{10, 1, 4, 1, 8, 0, 0}},
		{"shape 0 to 1 16 1 2", api.Node{Kind: api.NkShape, In: []int{0}, Shape: []int{1, 16, 1, 2}}, []byte{10, 1, 0, 4, 1, 16, 1, 2, 0, 0}},
		{"turn 0 to 2 0 1", api.Node{Kind: api.NkTurn, In: []int{0}, Shape: []int{2, 0, 1}}, []byte{11, 1, 0, 3, 2, 0, 1, 0, 0}},
		{"join 1 along 2", api.Node{Kind: api.NkJoin, In: []int{1}, N: 2}, []byte{12, 1, 1, 0, 2, 0}},
		{"join 0 1 1 0 along 0", api.Node{Kind: api.NkJoin, In: []int{0, 1, 1, 0}}, []byte{12, 4, 0, 1, 1, 0, 0, 0, 0}},
		{"sum 2 along 3", api.Node{Kind: api.NkSum, In: []int{2}, N: 3}, []byte{13, 1, 2, 0, 3, 0}},
	}
}

// all is several samples as one text, one graph, and the bytes of its nodes behind their number.
func all(l ...sample) (text string, g api.Graph, b []byte) {
	b = []byte{byte(len(l))}
	for _, s := range l {
		text += s.line + "\n"
		g.Nodes = append(g.Nodes, s.node)
		b = append(b, s.b...)
	}
	return text, g, b
}

// numberRun is n numbers of either sign, with all four bytes in use.
func numberRun(n int) []int32 {
	l := make([]int32, n)
	x := uint32(n)
	for i := range l {
		x = x*1664525 + 1013904223
		l[i] = int32(x)
	}
	return l
}

func sizeOf(s []int) int {
	size := 1
	for _, dim := range s {
		size *= dim
	}
	return size
}

// modelOf is a valid graph and weights for it.
func modelOf(g api.Graph) api.Model {
	m := api.Model{G: g}
	for _, n := range g.Nodes {
		if n.Kind == api.NkWeight {
			m.W = append(m.W, api.Tensor{Shape: slices.Clone(n.Shape), L: numberRun(sizeOf(n.Shape))})
		}
	}
	return m
}

// summed is bytes and, behind them, their checksum, which is not made by the project's packages.
func summed(b []byte) []byte {
	return binary.LittleEndian.AppendUint32(slices.Clone(b), crc32.ChecksumIEEE(b))
}

// plainCheck is the chapter's definition of a valid model.
func plainCheck(m api.Model) bool {
	if !graphs.Check(m.G) {
		return false
	}
	w := m.W
	for _, n := range m.G.Nodes {
		if n.Kind == api.NkWeight {
			if len(w) == 0 || !slices.Equal(w[0].Shape, n.Shape) || len(w[0].L) != sizeOf(n.Shape) {
				return false
			}
			w = w[1:]
		}
	}
	return len(w) == 0
}

// plainBytes are the bytes of a valid model.
func plainBytes(m api.Model) []byte {
	l := []int{len(m.G.Nodes)}
	for _, n := range m.G.Nodes {
		l = slices.Concat(l, []int{int(n.Kind), len(n.In)}, n.In, []int{len(n.Shape)}, n.Shape, []int{n.N, n.Pad})
	}
	var b []byte
	for _, number := range l {
		b = append(b, byte(number))
	}
	for _, x := range m.W {
		for _, number := range x.L {
			b = binary.LittleEndian.AppendUint32(b, uint32(number))
		}
	}
	return summed(b)
}

// plainGet is P11.1 as the document words it: b is read as if it were a model's, and then held against that model's bytes.
func plainGet(b []byte) (api.Model, api.Errno) {
	if len(b) < 4 {
		return api.Model{}, api.ErrShort
	}
	if !bytes.Equal(summed(b[:len(b)-4]), b) {
		return api.Model{}, api.ErrSum
	}
	rest := bytes.NewReader(b[:len(b)-4])
	next := func() int {
		x, _ := rest.ReadByte()
		return int(x)
	}
	list := func() []int {
		l := make([]int, next())
		for i := range l {
			l[i] = next()
		}
		return l
	}
	var m api.Model
	for range next() {
		m.G.Nodes = append(m.G.Nodes, api.Node{Kind: api.Kind(next()), In: list(), Shape: list(), N: next(), Pad: next()})
	}
	if !graphs.Check(m.G) {
		return api.Model{}, api.ErrForm
	}
	m.W = modelOf(m.G).W
	for _, x := range m.W {
		for i := range x.L {
			x.L[i] = int32(uint32(next()) | uint32(next())<<8 | uint32(next())<<16 | uint32(next())<<24)
		}
	}
	if !bytes.Equal(plainBytes(m), b) {
		return api.Model{}, api.ErrForm
	}
	return m, api.OK
}

// listed is numbers with a blank between each two.
func listed(l []int) string { return strings.Trim(fmt.Sprint(l), "[]") }

// plainText is the text of a valid graph.
func plainText(g api.Graph) string {
	var lines []string
	for _, n := range g.Nodes {
		name := []string{"", "input", "weight", "add", "mul", "relu", "shift", "product", "window", "pool", "shape", "turn", "join", "sum"}[n.Kind]
		line := name + " " + listed(n.In)
		switch n.Kind {
		case api.NkInput, api.NkWeight:
			line = name + " " + listed(n.Shape)
		case api.NkShift:
			line += fmt.Sprint(" by ", n.N)
		case api.NkWindow:
			line += fmt.Sprint(" step ", n.N, " pad ", n.Pad)
		case api.NkPool:
			line += fmt.Sprint(" wide ", n.N)
		case api.NkShape, api.NkTurn:
			line += " to " + listed(n.Shape)
		case api.NkJoin, api.NkSum:
			line += fmt.Sprint(" along ", n.N)
		}
		lines = append(lines, line+"\n")
	}
	return strings.Join(lines, "")
}

// plainForms are the rows of the chapter's table, with i for a number and l for a list of them, and what to make of a row's numbers.
var plainForms = []struct {
	form string
	node func(l []int) api.Node
}{
	{`input l`, func(l []int) api.Node { return api.Node{Kind: api.NkInput, Shape: l} }},
	{`weight l`, func(l []int) api.Node { return api.Node{Kind: api.NkWeight, Shape: l} }},
	{`add i i`, func(l []int) api.Node { return api.Node{Kind: api.NkAdd, In: l} }},
	{`mul i i`, func(l []int) api.Node { return api.Node{Kind: api.NkMul, In: l} }},
	{`product i i`, func(l []int) api.Node { return api.Node{Kind: api.NkProduct, In: l} }},
	{`relu i`, func(l []int) api.Node { return api.Node{Kind: api.NkRelu, In: l} }},
	{`shift i by i`, func(l []int) api.Node { return api.Node{Kind: api.NkShift, In: l[:1], N: l[1]} }},
	{`window i i step i pad i`, func(l []int) api.Node { return api.Node{Kind: api.NkWindow, In: l[:2], N: l[2], Pad: l[3]} }},
	{`pool i wide i`, func(l []int) api.Node { return api.Node{Kind: api.NkPool, In: l[:1], N: l[1]} }},
	{`shape i to l`, func(l []int) api.Node { return api.Node{Kind: api.NkShape, In: l[:1], Shape: l[1:]} }},
	{`turn i to l`, func(l []int) api.Node { return api.Node{Kind: api.NkTurn, In: l[:1], Shape: l[1:]} }},
	{`join l along i`, func(l []int) api.Node {
		return api.Node{Kind: api.NkJoin, In: l[:len(l)-1], N: l[len(l)-1]}
	}},
	{`sum i along i`, func(l []int) api.Node { return api.Node{Kind: api.NkSum, In: l[:1], N: l[1]} }},
}

// plainPatterns are those rows as patterns.
var plainPatterns = sync.OnceValue(func() []*regexp.Regexp {
	var all []*regexp.Regexp
	for _, f := range plainForms {
		words := strings.Fields(f.form)
		for i, word := range words {
			switch word {
			case "i":
				words[i] = `(0|[1-9][0-9]{0,8})`
			case "l":
				words[i] = `(0|[1-9][0-9]{0,8})( (0|[1-9][0-9]{0,8}))*`
			}
		}
		all = append(all, regexp.MustCompile(`\A`+strings.Join(words, " ")+`\z`))
	}
	return all
})

func plainNode(line string) (api.Node, bool) {
	for i, pattern := range plainPatterns() {
		if pattern.MatchString(line) {
			var l []int
			for _, word := range strings.Fields(line) {
				if n, err := strconv.Atoi(word); err == nil {
					l = append(l, n)
				}
			}
			return plainForms[i].node(l), true
		}
	}
	return api.Node{}, false
}

// plainParse is P11.2 as the document words it.
func plainParse(s string) (api.Graph, int, api.Errno) {
	if len(s) > 65536 {
		return api.Graph{}, 0, api.ErrLimit
	}
	var g api.Graph
	for line := 0; s != ""; line++ {
		text, rest, _ := strings.Cut(s, "\n")
		n, ok := plainNode(text)
		if !ok || line == 32 {
			return api.Graph{}, line, api.ErrForm
		}
		g.Nodes = append(g.Nodes, n)
		s = rest
	}
	if !graphs.Check(g) {
		return api.Graph{}, 0, api.ErrArg
	}
	return g, 0, api.OK
}

// generator makes numbers that are different each time, but the same for the same start.
type generator struct{ x uint32 }

func (r *generator) number(below int) int {
	r.x = r.x*1664525 + 1013904223
	return int(r.x>>8) % below
}

// dims is the dimensions of a small shape.
func (r *generator) dims() string {
	s := make([]int, 1+r.number(4))
	for d := range s {
		s[d] = []int{1, 1, 2, 2, 3, 4, 6, 8}[r.number(8)]
	}
	return listed(s)
}

// line is any row that may come behind so many others: the node often fits, and often does not.
func (r *generator) line(behind int) string {
	at := func() int { return behind - 1 - r.number(min(behind, 5)) }
	switch r.number(12) {
	case 0:
		return "weight " + []string{"2 2", "4", r.dims(), r.dims()}[r.number(4)]
	case 1:
		return fmt.Sprintf("add %d %d", at(), at())
	case 2:
		return fmt.Sprintf("mul %d %d", at(), at())
	case 3:
		return fmt.Sprintf("product %d %d", at(), at())
	case 4:
		return fmt.Sprintf("relu %d", at())
	case 5:
		return fmt.Sprintf("shift %d by %d", at(), r.number(32))
	case 6:
		return fmt.Sprintf("window %d %d step %d pad %d", at(), at(), 1+r.number(8), r.number(9))
	case 7:
		return fmt.Sprintf("pool %d wide %d", at(), 1+r.number(3))
	case 8:
		return fmt.Sprintf("shape %d to %s", at(), r.dims())
	case 9:
		return fmt.Sprintf("turn %d to %s", at(), []string{"0", "1 0", "0 2 1", "1 2 0", "3 0 2 1"}[r.number(5)])
	case 10:
		return fmt.Sprintf("join %s along %d", listed([]int{at(), at(), at(), at()}[:1+r.number(4)]), r.number(4))
	}
	return fmt.Sprintf("sum %d along %d", at(), r.number(4))
}

// grown is a valid graph, node by node of those that fit.
func grown(seed uint32) api.Graph {
	r := generator{seed}
	text := "input 2 4 4\nweight 2 2 2 2\nrelu 0\n"
	g, _, _ := plainParse(text)
	for tried := 0; tried < 60 && len(g.Nodes) < 32; tried++ {
		more := r.line(len(g.Nodes)) + "\n"
		if longer, _, e := plainParse(text + more); e == api.OK {
			text, g = text+more, longer
		} else if longer, _, e := plainParse(text + more + "relu 0\n"); e == api.OK {
			text, g = text+more+"relu 0\n", longer
		}
	}
	return g
}

// someGraphs are valid: each kind behind begin, and several of them; no weight; many nodes; and others.
func someGraphs() []api.Graph {
	_, g, _ := all(slices.Concat(begin(), eachKind())...)
	list := []api.Graph{g}
	for _, s := range eachKind() {
		_, g, _ := all(append(begin(), s)...)
		list = append(list, g)
	}
	for _, text := range []string{
		"input 1\nrelu 0",
		"weight 64 64\ninput 1\nrelu 0",
		"input 8 8 8 8\nshape 0 to 64 64\nweight 1 1 1 1\nweight 64\nshift 2 by 1",
		"input 3\n" + strings.Repeat("relu 0\n", 31),
		strings.Repeat("weight 3\n", 30) + "input 3\nadd 30 29",
	} {
		g, _, e := plainParse(text)
		if e != api.OK {
			panic(text)
		}
		list = append(list, g)
	}
	for seed := range uint32(40) {
		list = append(list, grown(seed))
	}
	return list
}

// badGraphs are invalid: most of them could be written even so, and bytes could be made of them.
func badGraphs() []api.Graph {
	list := []api.Graph{
		{},
		{Nodes: []api.Node{{}}},
		{Nodes: make([]api.Node, 33)},
		{Nodes: make([]api.Node, 300)},
		{Nodes: []api.Node{{Kind: api.NkInput, Shape: []int{1}}, {Kind: api.NkRelu, In: []int{256}}}},
		{Nodes: []api.Node{{Kind: api.NkInput, Shape: []int{1}}, {Kind: api.NkRelu, In: []int{-1}}}},
		{Nodes: []api.Node{{Kind: api.NkInput, Shape: []int{257}}, {Kind: api.NkRelu, In: []int{0}}}},
		{Nodes: []api.Node{{Kind: api.NkInput, Shape: []int{1}}, {Kind: api.NkShift, In: []int{0}, N: 256}}},
		{Nodes: []api.Node{{Kind: api.NkInput, Shape: []int{1}}, {Kind: api.NkRelu, In: []int{0}, N: 256, Pad: math.MinInt}}},
		{Nodes: []api.Node{{Kind: api.NkInput, Shape: []int{1}}, {Kind: api.NkRelu, In: []int{0}, Shape: []int{1}}}},
		{Nodes: []api.Node{{Kind: api.NkInput, Shape: []int{1}}, {Kind: api.NkRelu}}},
		{Nodes: []api.Node{{Kind: api.NkInput, Shape: []int{1}}, {Kind: api.NkAdd, In: []int{0}}}},
		{Nodes: []api.Node{{Kind: api.NkInput, Shape: []int{1}}, {Kind: api.NkJoin, In: make([]int, 300)}}},
		{Nodes: []api.Node{{Kind: api.NkInput, Shape: []int{1}}, {Kind: 14, In: []int{0}}}},
		{Nodes: []api.Node{{Kind: api.NkInput, Shape: []int{1}}, {Kind: 255}}},
	}
	for _, text := range badTexts() {
		var g api.Graph
		for line := range strings.Lines(text) {
			n, ok := plainNode(strings.TrimSuffix(line, "\n"))
			if !ok {
				panic(text)
			}
			g.Nodes = append(g.Nodes, n)
		}
		list = append(list, g)
	}
	return list
}

// badTexts have lines that are rows, but of a graph that is invalid.
func badTexts() []string {
	return []string{
		"", "input 4", "input 4\n", "weight 4\n", "relu 0\n", "weight 4\nrelu 0\n", "input 4\ninput 4\nrelu 0\n", "input 4\nrelu 0\nweight 4\n", "relu 1\ninput 4\n",
		"input 4\nrelu 1\n", "input 4\nrelu 2\n", "input 4\nrelu 31\n", "input 4\nrelu 256\n", "input 4\nrelu 999999999\n",
		"input 0\nrelu 0\n", "input 65\nrelu 0\n", "input 257\nrelu 0\n", "input 999999999\nrelu 0\n", "input 64 64 2\nrelu 0\n", "input 1 1 1 1 1\nrelu 0\n", "input 4\nweight 0\nrelu 0\n",
		"input 4\nweight 5\nadd 0 1\n", "input 4\nweight 5\nmul 0 1\n", "input 2 3\nproduct 0 0\n", "input 4\nshift 0 by 32\n", "input 4\nshift 0 by 287\n",
		"input 1 4 4\nweight 1 1 2 2\nwindow 0 1 step 0 pad 0\n", "input 1 4 4\nweight 1 1 2 2\nwindow 0 1 step 9 pad 0\n", "input 1 4 4\nweight 1 1 2 2\nwindow 0 1 step 1 pad 9\n", "input 1 4 4\nweight 1 1 5 2\nwindow 0 1 step 1 pad 0\n",
		"input 1 4 4\npool 0 wide 0\n", "input 1 4 4\npool 0 wide 5\n", "input 1 64 64\npool 0 wide 65\n", "input 4\nshape 0 to 5\n", "input 4\nshape 0 to 2 2 1 1 1\n", "input 2 3\nturn 0 to 0\n", "input 2 3\nturn 0 to 0 0\n", "input 2 3\nturn 0 to 0 1 2\n",
		"input 4\njoin 0 0 0 0 0 along 0\n", "input 4\njoin 0 along 1\n", "input 4\njoin 0 along 4\n", "input 64\njoin 0 0 along 0\n", "input 4\nsum 0 along 1\n",
		strings.Repeat("relu 0\n", 32),
	}
}

// badModels are invalid: a good graph with weights that it has not.
func badModels() []api.Model {
	var list []api.Model
	g, _, _ := plainParse("weight 2 3\ninput 2\nweight 3 2\nweight 2 3\nadd 0 3\n")
	change := func(f func(m *api.Model)) {
		m := modelOf(g)
		f(&m)
		list = append(list, m)
	}
	change(func(m *api.Model) { m.W = nil })
	change(func(m *api.Model) { m.W = m.W[:2] })
	change(func(m *api.Model) { m.W = m.W[1:] })
	change(func(m *api.Model) { m.W = append(m.W, m.W[2]) })
	change(func(m *api.Model) { m.W = append(m.W, api.Tensor{}) })
	change(func(m *api.Model) { m.W = append([]api.Tensor{{}}, m.W...) })
	change(func(m *api.Model) { m.W[0], m.W[1] = m.W[1], m.W[0] })
	change(func(m *api.Model) { m.W = append(m.W, m.W...) })
	for i := range 3 {
		change(func(m *api.Model) { m.W[i] = api.Tensor{} })
		change(func(m *api.Model) { m.W[i].L = nil })
		change(func(m *api.Model) { m.W[i].L = m.W[i].L[:5] })
		change(func(m *api.Model) { m.W[i].L = append(m.W[i].L, 0) })
		change(func(m *api.Model) { m.W[i].Shape = nil })
		change(func(m *api.Model) { m.W[i].Shape = []int{6} })
		change(func(m *api.Model) { m.W[i].Shape = []int{-2, -3} })
		change(func(m *api.Model) { m.W[i].Shape = append(m.W[i].Shape, 1) })
		change(func(m *api.Model) { m.W[i] = api.Tensor{Shape: []int{1}, L: []int32{1}} })
		change(func(m *api.Model) { m.W[i] = api.Tensor{Shape: []int{2, 2}, L: numberRun(4)} })
	}
	none, _, _ := plainParse("input 1\nrelu 0\n")
	list = append(list, api.Model{}, api.Model{W: modelOf(g).W}, api.Model{G: none, W: []api.Tensor{{}}}, api.Model{G: none, W: []api.Tensor{{Shape: []int{1}, L: []int32{0}}}})
	for _, g := range badGraphs() {
		m := api.Model{G: g}
		for _, n := range g.Nodes {
			if n.Kind == api.NkWeight {
				m.W = append(m.W, api.Tensor{Shape: n.Shape, L: make([]int32, sizeOf(n.Shape))})
			}
		}
		list = append(list, m)
	}
	return list
}

func sameGraph(a, b api.Graph) bool {
	return slices.EqualFunc(a.Nodes, b.Nodes, func(a, b api.Node) bool {
		return a.Kind == b.Kind && slices.Equal(a.In, b.In) && slices.Equal(a.Shape, b.Shape) && a.N == b.N && a.Pad == b.Pad
	})
}

func sameModel(a, b api.Model) bool {
	return sameGraph(a.G, b.G) && slices.EqualFunc(a.W, b.W, func(a, b api.Tensor) bool {
		return slices.Equal(a.Shape, b.Shape) && slices.Equal(a.L, b.L)
	})
}

// short is what a message shows of a long thing.
func short(x any) string { return fmt.Sprintf("%.300q", fmt.Sprint(x)) }

func expectPut(t *testing.T, m api.Model, want []byte) {
	t.Helper()
	if b, e := models.Put(m); e != api.OK || !bytes.Equal(b, want) {
		t.Errorf("Put(%s) = %v, %d; want %v", short(m), b[:min(len(b), 200)], e, want[:min(len(want), 200)])
	}
}

// expectNoPut asks for ErrArg and nothing else (R2).
func expectNoPut(t *testing.T, m api.Model) {
	t.Helper()
	if b, e := models.Put(m); e != api.ErrArg || len(b) != 0 {
		t.Errorf("Put(%s) = %v, %d; want ErrArg and nothing else", short(m), b[:min(len(b), 200)], e)
	}
}

func expectGet(t *testing.T, b []byte, want api.Model) {
	t.Helper()
	if m, e := models.Get(b); e != api.OK || !sameModel(m, want) {
		t.Errorf("Get(%s) = %s, %d; want %s", short(b), short(m), e, short(want))
	}
}

// expectNoGet asks for an error and nothing else (R2).
func expectNoGet(t *testing.T, b []byte, want api.Errno) {
	t.Helper()
	if m, e := models.Get(b); e != want || len(m.G.Nodes) != 0 || len(m.W) != 0 {
		t.Errorf("Get(%s) = %s, %d; want %d and nothing else", short(b), short(m), e, want)
	}
}

// expectPlainGet asks for what the document says of any bytes; it returns the error.
func expectPlainGet(t *testing.T, b []byte) api.Errno {
	t.Helper()
	want, e := plainGet(b)
	if e != api.OK {
		expectNoGet(t, b, e)
		return e
	}
	expectGet(t, b, want)
	m, _ := models.Get(b)
	expectPut(t, m, b)
	return e
}

func expectText(t *testing.T, g api.Graph, want string) {
	t.Helper()
	if s, e := models.Text(g); e != api.OK || s != want {
		t.Errorf("Text(%s) = %q, %d; want %q", short(g), s, e, want)
	}
}

// expectNoText asks for ErrArg and nothing else (R2).
func expectNoText(t *testing.T, g api.Graph) {
	t.Helper()
	if s, e := models.Text(g); e != api.ErrArg || s != "" {
		t.Errorf("Text(%s) = %q, %d; want ErrArg and nothing else", short(g), s, e)
	}
}

func expectParse(t *testing.T, s string, want api.Graph) {
	t.Helper()
	if g, line, e := models.Parse(s); e != api.OK || line != 0 || !sameGraph(g, want) {
		t.Errorf("Parse(%s) = %s, %d, %d; want %s", short(s), short(g), line, e, short(want))
	}
}

// expectNoParse asks for an error and a line, and nothing else (R2).
func expectNoParse(t *testing.T, s string, line int, want api.Errno) {
	t.Helper()
	if g, at, e := models.Parse(s); e != want || at != line || len(g.Nodes) != 0 {
		t.Errorf("Parse(%s) = %s, %d, %d; want line %d, %d", short(s), short(g), at, e, line, want)
	}
}

// expectPlainParse asks for what the document says of any text; it returns the error.
func expectPlainParse(t *testing.T, s string) api.Errno {
	t.Helper()
	want, line, e := plainParse(s)
	if e != api.OK {
		expectNoParse(t, s, line, e)
		return e
	}
	expectParse(t, s, want)
	g, _, _ := models.Parse(s)
	expectText(t, g, strings.TrimSuffix(s, "\n")+"\n")
	return e
}
