package models_test

import (
	"math"
	"slices"
	"strings"
	"testing"

	"drydock/api"
	"drydock/models"
)

// P11.2: Text

func TestTextOfEachKind(t *testing.T) {
	lists := [][]sample{slices.Concat(begin(), eachKind())}
	for _, s := range eachKind() {
		lists = append(lists, append(begin(), s))
	}
	for _, l := range lists {
		text, g, _ := all(l...)
		expectText(t, g, text)
		expectParse(t, text, g)
	}
}

func TestTextOfGraphs(t *testing.T) {
	for _, g := range someGraphs() {
		expectText(t, g, plainText(g))
	}
	for _, g := range badGraphs() {
		expectNoText(t, g)
	}
	g, _, _ := plainParse("input 1\nrelu 0\n")
	for _, n := range []int{-1, 1, math.MinInt, math.MaxInt, 256} {
		g.Nodes[1].N = n
		expectNoText(t, g)
		g.Nodes[1].N, g.Nodes[1].Pad = 0, n
		expectNoText(t, g)
		g.Nodes[1].Pad = 0
	}
}

// P11.2: Parse

// TestRowsOfEachKind: each row by itself, first in a text and behind others: it is one, whatever the graph is.
func TestRowsOfEachKind(t *testing.T) {
	for _, s := range slices.Concat(begin(), eachKind()) {
		_, _, e := plainParse(s.line + "\n" + s.line)
		if e != api.ErrArg {
			t.Errorf("%q: the test is wrong: %d", s.line, e)
		}
		expectNoParse(t, s.line, 0, api.ErrArg)
		expectNoParse(t, s.line+"\n"+s.line, 0, api.ErrArg)
		expectNoParse(t, s.line+"\nx", 1, api.ErrForm)
		expectNoParse(t, strings.Repeat(s.line+"\n", 32), 0, api.ErrArg)
	}
}

// TestLines: which ones a text has.
func TestLines(t *testing.T) {
	g, _, _ := plainParse("input 4\nrelu 0\n")
	expectParse(t, "input 4\nrelu 0", g)
	expectParse(t, "input 4\nrelu 0\n", g)
	for _, c := range []struct {
		s    string
		line int
		e    api.Errno
	}{
		{"", 0, api.ErrArg},
		{"\n", 0, api.ErrForm},
		{"\n\n", 0, api.ErrForm},
		{" ", 0, api.ErrForm},
		{"\x00", 0, api.ErrForm},
		{"\ninput 4\nrelu 0\n", 0, api.ErrForm},
		{"input 4\n\nrelu 0\n", 1, api.ErrForm},
		{"input 4\nrelu 0\n\n", 2, api.ErrForm},
		{"input 4\nrelu 0\n\n\n", 2, api.ErrForm},
		{"input 4\nrelu 0\n ", 2, api.ErrForm},
		{"input 4\nrelu 0\nx", 2, api.ErrForm},
		{"input 4\nrelu 0\n\nx", 2, api.ErrForm},
		{"input 4 relu 0", 0, api.ErrForm},
		{"input 4\rrelu 0", 0, api.ErrForm},
		{"input 4\r\nrelu 0\r\n", 0, api.ErrForm},
		{"input 4\nrelu 0\r\n", 1, api.ErrForm},
		{"input 4\nrelu 0\n\r", 2, api.ErrForm},
		{"input 4\nrelu 0\x00", 1, api.ErrForm},
		{"input 4\nrelu 0\u2028", 1, api.ErrForm},
		{"input 4\nrelu 0\v", 1, api.ErrForm},
		{"\ufeffinput 4\nrelu 0", 0, api.ErrForm},
	} {
		expectNoParse(t, c.s, c.line, c.e)
		expectPlainParse(t, c.s)
	}
}

// TestLinesThatAreNoRow: behind two that are.
func TestLinesThatAreNoRow(t *testing.T) {
	for _, line := range []string{
		"x", "0", "4", "none 0", "input", "weight", "add", "mul", "product", "relu", "shift", "window", "pool", "shape", "turn", "join", "sum", "by", "to", "along", "step", "pad", "wide", "S", "A", "A..", "N",
		"Input 4", "INPUT 4", "iNPUT 4", "RELU 0", "inputs 4", "inpu 4", "input4", "relu0", "shift 0 BY 1", "shift 0 By 1", "shift 0by 1", "shift 0 by1",
		"input ", "input x", "input 4 x", "input x 4", "input 4 to 4", "weight to 4", "weight 4 by 3",
		"add 0", "add 0 0 0", "add 0 x", "add x 0", "add 0,0", "mul 0", "mul 0 0 0", "product 0", "product 0 0 0",
		"relu 0 0", "relu x", "relu by", "relu 0 by 0",
		"shift 0", "shift 0 by", "shift by 0", "shift 0 by 1 1", "shift 0 0 by 1", "shift 0 1", "shift 0 to 1", "shift by 0 1", "shift 0 by by 1", "shift 0 by by",
		"window 0 0", "window 0 0 step 1", "window 0 0 pad 1", "window 0 0 pad 1 step 1", "window 0 step 1 pad 1", "window 0 0 0 step 1 pad 1", "window 0 0 step 1 pad", "window 0 0 step pad 1", "window 0 0 step 1 1 pad 1", "window 0 0 step 1 pad 1 1", "window 0 0 1 pad 1", "window 0 0 step 1 1", "window 0 0 step 1 step 1", "window 0 0 pad 1 pad 1",
		"pool 0", "pool 0 wide", "pool wide 1", "pool 0 0 wide 1", "pool 0 wide 1 1", "pool 0 by 1", "pool 0 1",
		"shape 0", "shape 0 to", "shape to 1", "shape 0 0 to 1", "shape 0 1", "shape 0 by 1", "shape 0 to 1 x", "shape 0 to to", "shape 0 to 1 to 1",
		"turn 0", "turn 0 to", "turn to 1", "turn 0 0 to 1", "turn 0 1", "turn 0 along 1", "turn 0 to x",
		"join along 0", "join 0 0", "join 0 along", "join 0 0 along", "join along", "join 0 x along 0", "join 0 along 0 0", "join 0 along 0 along 0", "join 0 by 0", "join x along 0", "join 0 along x",
		"sum 0", "sum 0 along", "sum along 0", "sum 0 0 along 0", "sum 0 along 0 0", "sum 0 by 0", "sum 0 0", "sum 0 along x",
	} {
		expectNoParse(t, "input 4\nrelu 0\n"+line, 2, api.ErrForm)
		expectNoParse(t, line+"\ninput 4\nrelu 0\n", 0, api.ErrForm)
	}
}

// TestNumbers in each place where a row has one: which words are numbers, and which are none.
func TestNumbers(t *testing.T) {
	are := []string{"0", "1", "9", "10", "31", "64", "65", "100", "256", "257", "65536", "99999999", "100000000", "999999999", "123456789"}
	no := []string{
		"", "00", "01", "000", "04", "007", "000000001", "0000000000", "012345678", "-0", "-1", "-4", "+0", "+1", "+4", "--1", "1-", "-", "+",
		"1000000000", "9999999999", "4294967296", "18446744073709551616", "9223372036854775807", "0999999999", "1234567890123456789012345678901234567890",
		"x", "a", "0x1", "0b1", "0o7", "1e3", "1.0", "1.", ".5", "1_0", "1,0", "1;", "(1)", "1x", "x1", "'1'", "I", "l", "O", "NaN", "Inf",
		"1\t", "\t1", "1\r", "1\v", "1\x00", "\x00", "1\u00a0", "\u0661", "\uff11", "\u00b2", "1\xff", "\xff", "\xc0\xb1", "\xb1", "by", "to", "S", "A..",
	}
	for _, s := range slices.Concat(begin(), eachKind()) {
		words := strings.Split(s.line, " ")
		for i, word := range words {
			if word[0] < '0' || word[0] > '9' {
				continue
			}
			for _, number := range are {
				words[i] = number
				if e := expectPlainParse(t, strings.Join(words, " ")); e != api.ErrArg {
					t.Errorf("%q: the test is wrong: %d", words, e)
				}
				expectPlainParse(t, "input 2 4 4\nweight 2 4 4\nweight 3 2 2 2\nweight 4 2\nweight 2 4\n"+strings.Join(words, " "))
				expectNoParse(t, "input 4\nrelu 0\n"+strings.Join(words, " ")+"\nx", 3, api.ErrForm)
			}
			for _, other := range no {
				words[i] = other
				expectNoParse(t, "input 4\nrelu 0\n"+strings.Join(words, " ")+"\n", 2, api.ErrForm)
			}
			words[i] = word
		}
	}
}

// TestWords: each word of each row left out, doubled, put elsewhere, in another case, in another's place, and behind or ahead of another one.
func TestWords(t *testing.T) {
	others := []string{"", "input", "relu", "join", "by", "to", "along", "step", "pad", "wide", "0", "1", "x", "-1", "01"}
	for _, s := range slices.Concat(begin(), eachKind()) {
		ask := func(words []string) {
			t.Helper()
			expectPlainParse(t, strings.Join(words, " "))
			expectPlainParse(t, "input 2 4 4\nweight 2 4 4\nweight 3 2 2 2\nweight 4 2\nweight 2 4\n"+strings.Join(words, " ")+"\n")
		}
		words := strings.Split(s.line, " ")
		ask(slices.Concat(words, words))
		for i, word := range words {
			ask(slices.Delete(slices.Clone(words), i, i+1))
			ask(words[:i])
			ask(words[i:])
			for _, other := range append(others, word, strings.ToUpper(word), strings.ToUpper(word[:1])+word[1:], word+"s", word[1:], " "+word, word+" ") {
				ask(slices.Insert(slices.Clone(words), i, other))
				ask(append(slices.Clone(words), other))
				ask(slices.Replace(slices.Clone(words), i, i+1, other))
			}
			for j := range words[:i] {
				swapped := slices.Clone(words)
				swapped[i], swapped[j] = swapped[j], swapped[i]
				ask(swapped)
			}
		}
	}
}

// TestBlanks: one between each two words, none ahead or behind, and nothing else in its place.
func TestBlanks(t *testing.T) {
	for _, s := range slices.Concat(begin(), eachKind()) {
		for _, line := range []string{" " + s.line, s.line + " ", "  " + s.line, s.line + "  ", "\t" + s.line, s.line + "\t", s.line + "\r", "\r" + s.line, s.line + "\v", s.line + "\f"} {
			expectNoParse(t, "input 4\nrelu 0\n"+line, 2, api.ErrForm)
			expectNoParse(t, line+"\n", 0, api.ErrForm)
		}
		for i := range s.line {
			if s.line[i] != ' ' {
				continue
			}
			expectPlainParse(t, "input 4\nrelu 0\n"+s.line[:i]+s.line[i+1:])
			for _, between := range []string{"  ", "   ", "\t", " \t", "\t ", "\v", "\f", "\r", "\x00", "\u00a0", "\u2003", "_", ",", ", "} {
				expectNoParse(t, "input 4\nrelu 0\n"+s.line[:i]+between+s.line[i+1:], 2, api.ErrForm)
			}
		}
	}
}

// TestEachByteOfAText: turned to each other one, left out, and with another one ahead of it; UTF-8 or not.
func TestEachByteOfAText(t *testing.T) {
	s := "input 2 4 4\nweight 3 2 2 2\nwindow 0 1 step 2 pad 1\nshape 2 to 3 9\njoin 3 3 along 0\nsum 4 along 1\n"
	many := map[api.Errno]int{}
	for i := range len(s) {
		many[expectPlainParse(t, s[:i])]++
		many[expectPlainParse(t, s[:i]+s[i+1:])]++
		many[expectPlainParse(t, s[:i]+s[i:i+1]+s[i:])]++
		for x := range 256 {
			many[expectPlainParse(t, s[:i]+string([]byte{byte(x)})+s[i+1:])]++
		}
		for _, x := range []string{" ", "\n", "0", "1", "-", "\xff", "\xc3\xa9", "a"} {
			many[expectPlainParse(t, s[:i]+x+s[i:])]++
		}
	}
	if many[api.OK] < 50 || many[api.ErrArg] < 50 || many[api.ErrForm] < 50 {
		t.Errorf("the test is wrong: %v", many)
	}
}

// TestBytesThatAreNoUTF8 in each word, and as a word.
func TestBytesThatAreNoUTF8(t *testing.T) {
	for _, x := range []string{"\x80", "\xff", "\xfe", "\xc0\x80", "\xed\xa0\x80", "\xf4\x90\x80\x80", "\xc3", "\xe2\x82"} {
		expectNoParse(t, x, 0, api.ErrForm)
		expectNoParse(t, "input 4\n"+x+"\n", 1, api.ErrForm)
		expectNoParse(t, "input 4\nrelu "+x+"\n", 1, api.ErrForm)
		expectNoParse(t, "input 4\nrelu 0"+x+"\n", 1, api.ErrForm)
		expectNoParse(t, "input 4\nre"+x+"lu 0\n", 1, api.ErrForm)
		expectNoParse(t, "input 4\nshift 0 "+x+" 1\n", 1, api.ErrForm)
		expectNoParse(t, "input 4\nrelu 0\n"+x, 2, api.ErrForm)
	}
}

// TestLongLists are rows, though no node can have as many.
func TestLongLists(t *testing.T) {
	for _, many := range []int{1, 4, 5, 33, 255, 256, 257, 1000, 10000} {
		l := strings.Repeat(" 0", many)
		for _, line := range []string{"input" + l, "weight" + l, "shape 0 to" + l, "turn 0 to" + l, "join" + l + " along 0"} {
			expectNoParse(t, line, 0, api.ErrArg)
			expectNoParse(t, "input 4\nrelu 0\n"+line+"\nx", 3, api.ErrForm)
			expectNoParse(t, line+" x", 0, api.ErrForm)
		}
	}
	expectParse(t, "input 4\njoin 0 0 0 0 along 0", api.Graph{Nodes: []api.Node{{Kind: api.NkInput, Shape: []int{4}}, {Kind: api.NkJoin, In: []int{0, 0, 0, 0}}}})
	expectNoParse(t, "input 4\njoin 0 0 0 0 0 along 0", 0, api.ErrArg)
}

// TestRowsOfInvalidGraphs: all rows are right, but they make no graph.
func TestRowsOfInvalidGraphs(t *testing.T) {
	for _, s := range badTexts() {
		if e := expectPlainParse(t, s); e != api.ErrArg {
			t.Errorf("%q: the test is wrong: %d", s, e)
		}
		expectNoParse(t, s, 0, api.ErrArg)
		expectNoParse(t, strings.TrimSuffix(s, "\n"), 0, api.ErrArg)
	}
}

// TestMostLines: MaxNodes lines, and one more.
func TestMostLines(t *testing.T) {
	full := "input 4" + strings.Repeat("\nrelu 0", 31)
	g := api.Graph{Nodes: append([]api.Node{{Kind: api.NkInput, Shape: []int{4}}}, slices.Repeat([]api.Node{{Kind: api.NkRelu, In: []int{0}}}, 31)...)}
	expectParse(t, full, g)
	expectParse(t, full+"\n", g)
	for _, more := range []string{"relu 0", "relu 0\n", "\n", " ", "x", "x\n", "relu 0\nx", "x\nrelu 0", "relu 0\nrelu 0\nrelu 0\n", "relu 99", strings.Repeat("relu 0\n", 9000), strings.Repeat("\n", 60000)} {
		expectNoParse(t, full+"\n"+more, 32, api.ErrForm)
		for _, at := range []int{0, 1, 7, 30, 31} {
			lines := strings.Split(full+"\n"+more, "\n")
			lines[at] = "x"
			expectNoParse(t, strings.Join(lines, "\n"), at, api.ErrForm)
			lines[at] = ""
			expectNoParse(t, strings.Join(lines, "\n"), at, api.ErrForm)
			lines[at] = "relu 999"
			expectNoParse(t, strings.Join(lines, "\n"), 32, api.ErrForm)
		}
	}
	expectNoParse(t, strings.Repeat("relu 0\n", 33), 32, api.ErrForm)
	expectNoParse(t, strings.Repeat("input 4\n", 33), 32, api.ErrForm)
}

// TestMostBytes: MaxText, and one more.
func TestMostBytes(t *testing.T) {
	for _, c := range []struct {
		begin, unit string
		line        int
		e           api.Errno
	}{
		{"", "x", 0, api.ErrForm},
		{"", "\n", 0, api.ErrForm},
		{"", " ", 0, api.ErrForm},
		{"", "\xff", 0, api.ErrForm},
		{"input 0", " 1", 0, api.ErrArg},
		{"input 4\nweight 0", " 1", 0, api.ErrArg},
		{"input 4\nrelu 0\n", "x", 2, api.ErrForm},
		{"input 4\nrelu 0", "0", 1, api.ErrForm},
		{"", "relu 0\n", 32, api.ErrForm},
		{"input 4\nshape 0 to 4 ", "9", 1, api.ErrForm},
	} {
		sized := func(size int) string {
			units := (size - len(c.begin)) / len(c.unit)
			s := c.begin + strings.Repeat(c.unit, units)
			return s + strings.Repeat("1", size-len(s))
		}
		expectNoParse(t, sized(65535), c.line, c.e)
		expectNoParse(t, sized(65536), c.line, c.e)
		expectNoParse(t, sized(65537), 0, api.ErrLimit)
		expectNoParse(t, sized(65538), 0, api.ErrLimit)
	}
	expectNoParse(t, "input 0"+strings.Repeat(" 1", 32764)+"\n", 0, api.ErrArg)
	expectNoParse(t, "input 0"+strings.Repeat(" 1", 32764)+"1\n", 0, api.ErrLimit)
	expectNoParse(t, "input 4\nrelu 0\n"+strings.Repeat("x", 1<<20), 0, api.ErrLimit)
	expectNoParse(t, strings.Repeat("relu 0\n", 1<<16), 0, api.ErrLimit)
}

// TestWhichErrorComesFirst: the limit, then the first line that is no row, then the graph.
func TestWhichErrorComesFirst(t *testing.T) {
	expectNoParse(t, "x\n"+strings.Repeat("y", 65535), 0, api.ErrLimit)
	expectNoParse(t, "input 4\nx\n"+strings.Repeat("y", 65535), 0, api.ErrLimit)
	expectNoParse(t, "relu 7\nx", 1, api.ErrForm)
	expectNoParse(t, "input 0\ninput 4\nadd 9 9\nx", 3, api.ErrForm)
	expectNoParse(t, "x\ny\nz", 0, api.ErrForm)
	expectNoParse(t, "input 4\nx\ny", 1, api.ErrForm)
	expectNoParse(t, "input 4\ninput 4\n", 0, api.ErrArg)
	expectNoGet(t, []byte{1, 2, 3}, api.ErrShort)
	expectNoGet(t, []byte{9, 1, 2, 3, 4}, api.ErrSum)
	expectNoGet(t, summed([]byte{9}), api.ErrForm)
}

// P11.3 and P0.5

// TestWhatIsWrittenIsRead: and what is read and written again is the text.
func TestWhatIsWrittenIsRead(t *testing.T) {
	for _, g := range someGraphs() {
		s, e := models.Text(g)
		if e != api.OK {
			t.Errorf("Text(%s): %d", short(g), e)
		}
		expectParse(t, s, g)
		expectParse(t, strings.TrimSuffix(s, "\n"), g)
		expectNoParse(t, s+"\n", len(g.Nodes), api.ErrForm)
		for _, text := range []string{s, strings.TrimSuffix(s, "\n")} {
			again, _, _ := models.Parse(text)
			expectText(t, again, s)
		}
	}
}

// TestUnlikeGraphsHaveUnlikeTexts: any two.
func TestUnlikeGraphsHaveUnlikeTexts(t *testing.T) {
	known := map[string]api.Graph{}
	for _, g := range someGraphs() {
		s, _ := models.Text(g)
		if other, there := known[s]; there && !sameGraph(g, other) {
			t.Errorf("%s and %s have the same text", short(g), short(other))
		}
		known[s] = g
	}
}

// R1

// FuzzParse: R1 and P11.2 for any text.
func FuzzParse(f *testing.F) {
	for _, g := range someGraphs() {
		f.Add(plainText(g))
	}
	for _, s := range badTexts() {
		f.Add(s)
	}
	for _, s := range []string{"\n", "input 4\nrelu", "input 04", "input 4\n\nrelu 0\n", "input 4\nrelu 0\xff", "join 0 0 along 0 0", strings.Repeat("relu 0\n", 33)} {
		f.Add(s)
	}
	f.Fuzz(func(t *testing.T, s string) {
		expectPlainParse(t, s)
		expectPlainParse(t, strings.Repeat("relu 0\n", len(s)%34)+s)
		expectPlainParse(t, "input 2 3\nweight 2 3\n"+s)
	})
}
