package models

import (
	"strconv"
	"strings"

	"drydock/api"
	"drydock/graphs"
)

// maxDigits is how many digits a number of a text may have.
const maxDigits = 9

// rows are those of all kinds. A and B stand for an input each, A.. for all inputs, S for the numbers of Shape, N and P for those fields; every other word stands for itself.
var rows = [...]string{
	api.NkInput:   "input S",
	api.NkWeight:  "weight S",
	api.NkAdd:     "add A B",
	api.NkMul:     "mul A B",
	api.NkRelu:    "relu A",
	api.NkShift:   "shift A by N",
	api.NkProduct: "product A B",
	api.NkWindow:  "window A B step N pad P",
	api.NkPool:    "pool A wide N",
	api.NkShape:   "shape A to S",
	api.NkTurn:    "turn A to S",
	api.NkJoin:    "join A.. along N",
	api.NkSum:     "sum A along N",
}

// Text returns the text of g. (P11.2)
func Text(g api.Graph) (string, api.Errno) {
	if !graphs.Check(g) {
		return "", api.ErrArg
	}
	var text strings.Builder
	for _, n := range g.Nodes {
		text.WriteString(strings.Join(wordsOf(n), " "))
		text.WriteString("\n")
	}
	return text.String(), api.OK
}

// Parse returns the graph whose text s is; with ErrForm, the line that is at fault. (P11.2)
func Parse(s string) (g api.Graph, line int, e api.Errno) {
	if len(s) > api.MaxText {
		return api.Graph{}, 0, api.ErrLimit
	}
	kinds := kindsByFirstWord()
	for at, text := range linesOf(s) {
		n, ok := nodeOf(text, kinds)
		if !ok || at >= api.MaxNodes {
			return api.Graph{}, at, api.ErrForm
		}
		g.Nodes = append(g.Nodes, n)
	}
	if !graphs.Check(g) {
		return api.Graph{}, 0, api.ErrArg
	}
	return g, 0, api.OK
}

// wordsOf returns the words of the row of n. It takes for granted that n conforms to its kind.
func wordsOf(n api.Node) []string {
	var words []string
	for _, part := range strings.Fields(rows[n.Kind]) {
		switch part {
		case "A":
			words = appendNumbers(words, n.In[0])
		case "B":
			words = appendNumbers(words, n.In[1])
		case "A..":
			words = appendNumbers(words, n.In...)
		case "S":
			words = appendNumbers(words, n.Shape...)
		case "N":
			words = appendNumbers(words, n.N)
		case "P":
			words = appendNumbers(words, n.Pad)
		default:
			words = append(words, part)
		}
	}
	return words
}

func appendNumbers(words []string, l ...int) []string {
	for _, number := range l {
		words = append(words, strconv.Itoa(number))
	}
	return words
}

// linesOf returns the lines of s: the byte 10 at the end of the last one begins no other.
func linesOf(s string) []string {
	lines := strings.Split(s, "\n")
	last := len(lines) - 1
	if lines[last] == "" {
		return lines[:last]
	}
	return lines
}

// kindsByFirstWord has NkNone for a word that no row begins with, and for an empty one, because the row of NkNone is empty.
func kindsByFirstWord() map[string]api.Kind {
	kinds := map[string]api.Kind{}
	for kind, row := range rows {
		first, _, _ := strings.Cut(row, " ")
		kinds[first] = api.Kind(kind)
	}
	return kinds
}

// nodeOf returns the node whose row line is; ok is false if it is no row.
func nodeOf(line string, kinds map[string]api.Kind) (n api.Node, ok bool) {
	defer func() {
		if recover() != nil {
			n, ok = api.Node{}, false
		}
	}()
	words := strings.Split(line, " ")
	kind := kinds[words[0]]
	if kind == api.NkNone {
		giveUp()
	}
	unread := &reader{words}
	return unread.node(kind), true
}

// giveUp ends the reading of a line, however deep inside of it: nodeOf recovers.
func giveUp() {
	panic(api.ErrForm)
}

// reader has the words of a line that are not read yet. Its methods give up where something else stands than they read.
type reader struct{ words []string }

func (r *reader) node(kind api.Kind) api.Node {
	n := api.Node{Kind: kind}
	for _, part := range strings.Fields(rows[kind]) {
		switch part {
		case "A", "B":
			n.In = append(n.In, r.number())
		case "A..":
			n.In = r.numbers()
		case "S":
			n.Shape = r.numbers()
		case "N":
			n.N = r.number()
		case "P":
			n.Pad = r.number()
		default:
			r.word(part)
		}
	}
	r.end()
	return n
}

func (r *reader) next() string {
	if len(r.words) == 0 {
		giveUp()
	}
	word := r.words[0]
	r.words = r.words[1:]
	return word
}

func (r *reader) word(want string) {
	if r.next() != want {
		giveUp()
	}
}

func (r *reader) number() int {
	number, ok := numberOf(r.next())
	if !ok {
		giveUp()
	}
	return number
}

// numbers reads as many as there are, at least one.
func (r *reader) numbers() []int {
	l := []int{r.number()}
	for r.hasNumber() {
		l = append(l, r.number())
	}
	return l
}

func (r *reader) hasNumber() bool {
	if len(r.words) == 0 {
		return false
	}
	_, ok := numberOf(r.words[0])
	return ok
}

func (r *reader) end() {
	if len(r.words) > 0 {
		giveUp()
	}
}

// numberOf returns the number that word is. What it would be written as tells whether there is a sign, or a zero too many.
func numberOf(word string) (int, bool) {
	if len(word) > maxDigits {
		return 0, false
	}
	number, err := strconv.Atoi(word)
	if err != nil || number < 0 || strconv.Itoa(number) != word {
		return 0, false
	}
	return number, true
}
