package tree

import (
	"fmt"
	"math"
	"reflect"
	"regexp"
	"slices"
	"strconv"
	"strings"
	"testing"

	"balustrade/api"
	"balustrade/lex"
)

// has is what a kind has, by the chapter's table; kids are told by a letter
// each: e an expression, c a call, s a statement, b a block, p a parameter, f
// a function, g a program, and ? what is of no kind.
type has struct {
	word        string
	named       bool
	least, most int
	kids        string
}

// chapter is the chapter's table, row by row.
var chapter = [...]has{
	1:  {least: 0, most: math.MaxInt},
	2:  {least: 0, most: 1},
	3:  {word: "nil"},
	4:  {named: true},
	5:  {least: 1, most: 16, kids: "[ec][ec]"},
	6:  {word: "neg", kids: "[ec]"},
	7:  {word: "not", kids: "[ec]"},
	8:  {word: "at", kids: "[ec][ec]"},
	9:  {word: "len", kids: "[ec]"},
	10: {word: "new", kids: "[ec]"},
	11: {word: "call", named: true, kids: "[ec]{0,8}"},
	12: {word: "var", named: true, kids: "[ec]"},
	13: {word: "set", named: true, kids: "[ec]"},
	14: {word: "put", named: true, kids: "[ec][ec]"},
	15: {word: "if", kids: "[ec]bb?"},
	16: {word: "while", kids: "[ec]b"},
	17: {word: "for", named: true, kids: "[ec][ec]b"},
	18: {word: "break"},
	19: {word: "continue"},
	20: {word: "return", kids: "[ec]"},
	21: {word: "print", kids: "[ec]"},
	22: {word: "do", kids: "c"},
	23: {word: "block", kids: "s*"},
	24: {named: true, least: 1, most: 3},
	25: {word: "fn", named: true, least: 1, most: 3, kids: "p{0,8}b"},
	26: {word: "prog", kids: "f{0,200}"},
}

const letters = "?eeeeeeeeeecsssssssssssbpfg"

var (
	kidForms  = compileKids()
	wordParts = regexp.MustCompile(`[()]|[^() ]+`)
	signList  = strings.Fields("|| && == != < <= > >= + - +% -% * / % *%")
	kindList  = []string{"", "int", "bool", "arr"}
	keyList   = strings.Fields("fn var if else while for break continue return print len new true false nil int bool arr")
	oddInts   = []int{math.MinInt, math.MinInt + 1, -1 << 32, -27, -1, 0, 1, 2, 3, 4, 15, 16, 17, 26, 27, 1 << 32, 1<<32 + 1, math.MaxInt - 1, math.MaxInt}
)

func compileKids() []*regexp.Regexp {
	var l []*regexp.Regexp
	for _, h := range chapter {
		l = append(l, regexp.MustCompile("^(?:"+h.kids+")$"))
	}
	return l
}

// planter reads a tree's text back, in which no name is a word of the chapter's table.
type planter struct {
	parts []string
	l     []api.Node
}

// plant tells the tree of a text; its nodes have all sorts of places.
func plant(text string) []api.Node {
	p := &planter{parts: wordParts.FindAllString(text, -1)}
	p.node()
	return p.l
}

func (p *planter) next() string {
	s := p.parts[0]
	p.parts = p.parts[1:]
	return s
}

func (p *planter) node() int {
	n := api.Node{}
	if s := p.next(); s != "(" {
		n = leaf(s)
	} else {
		n = p.begin()
		for p.parts[0] != ")" {
			n.Kids = append(n.Kids, p.node())
		}
		p.next()
	}
	n.At = len(p.l) * 7 % 5
	p.l = append(p.l, n)
	return len(p.l) - 1
}

func leaf(s string) api.Node {
	if n, err := strconv.Atoi(s); err == nil {
		return api.Node{Kind: 1, N: n}
	}
	switch s {
	case "false":
		return api.Node{Kind: 2}
	case "true":
		return api.Node{Kind: 2, N: 1}
	case "nil":
		return api.Node{Kind: 3}
	}
	return api.Node{Kind: 4, S: s}
}

func (p *planter) begin() api.Node {
	s := p.next()
	if op := slices.Index(signList, s); op >= 0 {
		return api.Node{Kind: 5, N: op + 1}
	}
	for kind, h := range chapter {
		if h.word != s {
			continue
		}
		n := api.Node{Kind: kind}
		if h.named {
			n.S = p.next()
		}
		if kind == 25 {
			n.N = slices.Index(kindList, p.next())
		}
		return n
	}
	return api.Node{Kind: 24, S: s, N: slices.Index(kindList, p.next())}
}

// programs are ordinary ones, with nodes of every kind.
func programs() []string {
	return []string{
		"(prog)",
		"(prog (fn main int (x arr) (block)))",
		"(prog (fn f int (p arr) (block (return (*% (len p) 2)) (break))))",
		"(prog (fn f bool (block (return true))) (fn g arr (a int) (b bool) (c arr) (block (return nil))) (fn main int (x arr) (block (do (call f)) (print (at (call g 1 (not false) (new 7)) (neg a))))))",
		"(prog (fn main int (x arr) (block (var n 0) (for i (+ 0 1) (len x) (block (if (== (at x i) 2) (block (continue)) (block (set n (+ n 1)) (put x i (- n i)))) (if (&& true (< i n)) (block (break))))) (while (|| (>= n 1) (!= n 3)) (block (do (call main nil)))) (return n))))",
	}
}

// expressions and statements of every kind, each of them a tree of its own.
func pieces() []string {
	l := []string{
		"0", "7", "9223372036854775807", "false", "true", "nil", "x", "_", "at", "(neg 1)", "(not b)", "(at x (at y 0))", "(len x)", "(new 5)", "(new (call f))",
		"(call f)", "(call f 1)", "(call f 1 2 3 4 5 6 7 8)", "(call f (call g) (neg (call h x)) nil)", "(var n 0)", "(set n (+ n 1))", "(put x 0 (neg 1))",
		"(if b (block))", "(if b (block (break)) (block))", "(if (call f) (block) (block (if true (block))))", "(while true (block (continue)))", "(for i 0 (len x) (block (print i)))",
		"(break)", "(continue)", "(return 1)", "(print x)", "(do (call f))", "(do (call f 1 (call g)))", "(block)", "(block (break) (break) (break) (break) (break) (break) (break) (break) (break) (break))",
		"(p int)", "(q bool)", "(r arr)", "(fn f int (block))", "(fn f bool (a int) (b bool) (c arr) (d int) (e bool) (g arr) (h int) (i bool) (block (return true)))", "(fn f arr (block (return nil)))",
	}
	for _, s := range signList {
		l = append(l, "("+s+" x 1)", "("+s+" ("+s+" a b) ("+s+" c d))")
	}
	return l
}

func texts() []string {
	return append(programs(), pieces()...)
}

// sample tells a tree whose root is of the kind.
func sample(kind int) []api.Node {
	for _, s := range texts() {
		if l := plant(s); l[len(l)-1].Kind == kind {
			return l
		}
	}
	panic(kind)
}

// over tells a tree with a root over others, one behind the other.
func over(root api.Node, parts ...[]api.Node) []api.Node {
	var l []api.Node
	for _, p := range parts {
		base := len(l)
		for _, n := range clone(p) {
			for i := range n.Kids {
				n.Kids[i] += base
			}
			l = append(l, n)
		}
		root.Kids = append(root.Kids, len(l)-1)
	}
	return append(l, root)
}

// times lists a tree many times.
func times(n int, l []api.Node) [][]api.Node {
	return slices.Repeat([][]api.Node{l}, n)
}

// tower tells a tree of a height, of one kid each.
func tower(height int) []api.Node {
	l := []api.Node{{Kind: api.NNum}}
	for len(l) < height {
		l = append(l, api.Node{Kind: api.NNeg, Kids: []int{len(l) - 1}})
	}
	return l
}

// clone copies a list with all that it holds.
func clone(l []api.Node) []api.Node {
	c := slices.Clone(l)
	for i := range c {
		c[i].Kids = slices.Clone(c[i].Kids)
	}
	return c
}

// isTreeByWords counts for each node how often it is a kid.
func isTreeByWords(l []api.Node) bool {
	for at := range l {
		count := 0
		for behind, n := range l {
			for _, k := range n.Kids {
				if k < 0 || k >= behind {
					return false
				}
				if k == at {
					count++
				}
			}
		}
		if at < len(l)-1 && count != 1 {
			return false
		}
	}
	return len(l) > 0
}

// heightsByWords tells heights in the list's order, of a tree.
func heightsByWords(l []api.Node) []int {
	var out []int
	for _, n := range l {
		h := 1
		for _, k := range n.Kids {
			h = max(h, out[k]+1)
		}
		out = append(out, h)
	}
	return out
}

// isRightByWords asks of a list all that the chapter does, by its table.
func isRightByWords(l []api.Node) bool {
	if !isTreeByWords(l) || slices.Max(heightsByWords(l)) > 200 {
		return false
	}
	for _, n := range l {
		if n.Kind < 1 || n.Kind > 26 || n.At < 0 {
			return false
		}
		h := chapter[n.Kind]
		if h.named && !lex.Name(n.S) || !h.named && n.S != "" || n.N < h.least || n.N > h.most {
			return false
		}
		if !kidForms[n.Kind].MatchString(kidLetters(l, n)) {
			return false
		}
	}
	return true
}

func kidLetters(l []api.Node, n api.Node) string {
	s := ""
	for _, k := range n.Kids {
		if kind := l[k].Kind; kind < 1 || kind > 26 {
			s += "?"
		} else {
			s += letters[kind : kind+1]
		}
	}
	return s
}

// textByWords tells the text of the node at a place, of a tree that is Right.
func textByWords(l []api.Node, at int) string {
	n := l[at]
	var parts []string
	switch n.Kind {
	case 1:
		return fmt.Sprint(n.N)
	case 2:
		return []string{"false", "true"}[n.N]
	case 3:
		return "nil"
	case 4:
		return n.S
	case 5:
		parts = []string{signList[n.N-1]}
	case 24:
		parts = []string{n.S, kindList[n.N]}
	case 25:
		parts = []string{"fn", n.S, kindList[n.N]}
	default:
		if parts = []string{chapter[n.Kind].word}; chapter[n.Kind].named {
			parts = append(parts, n.S)
		}
	}
	for _, k := range n.Kids {
		parts = append(parts, textByWords(l, k))
	}
	return "(" + strings.Join(parts, " ") + ")"
}

// hold holds all that is told of one list against what must be told, and the
// list itself against what it was.
func hold(t *testing.T, what string, l []api.Node, right bool) {
	t.Helper()
	was := clone(l)
	whole, text, heights := false, "", []int(nil)
	if right {
		whole, text, heights = l[len(l)-1].Kind == 26, textByWords(l, len(l)-1), heightsByWords(l)
	}
	if got := Right(l); got != right {
		t.Errorf("%s: Right: %v", what, got)
	}
	if got := Whole(l); got != whole {
		t.Errorf("%s: Whole: %v", what, got)
	}
	if got := Heights(l); !slices.Equal(got, heights) {
		t.Errorf("%s: Heights: %.200v, want %.200v", what, got, heights)
	}
	if got := Text(l); got != text {
		t.Errorf("%s: Text: %.200q, want %.200q", what, got, text)
	}
	if !Alike(l, was) || !Alike(was, l) {
		t.Errorf("%s: not Alike to itself", what)
	}
	if !slices.EqualFunc(l, was, func(m, n api.Node) bool { return reflect.DeepEqual(m, n) }) {
		t.Errorf("%s: changed", what)
	}
}

// holdAsked holds a list against what the chapter's words say of it.
func holdAsked(t *testing.T, l []api.Node) bool {
	t.Helper()
	right := isRightByWords(l)
	hold(t, fmt.Sprintf("%.300v", l), l, right)
	return right
}

// Promises 6.1, 6.2: trees with nodes of every kind: they are Right, and their text is the one they were read from.
func TestTreesOfEveryKind(t *testing.T) {
	seen := map[int]bool{}
	for _, s := range texts() {
		l := plant(s)
		hold(t, s, l, true)
		if got := Text(l); got != s {
			t.Errorf("Text: %q, want %q", got, s)
		}
		for _, n := range l {
			seen[n.Kind] = true
		}
	}
	if len(seen) != 26 {
		t.Errorf("of %d kinds", len(seen))
	}
}

// Promise 6.1: heights written out, of a node whose kids are of unlike heights, and of a tree whose nodes don't stand kid by kid.
func TestHeightsWrittenOut(t *testing.T) {
	for text, want := range map[string][]int{
		"1": {1}, "(neg 1)": {1, 2}, "(+ 1 2)": {1, 1, 2}, "(+ (neg 1) 2)": {1, 2, 1, 3}, "(+ 1 (neg 2))": {1, 1, 2, 3}, "(prog)": {1}, "(block)": {1},
		"(call f (neg (neg x)) 1 (neg x))":  {1, 2, 3, 1, 1, 2, 4},
		"(prog (fn f int (p arr) (block)))": {1, 1, 2, 3},
	} {
		if got := Heights(plant(text)); !slices.Equal(got, want) {
			t.Errorf("%s: %v, want %v", text, got, want)
		}
	}
	l := []api.Node{{Kind: api.NNum, N: 1}, {Kind: api.NNum, N: 2}, {Kind: api.NNeg, Kids: []int{0}}, {Kind: api.NNot, Kids: []int{1}}, {Kind: api.NBin, N: api.Sub, Kids: []int{3, 2}}}
	hold(t, "crosswise", l, true)
	if h, s := Heights(l), Text(l); !slices.Equal(h, []int{1, 1, 2, 2, 3}) || s != "(- (not 2) (neg 1))" {
		t.Errorf("crosswise: %v, %s", h, s)
	}
}

// Promise 6.1: the empty list has no root.
func TestNoNodes(t *testing.T) {
	hold(t, "nil", nil, false)
	hold(t, "none", []api.Node{}, false)
	if !Alike(nil, nil) || !Alike(nil, []api.Node{}) || !Alike([]api.Node{}, nil) {
		t.Error("lists of none are not Alike")
	}
}

// Promise 6.1: kids that are not ahead of their node, not in the list, or kids of more than one, and nodes that are nobody's kids.
func TestNoTrees(t *testing.T) {
	one, call := api.Node{Kind: api.NNum, N: 1}, func(kids ...int) api.Node { return api.Node{Kind: api.NCall, S: "f", Kids: kids} }
	for _, l := range [][]api.Node{
		{call(0)}, {call(-1)}, {call(1)}, {call(math.MinInt)}, {call(math.MaxInt)},
		{one, call(1)}, {one, call(2)}, {one, call(-1)}, {one, call(0, 1)}, {one, call(0, -1)}, {one, call(0, 2)}, {one, call(-1, 0)}, {one, call(1 << 32)}, {one, call(0, math.MaxInt)}, {one, call(0, math.MinInt)},
		{call(1), one}, {call(1), call()}, {call(1), call(0)}, {call(1), one, call(0)}, {one, call(2), call(0)}, {one, call(2), call(0, 1)},
		{one, call(0, 0)}, {one, one, call(0, 0)}, {one, one, call(0, 1, 0)}, {one, one, call(1, 1)}, {one, call(0), call(0)}, {one, call(0), call(0, 1)}, {one, call(0), call(1, 0)}, {one, one, call(0), call(0, 1, 2)},
		{one, one}, {one, call()}, {one, one, call(0)}, {one, one, call(1)}, {one, call(0), one}, {one, call(), call(1)}, {one, call(0), call()}, {one, one, one, call(0, 2)},
	} {
		hold(t, fmt.Sprint(l), l, false)
	}
	for _, l := range [][]api.Node{{one}, {call()}, {one, call(0)}, {one, one, call(0, 1)}, {one, one, call(1, 0)}, {one, call(0), call(1)}, {one, one, call(1), call(0, 2)}, {one, one, call(0), call(1, 2)}} {
		hold(t, fmt.Sprint(l), l, true)
	}
}

// Promise 6.1: all lists of up to three nodes with up to two kids each, wherever those are.
func TestShortLists(t *testing.T) {
	rights := 0
	for size := range 4 {
		lists := [][]int{nil}
		for a := -1; a <= size; a++ {
			lists = append(lists, []int{a})
			for b := -1; b <= size; b++ {
				lists = append(lists, []int{a, b})
			}
		}
		l := make([]api.Node, size)
		var fill func(at int)
		fill = func(at int) {
			if at == size {
				if right := isTreeByWords(l); right != Right(l) {
					t.Errorf("%v: Right: %v", l, !right)
				} else if right {
					rights++
				}
				return
			}
			for _, kids := range lists {
				l[at] = api.Node{Kind: api.NCall, S: "f", Kids: kids}
				fill(at + 1)
			}
		}
		fill(0)
	}
	// Of three there are those in a row, and those of two kids, in either order.
	if rights != 1+1+3 {
		t.Errorf("%d are Right", rights)
	}
}

// Promise 6.1: each kind with kids of all kinds, none to four of them.
func TestKidsOfEachKind(t *testing.T) {
	kids := [][]api.Node{plant("1"), plant("x"), plant("(call f)"), plant("(break)"), plant("(block)"), plant("(p int)"), plant("(fn f int (block))"), plant("(prog)")}
	var fill func(root api.Node, parts [][]api.Node, most int) int
	fill = func(root api.Node, parts [][]api.Node, most int) int {
		l := over(root, parts...)
		rights := 0
		if right := isRightByWords(l); right != Right(l) {
			t.Errorf("%v: Right: %v", l, !right)
		} else if right {
			rights++
		}
		if len(parts) < most {
			for _, k := range kids {
				rights += fill(root, append(slices.Clip(parts), k), most)
			}
		}
		return rights
	}
	for kind := range chapter[1:] {
		root := api.Node{Kind: kind + 1, N: chapter[kind+1].least}
		if chapter[kind+1].named {
			root.S = "f"
		}
		if rights := fill(root, nil, 4); rights == 0 {
			t.Errorf("kind %d: none is Right", kind+1)
		}
	}
}

// Promise 6.1: a kid too many and one too few, for each kind, written out.
func TestKidsTooManyAndTooFew(t *testing.T) {
	counts := map[int]string{1: "", 2: "", 3: "", 4: "", 5: "ee", 6: "e", 7: "e", 8: "ee", 9: "e", 10: "e", 12: "e", 13: "e", 14: "ee", 15: "eb", 16: "eb", 17: "eeb", 18: "", 19: "", 20: "e", 21: "e", 22: "c", 24: "", 25: "b"}
	trees := map[rune][]api.Node{'e': plant("1"), 'c': plant("(call f)"), 'b': plant("(block)")}
	holdKids := func(kind int, kids string, right bool) {
		t.Helper()
		root := api.Node{Kind: kind, N: chapter[kind].least}
		if chapter[kind].named {
			root.S = "f"
		}
		var parts [][]api.Node
		for _, k := range kids {
			parts = append(parts, trees[k])
		}
		hold(t, fmt.Sprintf("kind %d, kids %s", kind, kids), over(root, parts...), right)
	}
	for kind, kids := range counts {
		holdKids(kind, kids, true)
		for _, more := range []string{"e", "c"} {
			holdKids(kind, kids+more, false)
			holdKids(kind, more+kids, false)
		}
		if kind != 15 {
			holdKids(kind, kids+"b", false)
		}
		if kids != "" {
			holdKids(kind, kids[1:], false)
			holdKids(kind, kids[:len(kids)-1], false)
			holdKids(kind, "", false)
		}
	}
	holdKids(15, "ebb", true)
	holdKids(15, "ebbb", false)
	holdKids(15, "bb", false)
	holdKids(15, "bbe", false)
	holdKids(15, "beb", false)
	holdKids(17, "ebe", false)
	holdKids(22, "e", false)
}

// Promise 6.1: calls of up to 8 expressions, functions of up to 8 parameters, programs of up to 200 functions, blocks of any statements.
func TestHowMany(t *testing.T) {
	call, fn := api.Node{Kind: api.NCall, S: "f"}, api.Node{Kind: api.NFunc, S: "f", N: api.Int}
	one, param, block := plant("(neg x)"), plant("(p arr)"), plant("(block (break))")
	for _, n := range []int{0, 1, 7, 8, 9, 10, 100} {
		hold(t, fmt.Sprint("call of ", n), over(call, times(n, one)...), n <= 8)
		hold(t, fmt.Sprint("function of ", n), over(fn, append(times(n, param), block)...), n <= 8)
		hold(t, fmt.Sprint("function without a block, of ", n), over(fn, times(n, param)...), false)
		hold(t, fmt.Sprint("function with parameters behind, of ", n), over(fn, append([][]api.Node{block}, times(n, param)...)...), n == 0)
	}
	f := plant("(fn f int (p arr) (block))")
	for _, n := range []int{0, 1, 199, 200, 201, 202, 1000} {
		hold(t, fmt.Sprint("program of ", n), over(api.Node{Kind: api.NProg}, times(n, f)...), n <= 200)
		hold(t, fmt.Sprint("block of ", n), over(api.Node{Kind: api.NBlock}, times(n, plant("(print 1)"))...), true)
	}
}

// Promise 6.1: an NDo of each kind: of an NCall alone.
func TestDoOfWhatIsNoCall(t *testing.T) {
	for kind := range chapter[1:] {
		hold(t, fmt.Sprint("do of ", kind+1), over(api.Node{Kind: api.NDo}, sample(kind+1)), kind+1 == api.NCall)
	}
}

// Promise 6.1: what is no kind is none, as a root and as a kid.
func TestNoKinds(t *testing.T) {
	for _, kind := range []int{0, 27, -1, -26, 28, 255, 256, 257, 1<<32 + 1, 1 << 62, math.MinInt, math.MinInt + 1, math.MaxInt} {
		n := api.Node{Kind: kind}
		hold(t, fmt.Sprint("kind ", kind), []api.Node{n}, false)
		for _, root := range []api.Node{{Kind: api.NNeg}, {Kind: api.NCall, S: "f"}, {Kind: api.NBlock}, {Kind: api.NDo}, {Kind: api.NProg}, {Kind: api.NPrint}, n} {
			hold(t, fmt.Sprint("kind ", kind, " below ", root.Kind), over(root, []api.Node{n}), false)
		}
		hold(t, fmt.Sprint("kind ", kind, " over a number"), over(n, plant("1")), false)
	}
}

// Promise 6.1: for each kind the least and the greatest N, with one less and one more, and far off ones.
func TestNumbersOfEachKind(t *testing.T) {
	for kind := range chapter[1:] {
		kind++
		l, h := sample(kind), chapter[kind]
		root := &l[len(l)-1]
		for _, n := range append([]int{h.least, h.most, h.least - 1, max(h.most, h.most+1)}, oddInts...) {
			root.N = n
			hold(t, fmt.Sprintf("kind %d, N %d", kind, n), l, h.least <= n && n <= h.most)
		}
	}
	for _, kind := range []int{3, 4, 6, 7, 8, 9, 10, 11, 12, 13, 14, 15, 16, 17, 18, 19, 20, 21, 22, 23, 26} {
		if chapter[kind].least != 0 || chapter[kind].most != 0 {
			t.Errorf("kind %d has numbers", kind)
		}
	}
}

// Promise 6.1: for each kind names, and what is none; of one without a name nothing else than no name.
func TestNamesOfEachKind(t *testing.T) {
	names := []string{"a", "z", "A", "Z", "_", "x1", "_9", "fn2", "Fn", "NIL", "at", "call", "put", "set", "do", "block", "prog", "neg", "not", strings.Repeat("n", 32), "_" + strings.Repeat("9", 31), strings.Repeat("continue", 4)}
	wrong := append([]string{"1", "1a", " ", "a ", " a", "a b", "a-b", "a\n", "\x00", "a\x00", "ä", "aä", "\xff", "a\xff", "(", ")", "a.b", "+", "$", "#", "@", "[", "`", "{", "/", ":", strings.Repeat("n", 33), "_" + strings.Repeat("9", 32), strings.Repeat("n", 1<<20)}, keyList...)
	if len(keyList) != 18 {
		t.Errorf("%d key words", len(keyList))
	}
	for kind := range chapter[1:] {
		kind++
		l, named := sample(kind), chapter[kind].named
		root := &l[len(l)-1]
		for _, s := range names {
			root.S = s
			hold(t, fmt.Sprintf("kind %d, S %.40q", kind, s), l, named)
		}
		for _, s := range wrong {
			root.S = s
			hold(t, fmt.Sprintf("kind %d, S %.40q", kind, s), l, false)
		}
		root.S = ""
		hold(t, fmt.Sprintf("kind %d, no S", kind), l, !named)
	}
	var named []int
	for kind, h := range chapter {
		if h.named {
			named = append(named, kind)
		}
	}
	if want := []int{api.NVar, api.NCall, api.NLet, api.NSet, api.NPut, api.NFor, api.NParam, api.NFunc}; !slices.Equal(named, want) {
		t.Errorf("kinds with names: %v, want %v", named, want)
	}
}

// Promise 6.1: names are those of lex, at all texts of up to two bytes, and at words with a byte more or less.
func TestNamesAreThoseOfLex(t *testing.T) {
	holdName := func(s string) {
		t.Helper()
		if got, want := Right([]api.Node{{Kind: api.NVar, S: s}}), lex.Name(s); got != want {
			t.Errorf("NVar %.60q: %v, want %v", s, got, want)
		}
	}
	for a := range 256 {
		s := string([]byte{byte(a)})
		holdName(s)
		for b := range 256 {
			holdName(s + string([]byte{byte(b)}))
		}
		for _, w := range append([]string{strings.Repeat("n", 31), strings.Repeat("n", 32)}, keyList...) {
			holdName(w + s)
			holdName(s + w)
			holdName(w[:1] + s + w[1:])
			holdName(w[:len(w)-1])
			holdName(strings.ToUpper(w))
		}
	}
}

// Promise 6.1: an At of 0 or more, at the root and elsewhere.
func TestPlaces(t *testing.T) {
	for _, s := range texts() {
		l := plant(s)
		for i := range l {
			was := l[i].At
			for _, at := range oddInts {
				l[i].At = at
				hold(t, fmt.Sprintf("%s, At %d of node %d", s, at, i), l, at >= 0)
			}
			l[i].At = was
		}
	}
}

// Promise 6.1: heights of 200 and of 201, by each kind that can be within itself, and far from where the list ends.
func TestGreatHeights(t *testing.T) {
	for _, height := range []int{1, 2, 199, 200, 201, 202, 1000} {
		hold(t, fmt.Sprint("tower of ", height), tower(height), height <= 200)
		hold(t, fmt.Sprint("a call of it, and of others, of ", height), over(api.Node{Kind: api.NCall, S: "f"}, plant("1"), tower(height), plant("(neg 1)")), height <= 199)
		hold(t, fmt.Sprint("a program of it, of ", height), over(api.Node{Kind: api.NProg}, over(api.Node{Kind: api.NFunc, S: "f", N: 1}, over(api.Node{Kind: api.NBlock}, over(api.Node{Kind: api.NPrint}, tower(height)), plant("(break)"))), plant("(fn g int (block))")), height <= 196)
	}
	loop := plant("(block)")
	for range 98 {
		loop = over(api.Node{Kind: api.NBlock}, over(api.Node{Kind: api.NWhile}, plant("true"), loop))
	}
	fn := over(api.Node{Kind: api.NFunc, S: "f", N: 1}, loop)
	hold(t, "program of 199", over(api.Node{Kind: api.NProg}, fn), true)
	loop = over(api.Node{Kind: api.NBlock}, over(api.Node{Kind: api.NIf}, plant("true"), loop, plant("(block)")))
	hold(t, "function of 200", over(api.Node{Kind: api.NFunc, S: "f", N: 1}, loop), true)
	hold(t, "program of 201", over(api.Node{Kind: api.NProg}, over(api.Node{Kind: api.NFunc, S: "f", N: 1}, loop)), false)
}

// Promise 6.1: Right without Whole, of each kind of root.
func TestRightWithoutWhole(t *testing.T) {
	for kind := range chapter[1:] {
		l := sample(kind + 1)
		if !Right(l) || Whole(l) != (kind+1 == api.NProg) {
			t.Errorf("kind %d: Right %v, Whole %v", kind+1, Right(l), Whole(l))
		}
	}
	l := plant("(prog (fn f int (block)))")
	l[0].N = 1
	hold(t, "a program with an N too many", l, false)
}

// Promises 6.1, 6.2: trees with one field of one node changed.
func TestOneFieldChanged(t *testing.T) {
	rights, wrongs := 0, 0
	for _, s := range texts() {
		l := plant(s)
		try := func() {
			t.Helper()
			if holdAsked(t, l) {
				rights++
			} else {
				wrongs++
			}
		}
		for i := range l {
			was := l[i]
			for _, n := range append([]int{18, 22, 23, 24, 25}, oddInts...) {
				l[i].Kind = n
				try()
				l[i] = was
				l[i].N = n
				try()
				l[i] = was
			}
			for _, s := range []string{"", "a", "main", "fn", "2", strings.Repeat("b", 33)} {
				l[i].S = s
				try()
				l[i] = was
			}
			for k := -1; k <= len(was.Kids); k++ {
				for _, more := range []int{-1, 0, i - 1, i, i + 1, len(l)} {
					l[i].Kids = slices.Insert(slices.Clone(was.Kids), max(k, 0), more)
					try()
				}
				if 0 <= k && k < len(was.Kids) {
					l[i].Kids = slices.Delete(slices.Clone(was.Kids), k, k+1)
					try()
				}
			}
			l[i] = was
		}
	}
	if rights < 100 || wrongs < 1000 {
		t.Errorf("%d are Right, %d are not", rights, wrongs)
	}
}

// Promise 6.2: texts of each kind, written out by hand.
func TestTextsWrittenOut(t *testing.T) {
	x, one, call, block := api.Node{Kind: 4, S: "x"}, api.Node{Kind: 1, N: 1}, api.Node{Kind: 11, S: "g"}, api.Node{Kind: 23}
	for _, c := range []struct {
		root  api.Node
		parts []api.Node
		want  string
	}{
		{api.Node{Kind: 1}, nil, "0"},
		{api.Node{Kind: 1, N: 10}, nil, "10"},
		{api.Node{Kind: 1, N: 1234567890123456789}, nil, "1234567890123456789"},
		{api.Node{Kind: 1, N: math.MaxInt}, nil, "9223372036854775807"},
		{api.Node{Kind: 2}, nil, "false"},
		{api.Node{Kind: 2, N: 1}, nil, "true"},
		{api.Node{Kind: 3}, nil, "nil"},
		{x, nil, "x"},
		{api.Node{Kind: 4, S: "block"}, nil, "block"},
		{api.Node{Kind: 5, N: 16}, []api.Node{x, one}, "(*% x 1)"},
		{api.Node{Kind: 6}, []api.Node{one}, "(neg 1)"},
		{api.Node{Kind: 7}, []api.Node{x}, "(not x)"},
		{api.Node{Kind: 8}, []api.Node{x, one}, "(at x 1)"},
		{api.Node{Kind: 9}, []api.Node{x}, "(len x)"},
		{api.Node{Kind: 10}, []api.Node{one}, "(new 1)"},
		{call, nil, "(call g)"},
		{call, []api.Node{x}, "(call g x)"},
		{call, []api.Node{x, one, call}, "(call g x 1 (call g))"},
		{api.Node{Kind: 12, S: "n"}, []api.Node{one}, "(var n 1)"},
		{api.Node{Kind: 13, S: "n"}, []api.Node{one}, "(set n 1)"},
		{api.Node{Kind: 14, S: "n"}, []api.Node{x, one}, "(put n x 1)"},
		{api.Node{Kind: 15}, []api.Node{x, block}, "(if x (block))"},
		{api.Node{Kind: 15}, []api.Node{x, block, block}, "(if x (block) (block))"},
		{api.Node{Kind: 16}, []api.Node{x, block}, "(while x (block))"},
		{api.Node{Kind: 17, S: "i"}, []api.Node{one, x, block}, "(for i 1 x (block))"},
		{api.Node{Kind: 18}, nil, "(break)"},
		{api.Node{Kind: 19}, nil, "(continue)"},
		{api.Node{Kind: 20}, []api.Node{one}, "(return 1)"},
		{api.Node{Kind: 21}, []api.Node{x}, "(print x)"},
		{api.Node{Kind: 22}, []api.Node{call}, "(do (call g))"},
		{block, nil, "(block)"},
		{block, []api.Node{{Kind: 18}, {Kind: 19}}, "(block (break) (continue))"},
		{api.Node{Kind: 24, S: "at", N: 1}, nil, "(at int)"},
		{api.Node{Kind: 24, S: "p", N: 2}, nil, "(p bool)"},
		{api.Node{Kind: 24, S: "p", N: 3}, nil, "(p arr)"},
		{api.Node{Kind: 25, S: "f", N: 1}, []api.Node{block}, "(fn f int (block))"},
		{api.Node{Kind: 25, S: "f", N: 2}, []api.Node{{Kind: 24, S: "p", N: 3}, block}, "(fn f bool (p arr) (block))"},
		{api.Node{Kind: 25, S: "f", N: 3}, []api.Node{{Kind: 24, S: "p", N: 1}, {Kind: 24, S: "q", N: 2}, block}, "(fn f arr (p int) (q bool) (block))"},
		{api.Node{Kind: 26}, nil, "(prog)"},
	} {
		var parts [][]api.Node
		for _, p := range c.parts {
			parts = append(parts, []api.Node{p})
		}
		l := over(c.root, parts...)
		hold(t, c.want, l, true)
		if got := Text(l); got != c.want {
			t.Errorf("Text: %q, want %q", got, c.want)
		}
	}
}

// Promise 6.2: each operator's sign, in a text, too; nothing and 0 of others.
func TestSigns(t *testing.T) {
	for i, s := range signList {
		op := i + 1
		if Sign(op) != s || Op(s) != op {
			t.Errorf("operator %d: Sign %q, want %q; Op %d", op, Sign(op), s, Op(s))
		}
		l := over(api.Node{Kind: api.NBin, N: op}, plant("x"), plant("1"))
		if got := Text(l); got != "("+s+" x 1)" {
			t.Errorf("Text: %q", got)
		}
		for _, s := range []string{s + " ", " " + s, s + s, s + "\x00", s + "a"} {
			if got := Op(s); got != 0 && signList[got-1] != s {
				t.Errorf("Op(%q): %d", s, got)
			}
		}
	}
	for op, s := range map[int]string{api.Or: "||", api.And: "&&", api.Eq: "==", api.Ne: "!=", api.Lt: "<", api.Le: "<=", api.Gt: ">", api.Ge: ">=", api.Add: "+", api.Sub: "-", api.WAdd: "+%", api.WSub: "-%", api.Mul: "*", api.Div: "/", api.Mod: "%", api.WMul: "*%"} {
		if Sign(op) != s || Op(s) != op {
			t.Errorf("operator %d: Sign %q, want %q; Op %d", op, Sign(op), s, Op(s))
		}
	}
	for _, op := range []int{math.MinInt, -16, -1, 0, 17, 18, 256, 257, 1<<32 + 1, math.MaxInt} {
		if got := Sign(op); got != "" {
			t.Errorf("Sign(%d): %q", op, got)
		}
	}
	for _, s := range []string{"", " ", "|", "&", "=", "!", "/%", "%%", "===", "<>", "neg", "not", "-1", "x", "int", "\x00", "\xff", strings.Repeat("+", 1<<20)} {
		if got := Op(s); got != 0 {
			t.Errorf("Op(%.20q): %d", s, got)
		}
	}
}

// Promise 6.2: words of kinds of values.
func TestKinds(t *testing.T) {
	for kind, want := range map[int]string{0: "", api.Int: "int", api.Bool: "bool", api.Arr: "arr", 4: "", -1: "", 256: "", 257: "", 1<<32 + 1: "", math.MinInt: "", math.MaxInt: ""} {
		if got := Kind(kind); got != want {
			t.Errorf("Kind(%d): %q, want %q", kind, got, want)
		}
	}
}

// holdAlike holds Alike of two lists, in either order, against what it must tell.
func holdAlike(t *testing.T, what string, a, b []api.Node, want bool) {
	t.Helper()
	if ab, ba := Alike(a, b), Alike(b, a); ab != want || ba != want {
		t.Errorf("%s: %v, %v, want %v", what, ab, ba, want)
	}
}

// Promise 6.3: lists that differ in one field of one node, in At alone, or in their length.
func TestAlike(t *testing.T) {
	for _, s := range texts() {
		a := plant(s)
		for i := range a {
			b := clone(a)
			for _, at := range oddInts {
				b[i].At = at
				holdAlike(t, "At", a, b, true)
			}
			b[i].Kind++
			holdAlike(t, "Kind", a, b, false)
			b[i].Kind--
			b[i].N--
			holdAlike(t, "N", a, b, false)
			b[i].N++
			b[i].S += "_"
			holdAlike(t, "S", a, b, false)
			b[i].S = a[i].S
			b[i].Kids = append(slices.Clone(a[i].Kids), 0)
			holdAlike(t, "a kid more", a, b, false)
			for k := range a[i].Kids {
				b[i].Kids = slices.Delete(slices.Clone(a[i].Kids), k, k+1)
				holdAlike(t, "a kid less", a, b, false)
				b[i].Kids = slices.Clone(a[i].Kids)
				b[i].Kids[k]++
				holdAlike(t, "another kid", a, b, false)
			}
			b[i].Kids = a[i].Kids
			holdAlike(t, "as it was", a, b, true)
		}
		holdAlike(t, "one less", a, a[:len(a)-1], false)
		holdAlike(t, "one less ahead", a, a[1:], false)
		holdAlike(t, "one more", a, append(slices.Clip(a), api.Node{}), false)
		holdAlike(t, "none", a, nil, false)
	}
}

// Promise 6.3: of lists that are no trees, too; kids of none are the same, nil or not.
func TestAlikeOfNoTrees(t *testing.T) {
	odd := func() []api.Node {
		return []api.Node{{Kind: -1, Kids: []int{5, -7, 5}, N: math.MinInt, S: "\xff", At: -1}, {}, {Kind: math.MaxInt, Kids: []int{1}, S: "fn"}}
	}
	holdAlike(t, "odd ones", odd(), odd(), true)
	for _, change := range []func(n *api.Node){func(n *api.Node) { n.Kind = 0 }, func(n *api.Node) { n.N = math.MaxInt }, func(n *api.Node) { n.S = "\xfe" }, func(n *api.Node) { n.S = "" }, func(n *api.Node) { n.Kids = []int{5, 5, -7} }, func(n *api.Node) { n.Kids = nil }} {
		b := odd()
		change(&b[0])
		holdAlike(t, "odd ones", odd(), b, false)
	}
	holdAlike(t, "kids of none", []api.Node{{Kind: 18, Kids: nil}}, []api.Node{{Kind: 18, Kids: []int{}}}, true)
	holdAlike(t, "the other way round", []api.Node{{Kind: 18}, {Kind: 19}}, []api.Node{{Kind: 19}, {Kind: 18}}, false)
	hold(t, "kids of none", []api.Node{{Kind: 18, Kids: []int{}}}, true)
}

// Promise 6.3: trees of one text that are laid in another order are not Alike.
func TestAlikeAsksNodeByNode(t *testing.T) {
	a := []api.Node{{Kind: 1, N: 1}, {Kind: 1, N: 2}, {Kind: 5, N: 9, Kids: []int{0, 1}}}
	b := []api.Node{{Kind: 1, N: 2}, {Kind: 1, N: 1}, {Kind: 5, N: 9, Kids: []int{1, 0}}}
	hold(t, "in order", a, true)
	hold(t, "the other way round", b, true)
	holdAlike(t, "laid in another order", a, b, false)
	if Text(a) != "(+ 1 2)" || Text(b) != "(+ 1 2)" {
		t.Errorf("%q, %q", Text(a), Text(b))
	}
}

// partOf tells the part of a tree whose root is at a place.
func partOf(l []api.Node, at int) []api.Node {
	needed, places := map[int]bool{at: true}, map[int]int{}
	for i := at; i >= 0; i-- {
		for _, k := range l[i].Kids {
			needed[k] = needed[k] || needed[i]
		}
	}
	var part []api.Node
	for i, n := range l[:at+1] {
		if !needed[i] {
			continue
		}
		kids := n.Kids
		n.Kids = nil
		for _, k := range kids {
			n.Kids = append(n.Kids, places[k])
		}
		places[i] = len(part)
		part = append(part, n)
	}
	return part
}

// Promise 6.4: trees that are Alike have one text, and parts of a tree that is Right are Right, with a text that stands in the whole one's.
func TestWhatFollows(t *testing.T) {
	for _, l := range append([][]api.Node{tower(200), over(api.Node{Kind: api.NBin, N: 1}, tower(199), tower(7))}, plantAll(texts())...) {
		moved := clone(l)
		for i := range moved {
			moved[i].At = i*i + 1
		}
		holdAlike(t, "moved", l, moved, true)
		whole := Text(l)
		if whole == "" || Text(moved) != whole {
			t.Errorf("Alike: %q, %q", whole, Text(moved))
		}
		heights := Heights(l)
		for at := range l {
			part := partOf(l, at)
			hold(t, fmt.Sprintf("part %d of %s", at, whole), part, true)
			if s := Text(part); s == "" || !strings.Contains(whole, s) {
				t.Errorf("part %d of %s: %q", at, whole, s)
			}
			if h := Heights(part); h[len(h)-1] != heights[at] {
				t.Errorf("part %d of %s: height %d, want %d", at, whole, h[len(h)-1], heights[at])
			}
		}
	}
}

func plantAll(texts []string) [][]api.Node {
	var out [][]api.Node
	for _, s := range texts {
		out = append(out, plant(s))
	}
	return out
}

// Rules: heights that are told are one's own, and are told anew each time.
func TestHeightsAreOnesOwn(t *testing.T) {
	l := plant(texts()[3])
	a, b := Heights(l), Heights(l)
	for i := range a {
		a[i] = -9
	}
	if want := heightsByWords(l); !slices.Equal(b, want) || !slices.Equal(Heights(l), want) {
		t.Errorf("changed: %v", b)
	}
	hold(t, "behind a change", l, true)
}

// P1: lists that are long, much too high, or that would be gone through over and over.
func TestLongLists(t *testing.T) {
	const many = 1 << 20
	wide := make([]api.Node, many)
	for i := range wide {
		wide[i] = api.Node{Kind: api.NBreak}
	}
	root := api.Node{Kind: api.NBlock}
	for i := range wide {
		root.Kids = append(root.Kids, i)
	}
	wide = append(wide, root)
	if h := Heights(wide); !Right(wide) || len(h) != many+1 || h[many] != 2 || len(Text(wide)) != len("(block)")+many*len(" (break)") {
		t.Error("a wide block")
	}
	wide[many/2].At = -1
	if Right(wide) || Heights(wide) != nil || Text(wide) != "" {
		t.Error("a wide block with a wrong node")
	}
	high := tower(many)
	if Right(high) || Heights(high) != nil || Text(high) != "" || !Alike(high, high) {
		t.Error("a high tower")
	}
	twice := []api.Node{{Kind: api.NNum}}
	for i := range 190 {
		twice = append(twice, api.Node{Kind: api.NBin, N: 1, Kids: []int{i, i}})
	}
	hold(t, "kids twice", twice, false)
	all := []api.Node{{Kind: api.NNum}}
	for i := range 100 {
		n := api.Node{Kind: api.NCall, S: "f"}
		for k := range i + 1 {
			n.Kids = append(n.Kids, k)
		}
		all = append(all, n)
	}
	hold(t, "kids of all behind them", all, false)
	hold(t, "kids without end", []api.Node{{Kind: api.NNum}, {Kind: api.NCall, S: "f", Kids: make([]int, many)}}, false)
}

// P1 and all of 6: at lists made of whatever bytes.
func FuzzTree(f *testing.F) {
	f.Add([]byte{1, 0, 0, 0, 1, 0, 0, 0, 5, 1, 0, 2, 0, 1})
	f.Add([]byte{4, 0, 1, 0, 6, 0, 0, 1, 0, 23, 0, 0, 0, 16, 0, 0, 2, 1, 2})
	f.Fuzz(func(t *testing.T, data []byte) {
		next := func() int {
			if len(data) == 0 {
				return 0
			}
			b := data[0]
			data = data[1:]
			return int(int8(b))
		}
		var l []api.Node
		for len(data) > 0 && len(l) < 100 {
			n := api.Node{Kind: next(), N: next(), S: []string{"", "a", "fn", "2"}[next()&3]}
			for range next() & 15 {
				n.Kids = append(n.Kids, next())
			}
			l = append(l, n)
		}
		holdAsked(t, l)
	})
}

// The chapter's example.
func ExampleText() {
	l := []api.Node{{Kind: api.NVar, S: "x"}, {Kind: api.NNum, N: 1}, {Kind: api.NBin, N: api.Add, Kids: []int{0, 1}}}
	fmt.Println(Text(l))
	// Output: (+ x 1)
}
