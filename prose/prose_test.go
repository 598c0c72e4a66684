package prose

import (
	"fmt"
	"math"
	"math/rand"
	"reflect"
	"regexp"
	"slices"
	"strconv"
	"strings"
	"testing"

	"balustrade/api"
	"balustrade/expr"
	"balustrade/lex"
	"balustrade/parse"
	"balustrade/tree"
)

var (
	signList = strings.Fields("|| && == != < <= > >= + - +% -% * / % *%")
	kindList = []string{"", "int", "bool", "arr"}
	// byStrength are the operators of each strength, from 1 on.
	byStrength = [...][]string{nil, {"||"}, {"&&"}, {"==", "!=", "<", "<=", ">", ">="}, {"+", "-", "+%", "-%"}, {"*", "/", "%", "*%"}}
	// singles are expressions of strength 7, as a tree's text and as a text.
	singles = [][2]string{{"7", "7"}, {"true", "true"}, {"false", "false"}, {"nil", "nil"}, {"x", "x"}, {"(at x 0)", "x[0]"}, {"(len x)", "len(x)"}, {"(new 5)", "new(5)"}, {"(call f)", "f()"}, {"(call f 1 x)", "f(1, x)"}}
	oddInts = []int{math.MinInt, math.MinInt + 1, -1 << 32, -16, -1, 0, 1, 2, 3, 16, 17, 18, 1 << 16, 1 << 32, 1<<32 + 1, math.MaxInt}
)

// forms are texts of what a kind has, by the chapter's words: a digit is that
// kid, S the name, N the operator's sign, K the word of the kind of values, and
// ~ kids parted by commas. Tabs are told by lines, behind all.
var forms = [...]string{
	api.NNil: "nil", api.NVar: "S", api.NBin: "0 N 1", api.NNeg: "-0", api.NNot: "!0", api.NIndex: "0[1]", api.NLen: "len(0)", api.NNew: "new(0)", api.NCall: "S(~)",
	api.NLet: "var S = 0;", api.NSet: "S = 0;", api.NPut: "S[0] = 1;", api.NIf: "if 0 1", api.NWhile: "while 0 1", api.NFor: "for S = 0, 1 2",
	api.NBreak: "break;", api.NContinue: "continue;", api.NReturn: "return 0;", api.NPrint: "print 0;", api.NDo: "0;", api.NParam: "S K",
}

// brackets are, by the strength of what a kid is of (0: an NIndex), whether
// kids of the strengths from 1 on are in brackets, on the left and on the right.
var brackets = [...][2]string{
	0: {"((((((.", "......."},
	1: {".......", "(......"},
	2: {"(......", "((....."},
	3: {"(((....", "(((...."},
	4: {"(((....", "((((..."},
	5: {"((((...", "(((((.."},
	6: {"(((((..", ""},
}

// strengthByWords tells a strength by lists of what has it.
func strengthByWords(n api.Node) int {
	switch {
	case n.Kind == 5:
		for s, l := range byStrength {
			if n.N >= 1 && n.N <= 16 && slices.Contains(l, signList[n.N-1]) {
				return s
			}
		}
		return 0
	case n.Kind == 6 || n.Kind == 7:
		return 6
	case n.Kind >= 1 && n.Kind <= 11:
		return 7
	}
	return 0
}

// textByForms tells the text of the node at a place, without bytes 9.
func textByForms(l []api.Node, at int) string {
	n := l[at]
	kids := make([]string, len(n.Kids))
	for i, k := range n.Kids {
		kids[i] = textByForms(l, k)
		row := strengthByWords(n)
		if n.Kind == api.NIndex {
			row = 0
		}
		if s := strengthByWords(l[k]); n.Kind >= api.NBin && n.Kind <= api.NIndex && brackets[row][i][s-1] == '(' {
			kids[i] = "(" + kids[i] + ")"
		}
	}
	form := ""
	switch n.Kind {
	case api.NNum:
		return fmt.Sprint(n.N)
	case api.NBool:
		return []string{"false", "true"}[n.N]
	case api.NBlock:
		return "{\n" + strings.Join(append(kids, "}"), "\n")
	case api.NFunc:
		last := len(kids) - 1
		return "fn " + n.S + "(" + strings.Join(kids[:last], ", ") + ") " + kindList[n.N] + " " + kids[last] + "\n"
	case api.NProg:
		return strings.Join(kids, "")
	case api.NIf:
		form = forms[n.Kind] + []string{"", " else 2"}[len(kids)-2]
	default:
		form = forms[n.Kind]
	}
	var s strings.Builder
	for _, c := range form {
		switch {
		case c >= '0' && c <= '9':
			s.WriteString(kids[c-'0'])
		case c == 'S':
			s.WriteString(n.S)
		case c == 'N':
			s.WriteString(signList[n.N-1])
		case c == 'K':
			s.WriteString(kindList[n.N])
		case c == '~':
			s.WriteString(strings.Join(kids, ", "))
		default:
			s.WriteRune(c)
		}
	}
	return s.String()
}

// textByWords tells the text of a tree that is Right: each line has as many
// bytes 9 as blocks are open where it begins, but for those that it ends first.
func textByWords(l []api.Node) string {
	text := textByForms(l, len(l)-1)
	var s strings.Builder
	open := 0
	for line := range strings.Lines(text) {
		s.WriteString(strings.Repeat("\t", open-len(line)+len(strings.TrimLeft(line, "}"))))
		s.WriteString(line)
		open += strings.Count(line, "{") - strings.Count(line, "}")
	}
	return s.String()
}

// planter reads a tree from its text as layer 6 tells it; names there are none of its words.
type planter struct {
	parts []string
	l     []api.Node
}

var wordParts = regexp.MustCompile(`[()]|[^() ]+`)

// plant tells the tree of such a text; its nodes have all sorts of places.
func plant(text string) []api.Node {
	p := &planter{parts: wordParts.FindAllString(text, -1)}
	p.node()
	return p.l
}

func (p *planter) next() string {
	s := p.parts[0]
	p.parts = p.parts[1:]
	return s
}

func (p *planter) node() int {
	n := api.Node{}
	if s := p.next(); s != "(" {
		n = leaf(s)
	} else {
		n = p.begin()
		for p.parts[0] != ")" {
			n.Kids = append(n.Kids, p.node())
		}
		p.next()
	}
	n.At = len(p.l) * 7 % 5
	p.l = append(p.l, n)
	return len(p.l) - 1
}

func leaf(s string) api.Node {
	if n, err := strconv.Atoi(s); err == nil {
		return api.Node{Kind: api.NNum, N: n}
	}
	switch s {
	case "false":
		return api.Node{Kind: api.NBool}
	case "true":
		return api.Node{Kind: api.NBool, N: 1}
	case "nil":
		return api.Node{Kind: api.NNil}
	}
	return api.Node{Kind: api.NVar, S: s}
}

var begins = map[string]api.Node{
	"neg": {Kind: 6}, "not": {Kind: 7}, "at": {Kind: 8}, "len": {Kind: 9}, "new": {Kind: 10}, "call": {Kind: 11, S: "?"}, "var": {Kind: 12, S: "?"}, "set": {Kind: 13, S: "?"}, "put": {Kind: 14, S: "?"}, "if": {Kind: 15}, "while": {Kind: 16}, "for": {Kind: 17, S: "?"},
	"break": {Kind: 18}, "continue": {Kind: 19}, "return": {Kind: 20}, "print": {Kind: 21}, "do": {Kind: 22}, "block": {Kind: 23}, "fn": {Kind: 25, S: "?"}, "prog": {Kind: 26},
}

func (p *planter) begin() api.Node {
	s := p.next()
	if op := slices.Index(signList, s); op >= 0 {
		return api.Node{Kind: api.NBin, N: op + 1}
	}
	n, ok := begins[s]
	if !ok {
		return api.Node{Kind: api.NParam, S: s, N: slices.Index(kindList, p.next())}
	}
	if n.S != "" {
		n.S = p.next()
	}
	if n.Kind == api.NFunc {
		n.N = slices.Index(kindList, p.next())
	}
	return n
}

// inProgram tells a tree's text with statements in a function's block.
func inProgram(statements string) string {
	return "(prog (fn f int (block " + statements + ")))"
}

// inText tells the text of inProgram's tree.
func inText(statements string) string {
	return "fn f() int {\n" + statements + "}\n"
}

// clone copies a list with all that it holds.
func clone(l []api.Node) []api.Node {
	c := slices.Clone(l)
	for i := range c {
		c[i].Kids = slices.Clone(c[i].Kids)
	}
	return c
}

// shuffled tells the same tree in another order of its list, kids ahead.
func shuffled(dice *rand.Rand, l []api.Node) []api.Node {
	waits, above := make([]int, len(l)), make([]int, len(l))
	var ready []int
	for i, n := range l {
		if waits[i] = len(n.Kids); len(n.Kids) == 0 {
			ready = append(ready, i)
		}
		for _, k := range n.Kids {
			above[k] = i
		}
	}
	moved, out := make([]int, len(l)), []api.Node(nil)
	for len(ready) > 0 {
		at := dice.Intn(len(ready))
		i := ready[at]
		ready = slices.Delete(ready, at, at+1)
		n := clone(l[i : i+1])[0]
		for j := range n.Kids {
			n.Kids[j] = moved[n.Kids[j]]
		}
		n.At = dice.Intn(99)
		moved[i] = len(out)
		out = append(out, n)
		if waits[above[i]]--; i < len(l)-1 && waits[above[i]] == 0 {
			ready = append(ready, above[i])
		}
	}
	return out
}

// readExpr reads a text that is an expression.
func readExpr(text string) ([]api.Node, api.Fault) {
	l, f := lex.Tokens(text)
	if f.Err != 0 {
		return nil, f
	}
	return expr.Parse(l)
}

// hold holds all that is told of one list against what must be told, and the list against what it was.
func hold(t testing.TB, what string, l []api.Node) {
	t.Helper()
	was := clone(l)
	isText, isExpr, want := false, false, ""
	if tree.Right(l) {
		kind := l[len(l)-1].Kind
		isText, isExpr = kind == 26, kind >= 1 && kind <= 11
		if isText || isExpr {
			want = textByWords(l)
		}
	}
	holdAnswer(t, what+": Text", Text, l, want, isText)
	holdAnswer(t, what+": Expr", Expr, l, want, isExpr)
	if !reflect.DeepEqual(l, was) {
		t.Errorf("%.200s: the nodes are changed", what)
	}
	if isText {
		holdBack(t, what, l, Text, parse.Parse)
	}
	if isExpr {
		holdBack(t, what, l, Expr, readExpr)
	}
}

func holdAnswer(t testing.TB, what string, call func([]api.Node) (string, bool), l []api.Node, want string, is bool) {
	t.Helper()
	if !is {
		want = ""
	}
	if got, ok := call(l); got != want || ok != is {
		t.Errorf("%.200s: %.400q %v, want %.400q %v", what, got, ok, want, is)
	}
}

// holdBack reads what is put down of a tree, and puts down what was read.
func holdBack(t testing.TB, what string, l []api.Node, put func([]api.Node) (string, bool), read func(string) ([]api.Node, api.Fault)) {
	t.Helper()
	text, _ := put(l)
	a, f := read(text)
	if len(text) > api.MaxText {
		if a != nil || f != (api.Fault{Err: api.ErrLong}) {
			t.Errorf("%.200s: %d bytes are read: %v", what, len(text), f)
		}
		return
	}
	if f != (api.Fault{}) || len(a) != len(l) || tree.Text(a) != tree.Text(l) {
		t.Errorf("%.200s: %.400q is read as %.200q %v, not as %.200q", what, text, tree.Text(a), f, tree.Text(l))
		return
	}
	again, ok := put(a)
	b, g := read(again)
	if !ok || again != text || g != f || !tree.Alike(a, b) {
		t.Errorf("%.200s: %.400q, read, is put down as %.400q %v %v", what, text, again, ok, g)
	}
}

// holdExpr holds the text of an expression's tree, by its text of layer 6, against one written out.
func holdExpr(t testing.TB, planted, want string) {
	t.Helper()
	l := plant(planted)
	holdAnswer(t, planted, Expr, l, want, true)
	hold(t, planted, l)
}

// holdText holds the text of a program's tree likewise.
func holdText(t testing.TB, planted, want string) {
	t.Helper()
	l := plant(planted)
	holdAnswer(t, planted, Text, l, want, true)
	hold(t, planted, l)
}

// Promise 9.1: texts of expressions of each kind, written out.
func TestExpressions(t *testing.T) {
	for _, x := range append([][2]string{
		{"0", "0"}, {"9223372036854775807", "9223372036854775807"}, {"_", "_"}, {"a_b9", "a_b9"}, {strings.Repeat("n", 32), strings.Repeat("n", 32)}, {"word", "word"},
		{"(+ a b)", "a + b"}, {"(neg a)", "-a"}, {"(neg 9223372036854775807)", "-9223372036854775807"}, {"(- (neg 9223372036854775807) 1)", "-9223372036854775807 - 1"}, {"(neg 0)", "-0"}, {"(not b)", "!b"}, {"(not true)", "!true"},
		{"(at a 1)", "a[1]"}, {"(at (at a 1) 2)", "a[1][2]"}, {"(at a (at b (at c 0)))", "a[b[c[0]]]"}, {"(len nil)", "len(nil)"}, {"(new (len x))", "new(len(x))"},
		{"(call f)", "f()"}, {"(call f a)", "f(a)"}, {"(call f 1 2 3 4 5 6 7 8)", "f(1, 2, 3, 4, 5, 6, 7, 8)"}, {"(call f (call g) (call h (call i 1) 2))", "f(g(), h(i(1), 2))"}, {"(call main x)", "main(x)"},
		{"(* (+ a 1) (neg b))", "(a + 1) * -b"}, {"(- a (* b (neg (at c 1))))", "a - b * -c[1]"}, {"(|| (&& a (not b)) (== (+ c 1) (* d 2)))", "a && !b || c + 1 == d * 2"}, {"(&& (|| a b) (|| c d))", "(a || b) && (c || d)"},
		{"(- (- a b) c)", "a - b - c"}, {"(- a (- b c))", "a - (b - c)"}, {"(< (< a b) c)", "(a < b) < c"}, {"(< a (< b c))", "a < (b < c)"}, {"(== (< a b) (>= c d))", "(a < b) == (c >= d)"},
		{"(/ (* (% a b) c) (*% d e))", "a % b * c / (d *% e)"}, {"(-% (+% a b) (+ c d))", "a +% b -% (c + d)"}, {"(|| (|| a b) (|| c d))", "a || b || (c || d)"},
	}, singles...) {
		holdExpr(t, x[0], x[1])
		holdText(t, inProgram("(print "+x[0]+")"), inText("\tprint "+x[1]+";\n"))
	}
}

// Promise 9.1: each operator's sign and strength, and kids of each strength beside it: in brackets on the left if they are weaker, or compare as it does; on the right if they are no stronger.
func TestBesideOperators(t *testing.T) {
	for s, signs := range byStrength {
		for _, sign := range signs {
			op := slices.Index(signList, sign) + 1
			if got := Strength(api.Node{Kind: api.NBin, N: op}); got != s {
				t.Errorf("%s: strength %d, want %d", sign, got, s)
			}
			holdExpr(t, "("+sign+" a b)", "a "+sign+" b")
			for k, others := range byStrength {
				for _, other := range others {
					left, right := "c "+other+" d", "c "+other+" d"
					if k < s || k == s && s == 3 {
						left = "(" + left + ")"
					}
					if k <= s {
						right = "(" + right + ")"
					}
					holdExpr(t, "("+sign+" ("+other+" c d) b)", left+" "+sign+" b")
					holdExpr(t, "("+sign+" a ("+other+" c d))", "a "+sign+" "+right)
					holdExpr(t, "("+sign+" ("+other+" c d) ("+other+" c d))", left+" "+sign+" "+right)
				}
			}
			for _, x := range append([][2]string{{"(neg c)", "-c"}, {"(not c)", "!c"}, {"(neg (+ c d))", "-(c + d)"}, {"(not (not c))", "!!c"}}, singles...) {
				holdExpr(t, "("+sign+" "+x[0]+" b)", x[1]+" "+sign+" b")
				holdExpr(t, "("+sign+" a "+x[0]+")", "a "+sign+" "+x[1])
			}
		}
	}
}

// fronts are nodes with a sign in front, as words and as signs.
var fronts = [][2]string{{"neg", "-"}, {"not", "!"}}

// Promise 9.1: what stands behind - and !: operators' in brackets, and no others; one of them behind the other.
func TestBehindSigns(t *testing.T) {
	for _, x := range fronts {
		for _, sign := range signList {
			holdExpr(t, "("+x[0]+" ("+sign+" a b))", x[1]+"(a "+sign+" b)")
			holdExpr(t, "("+sign+" ("+x[0]+" a) b)", x[1]+"a "+sign+" b")
		}
		for _, y := range singles {
			holdExpr(t, "("+x[0]+" "+y[0]+")", x[1]+y[1])
		}
		for _, y := range fronts {
			holdExpr(t, "("+x[0]+" ("+y[0]+" a))", x[1]+y[1]+"a")
			holdExpr(t, "("+x[0]+" ("+y[0]+" ("+x[0]+" (+ a b))))", x[1]+y[1]+x[1]+"(a + b)")
		}
		holdExpr(t, "("+x[0]+" (at (at a 1) 2))", x[1]+"a[1][2]")
		holdExpr(t, "("+x[0]+" (at ("+x[0]+" a) 1))", x[1]+"("+x[1]+"a)[1]")
	}
}

// Promise 9.1: what stands ahead of [ ]: in brackets what is weaker than 7, and nothing else; within them nothing is.
func TestAheadOfIndex(t *testing.T) {
	for _, sign := range signList {
		holdExpr(t, "(at ("+sign+" a b) c)", "(a "+sign+" b)[c]")
		holdExpr(t, "(at (at ("+sign+" a b) c) d)", "(a "+sign+" b)[c][d]")
		holdExpr(t, "(at a ("+sign+" b c))", "a[b "+sign+" c]")
		holdExpr(t, "("+sign+" (at a b) (at c d))", "a[b] "+sign+" c[d]")
	}
	for _, x := range fronts {
		holdExpr(t, "(at ("+x[0]+" a) b)", "("+x[1]+"a)[b]")
		holdExpr(t, "(at a ("+x[0]+" b))", "a["+x[1]+"b]")
		holdExpr(t, "(at ("+x[0]+" ("+x[0]+" a)) b)", "("+x[1]+x[1]+"a)[b]")
		holdExpr(t, "(at (at ("+x[0]+" a) b) c)", "("+x[1]+"a)[b][c]")
	}
	for _, x := range singles {
		holdExpr(t, "(at "+x[0]+" "+x[0]+")", x[1]+"["+x[1]+"]")
		holdExpr(t, "(at (at "+x[0]+" 1) 2)", x[1]+"[1][2]")
	}
}

// Promises 9.1, 9.2: no kid of another kind stands in brackets, whatever its strength.
func TestNoBracketsElsewhere(t *testing.T) {
	l := append([][2]string{{"(neg a)", "-a"}, {"(not a)", "!a"}}, singles...)
	for _, sign := range signList {
		l = append(l, [2]string{"(" + sign + " a b)", "a " + sign + " b"})
	}
	for _, x := range l {
		p, s := x[0], x[1]
		holdExpr(t, "(at a "+p+")", "a["+s+"]")
		holdExpr(t, "(len "+p+")", "len("+s+")")
		holdExpr(t, "(new "+p+")", "new("+s+")")
		holdExpr(t, "(call f "+p+")", "f("+s+")")
		holdExpr(t, "(call f "+p+" 1 "+p+")", "f("+s+", 1, "+s+")")
		for _, y := range [][2]string{
			{"(var v " + p + ")", "var v = " + s + ";"}, {"(set v " + p + ")", "v = " + s + ";"}, {"(put v " + p + " " + p + ")", "v[" + s + "] = " + s + ";"}, {"(print " + p + ")", "print " + s + ";"}, {"(return " + p + ")", "return " + s + ";"}, {"(do (call f " + p + "))", "f(" + s + ");"},
			{"(if " + p + " (block))", "if " + s + " {\n\t}"}, {"(if " + p + " (block) (block))", "if " + s + " {\n\t} else {\n\t}"}, {"(while " + p + " (block))", "while " + s + " {\n\t}"}, {"(for i " + p + " " + p + " (block))", "for i = " + s + ", " + s + " {\n\t}"},
		} {
			holdText(t, inProgram(y[0]), inText("\t"+y[1]+"\n"))
		}
	}
}

// statements are ones of each kind, as a tree's text and as a text whose lines begin where it does.
var statements = [][2]string{
	{"(var a 1)", "var a = 1;"}, {"(var a (+ b (* 1 c)))", "var a = b + 1 * c;"}, {"(set a nil)", "a = nil;"}, {"(set a (== b c))", "a = b == c;"}, {"(put a 1 2)", "a[1] = 2;"}, {"(put a (at b c) (at d e))", "a[b[c]] = d[e];"},
	{"(print (len x))", "print len(x);"}, {"(return a)", "return a;"}, {"(return (- (neg 9223372036854775807) 1))", "return -9223372036854775807 - 1;"}, {"(break)", "break;"}, {"(continue)", "continue;"},
	{"(do (call f))", "f();"}, {"(do (call g 1))", "g(1);"}, {"(do (call f 1 2 3 4 5 6 7 8))", "f(1, 2, 3, 4, 5, 6, 7, 8);"},
	{"(if a (block))", "if a {\n}"}, {"(if a (block) (block))", "if a {\n} else {\n}"}, {"(if (< a b) (block (break)) (block (continue) (do (call f))))", "if a < b {\n\tbreak;\n} else {\n\tcontinue;\n\tf();\n}"},
	{"(if a (block (if b (block))) (block))", "if a {\n\tif b {\n\t}\n} else {\n}"}, {"(if a (block (if b (block) (block))))", "if a {\n\tif b {\n\t} else {\n\t}\n}"}, {"(if a (block) (block (if b (block) (block))))", "if a {\n} else {\n\tif b {\n\t} else {\n\t}\n}"},
	{"(while true (block))", "while true {\n}"}, {"(while a (block (while b (block (do (call c))))))", "while a {\n\twhile b {\n\t\tc();\n\t}\n}"},
	{"(for i 0 9 (block))", "for i = 0, 9 {\n}"}, {"(for i (+ a 1) (len x) (block (put x i i)))", "for i = a + 1, len(x) {\n\tx[i] = i;\n}"},
}

// around are statements with blocks, and within them, where an @ stands, others.
var around = [][2]string{
	{"(if c (block @))", "if c {\n@}"}, {"(if c (block @) (block))", "if c {\n@} else {\n}"}, {"(if c (block) (block @))", "if c {\n} else {\n@}"}, {"(while (call f) (block @))", "while f() {\n@}"}, {"(for i 0 1 (block @))", "for i = 0, 1 {\n@}"},
}

// indented tells a text with a byte 9 more ahead of each line, and a byte 10 behind all.
func indented(s string) string {
	return "\t" + strings.ReplaceAll(s, "\n", "\n\t") + "\n"
}

// with tells the text with another where its @ stands.
func with(s, inner string) string {
	return strings.ReplaceAll(s, "@", inner)
}

// Promise 9.2: statements of each kind, alone, one behind the other, and within blocks of each kind, written out.
func TestStatements(t *testing.T) {
	var all, want string
	for _, x := range statements {
		p, s := x[0], indented(x[1])
		holdText(t, inProgram(p), inText(s))
		holdText(t, inProgram(p+" "+p+" (break)"), inText(s+s+"\tbreak;\n"))
		for _, y := range around {
			holdText(t, inProgram(with(y[0], p)), inText(indented(with(y[1], s))))
			holdText(t, inProgram(with(y[0], p+" (break) "+p)), inText(indented(with(y[1], s+"\tbreak;\n"+s))))
		}
		all, want = all+p, want+s
	}
	holdText(t, inProgram(all), inText(want))
}

// Promise 9.2: blocks one in another: bytes 9 as many as blocks are around, up to as high as trees may be.
func TestTabs(t *testing.T) {
	holdText(t, inProgram("(if a (block (while b (block (for i 0 1 (block (break))) (continue))) (print 1)) (block (print 2)))"),
		"fn f() int {\n\tif a {\n\t\twhile b {\n\t\t\tfor i = 0, 1 {\n\t\t\t\tbreak;\n\t\t\t}\n\t\t\tcontinue;\n\t\t}\n\t\tprint 1;\n\t} else {\n\t\tprint 2;\n\t}\n}\n")
	for i := range around {
		p, s := "", ""
		// A function's block, the function and the program are above them.
		for n := 0; 2*n+3 <= 200; n++ {
			holdText(t, inProgram(p), inText(s))
			y := around[(i+n*n)%len(around)]
			if n%2 == 0 {
				y = around[i]
			}
			p, s = with(y[0], p), indented(with(y[1], s))
		}
		holdAnswer(t, "too high", Text, plant(inProgram(p)), "", false)
	}
}

// Promise 9.2: functions of each number of parameters, each of the three kinds; programs of none, of one and of 200.
func TestFunctions(t *testing.T) {
	holdText(t, "(prog)", "")
	holdText(t, "(prog (fn main int (x arr) (block)))", "fn main(x arr) int {\n}\n")
	holdText(t, "(prog (fn f bool (a int) (b arr) (block (return a))) (fn g arr (block)) (fn f int (block)))", "fn f(a int, b arr) bool {\n\treturn a;\n}\nfn g() arr {\n}\nfn f() int {\n}\n")
	for n := range 9 {
		for k := 1; k <= 3; k++ {
			var p, s []string
			for i := range n {
				kind := kindList[(i+k)%3+1]
				p, s = append(p, fmt.Sprintf(" (p%d %s)", i, kind)), append(s, fmt.Sprintf("p%d %s", i, kind))
			}
			planted := "(fn f" + fmt.Sprint(n) + " " + kindList[k] + strings.Join(p, "") + " (block (break)))"
			want := "fn f" + fmt.Sprint(n) + "(" + strings.Join(s, ", ") + ") " + kindList[k] + " {\n\tbreak;\n}\n"
			holdText(t, "(prog "+planted+")", want)
			holdText(t, "(prog "+planted+" "+planted+")", want+want)
			holdText(t, "(prog"+strings.Repeat(" "+planted, 200)+")", strings.Repeat(want, 200))
		}
	}
}

// Promise 9.1: Strength of nodes of every kind, and of numbers that are no kind or no operator, whatever else they have.
func TestStrength(t *testing.T) {
	want := map[int]int{1: 7, 2: 7, 3: 7, 4: 7, 6: 6, 7: 6, 8: 7, 9: 7, 10: 7, 11: 7}
	operators := [...]int{0, 1, 2, 3, 3, 3, 3, 3, 3, 4, 4, 4, 4, 5, 5, 5, 5}
	numbers := slices.Clone(oddInts)
	for i := -30; i <= 60; i++ {
		numbers = append(numbers, i)
	}
	for _, kind := range numbers {
		for _, n := range numbers {
			s := want[kind]
			if kind == 5 && n >= 0 && n < len(operators) {
				s = operators[n]
			}
			for _, x := range []api.Node{{}, {S: "a"}, {S: "fn", At: -1}, {Kids: []int{0}}, {Kids: []int{-1, 9, math.MaxInt}, S: "\xff", At: math.MinInt}} {
				x.Kind, x.N = kind, n
				if got := Strength(x); got != s {
					t.Fatalf("%v: %d, want %d", x, got, s)
				}
			}
		}
	}
}

// roots are trees that are Right, with a root of each kind.
func roots() [][]api.Node {
	var l [][]api.Node
	for _, s := range []string{"7", "true", "nil", "x", "(+ a b)", "(neg a)", "(not a)", "(at a 1)", "(len a)", "(new 1)", "(call f 1)", "(var v 1)", "(set v 1)", "(put v 1 2)", "(if a (block))", "(if a (block) (block))", "(while a (block))", "(for i 0 1 (block))",
		"(break)", "(continue)", "(return 1)", "(print 1)", "(do (call f))", "(block)", "(block (break))", "(p int)", "(fn f int (p arr) (block))", "(prog)", "(prog (fn f int (block (print (* (+ a 1) (neg b))))))"} {
		l = append(l, plant(s))
	}
	return l
}

// Promises 9.1, 9.2: of trees with another root, of what is no tree that is Right, and of nothing: nothing and false.
func TestNothing(t *testing.T) {
	none := func(what string, call func([]api.Node) (string, bool), l []api.Node) {
		t.Helper()
		holdAnswer(t, what, call, l, "", false)
	}
	for _, l := range [][]api.Node{nil, {}, {{}}, {{Kind: -1}}, {{Kind: 27}}, {{Kind: math.MaxInt}}, {{Kind: 1}, {Kind: 1}}, {{Kind: 6}}, {{Kind: 6, Kids: []int{0}}}, {{Kind: 26, Kids: []int{0}}}, {{Kind: 1, N: -1}}, {{Kind: 2, N: 2}}, {{Kind: 4}}, {{Kind: 4, S: "fn"}}, {{Kind: 4, S: strings.Repeat("n", 33)}}, {{Kind: 1, At: -1}}, {{Kind: 26, At: -1}}, {{Kind: 26, N: 1}}, {{Kind: 26, S: "a"}}} {
		none(fmt.Sprint(l), Text, l)
		none(fmt.Sprint(l), Expr, l)
		hold(t, fmt.Sprint(l), l)
	}
	for _, l := range roots() {
		kind := l[len(l)-1].Kind
		if kind > api.NCall {
			none(tree.Text(l), Expr, l)
		}
		if kind != api.NProg {
			none(tree.Text(l), Text, l)
		}
		hold(t, tree.Text(l), l)
		holdSpoiled(t, l)
	}
	for _, op := range []int{-1, 0, 17} {
		none("no operator", Expr, []api.Node{{Kind: 1}, {Kind: 1}, {Kind: 5, N: op, Kids: []int{0, 1}}})
	}
	none("201 functions", Text, plant("(prog"+strings.Repeat(" (fn f int (block))", 201)+")"))
	none("nine arguments", Expr, plant("(call f"+strings.Repeat(" 1", 9)+")"))
}

// holdSpoiled holds what is told of a tree with one thing changed.
func holdSpoiled(t *testing.T, l []api.Node) {
	t.Helper()
	for i := range l {
		spoil := func(change func(n *api.Node)) {
			c := clone(l)
			change(&c[i])
			hold(t, fmt.Sprint(c), c)
		}
		for _, v := range append([]int{4, 5, 6, 8, 9, 11, 22, 23, 25, 26, 27, len(l) - 1, len(l)}, oddInts...) {
			spoil(func(n *api.Node) { n.Kind = v })
			spoil(func(n *api.Node) { n.N = v })
			spoil(func(n *api.Node) { n.At = v })
			spoil(func(n *api.Node) { n.Kids = append(n.Kids, v) })
			for j := range l[i].Kids {
				spoil(func(n *api.Node) { n.Kids[j] = v })
			}
		}
		for j := range l[i].Kids {
			spoil(func(n *api.Node) { n.Kids = slices.Delete(n.Kids, j, j+1) })
		}
		for _, s := range []string{"", "a", "fn", "a b", "9", "(", "\xff", strings.Repeat("n", 32), strings.Repeat("n", 33)} {
			spoil(func(n *api.Node) { n.S = s })
		}
		hold(t, "a part", l[:i])
	}
}

// tower tells a tree of a height, in which each row of words is over the next one, again and again, and x at the end.
func tower(height int, words ...string) []api.Node {
	s := "x"
	for i := height - 2; i >= 0; i-- {
		s = strings.ReplaceAll(words[i%len(words)], "@", s)
	}
	return plant(s)
}

// Promises 9.1, 9.3: trees as high as may be are put down and read back: no text of theirs is too deep; those that are higher are not put down.
func TestHighest(t *testing.T) {
	pieces := []string{"(neg @)", "(not @)", "(at @ 0)", "(at 0 @)", "(len @)", "(call f 1 @)", "(|| @ a)", "(|| a @)", "(< @ a)", "(< a @)", "(* @ a)", "(* a @)", "(+ @ a)", "(+ a @)"}
	for _, a := range pieces {
		for _, b := range pieces {
			for _, height := range []int{199, 200} {
				l := tower(height, a, b)
				if slices.Max(tree.Heights(l)) != height {
					t.Fatalf("%s over %s is not %d high", a, b, height)
				}
				hold(t, a+" over "+b, l)
			}
			l := tower(201, a, b)
			holdAnswer(t, "201 high", Expr, l, "", false)
			l = tower(196, a, b)
			s := tree.Text(l)
			hold(t, "within a program", plant(inProgram("(put v "+s+" 1) (return "+s+")")))
		}
	}
	// Levels of blocks and of what is in them, together.
	for blocks := 0; blocks <= 97; blocks++ {
		for over := range 2 {
			s := tree.Text(tower(196-2*blocks, "(at @ 0)", "(neg @)"))
			s = strings.Repeat("(neg ", over) + s + strings.Repeat(")", over)
			l := plant(inProgram(strings.Repeat("(while a (block ", blocks) + "(print " + s + ")" + strings.Repeat("))", blocks)))
			if tree.Whole(l) != (over == 0) {
				t.Fatalf("%d blocks, %d over: Whole is %v", blocks, over, tree.Whole(l))
			}
			hold(t, "blocks", l)
		}
	}
}

// Promise 9.3: texts up to as long as may be read are read back; longer ones are put down, too.
func TestLongest(t *testing.T) {
	for n := api.MaxText - 2; n <= api.MaxText+2; n++ {
		planted := strings.Repeat("(break) ", 7000) + "(print 1)"
		want := strings.Repeat("\tbreak;\n", 7000) + "\tprint 1;\n"
		for n-len(inText(want)) > 32 {
			planted, want = planted+" (set a b)", want+"\ta = b;\n"
		}
		name := strings.Repeat("n", n-len(inText(want))-len("\t = 1;\n"))
		planted, want = planted+" (set "+name+" 1)", want+"\t"+name+" = 1;\n"
		if got := len(inText(want)); got != n {
			t.Fatalf("%d bytes, not %d", got, n)
		}
		holdText(t, inProgram(planted), inText(want))
	}
	holdText(t, inProgram(strings.Repeat("(print (+ 1 2)) ", 1<<14)), inText(strings.Repeat("\tprint 1 + 2;\n", 1<<14)))
	hold(t, "wide", plant("(prog (fn f int (block"+strings.Repeat(" (while a (block", 90)+strings.Repeat(" (break)", 10000)+strings.Repeat("))", 90)+")))"))
}

// small tells all expressions of n nodes that have kids, over x and f().
func small(n int) []string {
	if n == 0 {
		return []string{"x"}
	}
	var l []string
	for _, a := range small(n - 1) {
		for _, w := range []string{"neg", "not", "len", "call f"} {
			l = append(l, "("+w+" "+a+")")
		}
	}
	for left := range n {
		for _, a := range small(left) {
			for _, b := range small(n - 1 - left) {
				for _, w := range []string{"||", "&&", "<", "==", "+", "-", "*", "/", "at"} {
					l = append(l, "("+w+" "+a+" "+b+")")
				}
			}
		}
	}
	return l
}

// Promises 9.1, 9.3: all small expressions: they are read back, and none of the brackets that stand around a kid can be left out.
func TestSmallExpressions(t *testing.T) {
	for n := range 4 {
		for _, s := range small(n) {
			l := plant(s)
			hold(t, s, l)
			text, _ := Expr(l)
			holdNeeded(t, text, s)
		}
	}
}

// holdNeeded asks that a text without any of its brackets is no text of that tree, but those behind words.
func holdNeeded(t *testing.T, text, planted string) {
	t.Helper()
	var open []int
	for i := range text {
		switch text[i] {
		case '(':
			open = append(open, i)
		case ')':
			from := open[len(open)-1]
			open = open[:len(open)-1]
			if from > 0 && text[from-1] >= 'a' && text[from-1] <= 'z' {
				continue
			}
			less := text[:from] + text[from+1:i] + text[i+1:]
			if a, f := readExpr(less); f.Err == 0 && tree.Text(a) == planted {
				t.Errorf("%q is read as %q is", less, text)
			}
		}
	}
}

// maker makes trees in any order, as their texts of layer 6.
type maker struct{ dice *rand.Rand }

func (m maker) one(l ...string) string { return l[m.dice.Intn(len(l))] }

func (m maker) name() string { return m.one("a", "b", "x1", "_", "fnx", "Arr", "n9") }

func (m maker) expression(deep int) string {
	n := m.dice.Intn(12)
	if deep == 0 {
		n %= 4
	}
	switch n {
	case 0, 1:
		return m.name()
	case 2:
		return fmt.Sprint(m.dice.Int63() >> m.dice.Intn(64))
	case 3:
		return m.one("true", "false", "nil")
	case 4, 5:
		return "(" + m.one("neg", "not", "len", "new") + " " + m.expression(deep-1) + ")"
	case 6:
		s := "(call " + m.name()
		for range m.dice.Intn(9) {
			s += " " + m.expression(deep-1)
		}
		return s + ")"
	case 7:
		return "(at " + m.expression(deep-1) + " " + m.expression(deep-1) + ")"
	}
	return "(" + m.one(signList...) + " " + m.expression(deep-1) + " " + m.expression(deep-1) + ")"
}

func (m maker) block(deep int) string {
	s := "(block"
	for range m.dice.Intn(4) {
		s += " " + m.statement(deep)
	}
	return s + ")"
}

func (m maker) statement(deep int) string {
	n := m.dice.Intn(10)
	if deep == 0 {
		n %= 6
	}
	a, b := m.expression(3), m.expression(2)
	switch n {
	case 0, 1:
		return "(" + m.one("var", "set") + " " + m.name() + " " + a + ")"
	case 2:
		return "(put " + m.name() + " " + a + " " + b + ")"
	case 3:
		return "(do (call " + m.name() + " " + a + " " + b + "))"
	case 4:
		return m.one("(break)", "(continue)")
	case 5:
		return "(" + m.one("return", "print") + " " + a + ")"
	case 6:
		return "(if " + a + " " + m.block(deep-1) + ")"
	case 7:
		return "(if " + a + " " + m.block(deep-1) + " " + m.block(deep-1) + ")"
	case 8:
		return "(while " + a + " " + m.block(deep-1) + ")"
	}
	return "(for " + m.name() + " " + a + " " + b + " " + m.block(deep-1) + ")"
}

func (m maker) program() string {
	s := "(prog"
	for range m.dice.Intn(4) {
		s += " (fn " + m.name() + " " + m.one("int", "bool", "arr")
		for range m.dice.Intn(9) {
			s += " (" + m.name() + " " + m.one("int", "bool", "arr") + ")"
		}
		s += " " + m.block(4) + ")"
	}
	return s + ")"
}

// Promises 9.1 to 9.3: trees made at random, in any order of their lists.
func TestMadeTrees(t *testing.T) {
	m := maker{rand.New(rand.NewSource(9))}
	for i := range 3000 {
		s := m.expression(6)
		if i%3 == 0 {
			s = m.program()
		}
		l := plant(s)
		hold(t, s, l)
		other := shuffled(m.dice, l)
		if tree.Text(other) != s {
			t.Fatalf("%s: shuffled it is %s", s, tree.Text(other))
		}
		hold(t, s, other)
	}
}

// Promise 9.3: what was read of a text, put down and read again is the same node by node, but for where it stands.
func TestReadTexts(t *testing.T) {
	texts := []string{
		"", " # nothing", "fn main(x arr) int { print len(x); }", "fn main(x arr)int{if true{print (a+b)*c-d;}else{} for i=0,len(x){break;}}",
		"fn f(a int,b arr)bool{var c=((1));c=a;b[(c)]=(2);f((1),nil);if(true){}else{break;}while(c<2){continue;}for i=(0),(c){print((i));}return!(false);}fn g()int{}",
	}
	m := maker{rand.New(rand.NewSource(10))}
	for range 1000 {
		text, _ := Text(plant(m.program()))
		l, _ := lex.Tokens(text)
		spread := ""
		for _, x := range l {
			spread += x.Text + m.one(" ", "\n", "\t \t", " # fn f() {\n", "\r\n")
		}
		texts = append(texts, spread)
	}
	for _, text := range texts {
		a, f := parse.Parse(text)
		if f != (api.Fault{}) {
			t.Fatalf("%q: %v", text, f)
		}
		put, ok := Text(a)
		b, g := parse.Parse(put)
		if !ok || g != f || !tree.Alike(a, b) {
			t.Errorf("%q is put down as %q %v", text, put, g)
		}
		hold(t, text, a)
	}
}

// P1: lists of nodes at random, and one that is as high as it is long.
func TestAnyNodes(t *testing.T) {
	dice := rand.New(rand.NewSource(11))
	for range 100000 {
		l := make([]api.Node, dice.Intn(5))
		for i := range l {
			l[i] = api.Node{Kind: dice.Intn(29) - 1, N: dice.Intn(18) - 1, S: []string{"", "a"}[dice.Intn(2)], At: dice.Intn(9) - 1}
			for range dice.Intn(3) {
				l[i].Kids = append(l[i].Kids, dice.Intn(5)-1)
			}
		}
		hold(t, fmt.Sprint(l), l)
	}
	l := []api.Node{{Kind: api.NNum}}
	for len(l) < 1<<20 {
		l = append(l, api.Node{Kind: api.NNeg, Kids: []int{len(l) - 1}})
	}
	holdAnswer(t, "much too high", Expr, l, "", false)
	holdAnswer(t, "much too high", Text, l, "", false)
}

// Promises 9.1 to 9.3, and P1: what is read of any text.
func FuzzProse(f *testing.F) {
	for _, s := range []string{"(a+1)*-b", "fn main(x arr) int { print len(x); }", "fn f(a int) bool { if a { } else { while b { } } }", "a[1][-2](", ""} {
		f.Add(s)
	}
	f.Fuzz(func(t *testing.T, text string) {
		for _, read := range []func(string) ([]api.Node, api.Fault){parse.Parse, readExpr} {
			if a, f := read(text); f.Err == 0 {
				hold(t, text, a)
			}
		}
	})
}

// The chapter's example.
func ExampleExpr() {
	// Of a, 1, a + 1, b, -b and the whole.
	fmt.Println(Expr([]api.Node{{Kind: api.NVar, S: "a"}, {Kind: api.NNum, N: 1}, {Kind: api.NBin, N: api.Add, Kids: []int{0, 1}}, {Kind: api.NVar, S: "b"}, {Kind: api.NNeg, Kids: []int{3}}, {Kind: api.NBin, N: api.Mul, Kids: []int{2, 4}}}))
	// Output:
	// (a + 1) * -b true
}
