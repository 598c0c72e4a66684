package expr

import (
	"fmt"
	"math"
	"math/rand"
	"reflect"
	"slices"
	"strconv"
	"strings"
	"testing"

	"balustrade/api"
	"balustrade/lex"
	"balustrade/tree"
)

var (
	keyList  = strings.Fields("fn var if else while for break continue return print len new true false nil int bool arr")
	signList = strings.Fields("|| && == != <= >= < > +% -% *% + - * / % ! = ( ) { } [ ] , ;")
	opList   = strings.Fields("|| && == != < <= > >= + - +% -% * / % *%")
	// beginners are words with which an expression can begin.
	beginners = strings.Fields("a 7 true false nil len new ( - !")
)

// allWords are tokens of every kind, as words.
func allWords() []string {
	return slices.Concat([]string{"a", "7"}, keyList, signList)
}

// strengthOf tells how strong an operator is, by the chapter's list; 0 of others.
func strengthOf(sign string) int {
	for i, s := range []string{"", "||", "&&", "== != < <= > >=", "+ - +% -%", "* / % *%"} {
		if slices.Contains(strings.Fields(s), sign) {
			return i
		}
	}
	return 0
}

func tokens(t testing.TB, text string) []api.Token {
	t.Helper()
	l, f := lex.Tokens(text)
	if f != (api.Fault{}) {
		t.Fatalf("%.100q: no tokens: %v", text, f)
	}
	return l
}

// item is something that is open in a machine: a sign in front (front), an
// operator behind its first part (op), or a bracket (its closing sign).
type item struct {
	what, close string
	node        api.Node
}

// machine reads an expression token by token, with a list of what is open in
// place of calls that ask themselves. want tells whether a part must come.
type machine struct {
	l       []api.Token
	at      int
	want    bool
	cur     int
	items   []item
	levels  int
	nodes   []api.Node
	heights []int
	fault   api.Fault
}

// readByWords tells the nodes that are laid, and what is wrong first, by the chapter's words.
func readByWords(l []api.Token) ([]api.Node, api.Fault) {
	m := &machine{l: l, want: true}
	for m.fault.Err == 0 {
		if t := m.l[m.at]; m.want {
			m.part(t)
		} else if m.behind(t) {
			break
		}
		m.at++
	}
	return m.nodes, m.fault
}

func (m *machine) fail(e api.Errno, at int) {
	if m.fault.Err == 0 {
		m.fault = api.Fault{Err: e, At: at}
	}
}

func (m *machine) push(what, close string, at int, n api.Node) {
	if what != "op" {
		if m.levels++; m.levels > 200 {
			m.fail(api.ErrDeep, at)
		}
	}
	m.items = append(m.items, item{what, close, n})
	m.want = true
}

func (m *machine) pop() api.Node {
	i := m.items[len(m.items)-1]
	m.items = m.items[:len(m.items)-1]
	if i.what != "op" {
		m.levels--
	}
	return i.node
}

func (m *machine) top() item {
	if len(m.items) == 0 {
		return item{}
	}
	return m.items[len(m.items)-1]
}

func (m *machine) lay(n api.Node) {
	h := 1
	for _, k := range n.Kids {
		h = max(h, m.heights[k]+1)
	}
	if h > 200 {
		m.fail(api.ErrDeep, n.At)
	}
	if m.fault.Err != 0 {
		return
	}
	m.nodes, m.heights = append(m.nodes, n), append(m.heights, h)
	m.cur, m.want = len(m.nodes)-1, false
}

// layOver lays a node with the last part as one more of its kids.
func (m *machine) layOver(n api.Node) {
	n.Kids = append(n.Kids, m.cur)
	m.lay(n)
}

func (m *machine) part(t api.Token) {
	switch {
	case t.Kind == api.TNum:
		m.lay(api.Node{Kind: api.NNum, N: t.N, At: t.At})
	case t.Kind == api.TName && m.l[m.at+1].Text != "(":
		m.lay(api.Node{Kind: api.NVar, S: t.Text, At: t.At})
	case t.Kind == api.TName:
		m.at++
		m.push("call", ")", m.l[m.at].At, api.Node{Kind: api.NCall, S: t.Text, At: t.At})
		if m.l[m.at+1].Text == ")" && m.fault.Err == 0 {
			m.at++
			m.lay(m.pop())
		}
	case t.Text == "true", t.Text == "false":
		m.lay(api.Node{Kind: api.NBool, N: len("false") - len(t.Text), At: t.At})
	case t.Text == "nil":
		m.lay(api.Node{Kind: api.NNil, At: t.At})
	case t.Text == "-", t.Text == "!":
		m.push("front", "", t.At, api.Node{Kind: map[string]int{"-": api.NNeg, "!": api.NNot}[t.Text], At: t.At})
	case t.Text == "(":
		m.push("(", ")", t.At, api.Node{})
	case t.Text == "len", t.Text == "new":
		m.at++
		if m.l[m.at].Text != "(" {
			m.fail(api.ErrWant, m.l[m.at].At)
			return
		}
		m.push("(", ")", m.l[m.at].At, api.Node{Kind: map[string]int{"len": api.NLen, "new": api.NNew}[t.Text], At: t.At})
	default:
		m.fail(api.ErrWant, t.At)
	}
}

// behind goes on behind a part, and tells whether all is read.
func (m *machine) behind(t api.Token) bool {
	if t.Text == "[" {
		m.push("[", "]", t.At, api.Node{Kind: api.NIndex, Kids: []int{m.cur}, At: t.At})
		return false
	}
	for m.top().what == "front" {
		m.layOver(m.pop())
	}
	s := strengthOf(t.Text)
	second := false
	for m.top().what == "op" {
		before := strengthOf(opList[m.top().node.N-1])
		second = second || s == 3 && before == 3
		if !second && before < s {
			break
		}
		m.layOver(m.pop())
	}
	switch {
	case s > 0 && !second:
		m.push("op", "", 0, api.Node{Kind: api.NBin, Kids: []int{m.cur}, N: slices.Index(opList, t.Text) + 1, At: t.At})
	case len(m.items) == 0 && t.Kind == api.TEnd:
		return true
	case m.top().what == "call" && t.Text == ",":
		i := &m.items[len(m.items)-1]
		if i.node.Kids = append(i.node.Kids, m.cur); len(i.node.Kids) == 8 {
			m.fail(api.ErrLong, m.l[m.at+1].At)
		}
		m.want = true
	case len(m.items) > 0 && t.Text == m.top().close:
		if n := m.pop(); n.Kind != 0 {
			m.layOver(n)
		}
	default:
		m.fail(api.ErrWant, t.At)
	}
	return false
}

// plain makes lists of none nil.
func plain(l []api.Node) []api.Node {
	var c []api.Node
	for _, n := range l {
		n.Kids = append([]int(nil), n.Kids...)
		c = append(c, n)
	}
	return c
}

func same(a, b []api.Node) bool {
	return reflect.DeepEqual(plain(a), plain(b))
}

// hold holds what is read of tokens against the nodes that must be laid and
// what must be wrong, and asks that the tokens are as they were.
func hold(t testing.TB, what string, l []api.Token, nodes []api.Node, fault api.Fault) {
	t.Helper()
	was := slices.Clone(l)
	place, whole := len(nodes)-1, nodes
	if fault.Err != 0 {
		place, whole = -1, nil
	}
	if a, f := Parse(l); !same(a, whole) || f != fault {
		t.Errorf("%s: Parse: %.300v %v, want %.300v %v", what, a, f, whole, fault)
	} else if f.Err == 0 && !tree.Right(a) {
		t.Errorf("%s: not Right: %.300v", what, a)
	}
	r := New(l)
	got := r.Expr()
	if r.Token().Kind != api.TEnd {
		r.Fail(api.ErrWant, r.Token().At)
		got = -1
	}
	if got != place || r.Fault() != fault || !same(r.Tree(), nodes) {
		t.Errorf("%s: Expr: %d %v %.300v, want %d %v %.300v", what, got, r.Fault(), r.Tree(), place, fault, nodes)
	}
	if !slices.Equal(l, was) {
		t.Errorf("%s: the tokens are changed", what)
	}
}

// holdText holds a text against the chapter's words, and tells whether it is one expression.
func holdText(t testing.TB, text string) bool {
	t.Helper()
	l := tokens(t, text)
	nodes, fault := readByWords(l)
	hold(t, fmt.Sprintf("%.200q", text), l, nodes, fault)
	return fault.Err == 0
}

// holdTree holds a text against the text of its tree.
func holdTree(t testing.TB, text, want string) {
	t.Helper()
	a, f := Parse(tokens(t, text))
	if got := tree.Text(a); got != want || f != (api.Fault{}) {
		t.Errorf("%.200q: %.200q %v, want %.200q", text, got, f, want)
	}
	holdText(t, text)
}

// holdFault holds a text against what is wrong in it.
func holdFault(t testing.TB, text string, e api.Errno, at int) {
	t.Helper()
	if a, f := Parse(tokens(t, text)); a != nil || f != (api.Fault{Err: e, At: at}) {
		t.Errorf("%.200q: %.200v %v, want %v at %d", text, a, f, e, at)
	}
	holdText(t, text)
}

// Promises 7.2, 7.3: trees of texts, written out.
func TestTrees(t *testing.T) {
	for _, x := range [][2]string{
		{"a-b*-c[1]", "(- a (* b (neg (at c 1))))"},
		{"0", "0"}, {"007", "7"}, {"9223372036854775807", "9223372036854775807"}, {"true", "true"}, {"false", "false"}, {"nil", "nil"}, {"x", "x"}, {"lens", "lens"}, {"_", "_"},
		{"f()", "(call f)"}, {"f(1)", "(call f 1)"}, {"f(a,g(),-b)", "(call f a (call g) (neg b))"}, {"f(1,2,3,4,5,6,7,8)", "(call f 1 2 3 4 5 6 7 8)"}, {"f((a))", "(call f a)"}, {"f(g(h(1)),2)", "(call f (call g (call h 1)) 2)"},
		{"len(a)", "(len a)"}, {"new(3)", "(new 3)"}, {"len(new(len(a)))", "(len (new (len a)))"}, {"new((3))", "(new 3)"}, {"len(a||b)", "(len (|| a b))"},
		{"(a)", "a"}, {"((((7))))", "7"}, {"(a+b)*c", "(* (+ a b) c)"}, {"a*(b+c)", "(* a (+ b c))"}, {"a-(b-c)", "(- a (- b c))"}, {"(a-b)-c", "(- (- a b) c)"}, {"(f)[1]", "(at f 1)"},
		{"-a", "(neg a)"}, {"!a", "(not a)"}, {"--a", "(neg (neg a))"}, {"!!a", "(not (not a))"}, {"-!-a", "(neg (not (neg a)))"}, {"!-7", "(not (neg 7))"}, {"- - - -a", "(neg (neg (neg (neg a))))"},
		{"-a*b", "(* (neg a) b)"}, {"a*-b", "(* a (neg b))"}, {"a- -b", "(- a (neg b))"}, {"a--b", "(- a (neg b))"}, {"a-!b", "(- a (not b))"}, {"!a&&!b", "(&& (not a) (not b))"}, {"!a==b", "(== (not a) b)"}, {"-a-b", "(- (neg a) b)"}, {"-(a-b)", "(neg (- a b))"}, {"!(a<b)", "(not (< a b))"},
		{"-a[1]", "(neg (at a 1))"}, {"(-a)[1]", "(at (neg a) 1)"}, {"!a[1][2]", "(not (at (at a 1) 2))"}, {"--a[-1]", "(neg (neg (at a (neg 1))))"}, {"-f(1)[2]", "(neg (at (call f 1) 2))"}, {"-(a)[1]", "(neg (at a 1))"},
		{"a[1]", "(at a 1)"}, {"a[1][2][3]", "(at (at (at a 1) 2) 3)"}, {"a[b[c[1]]]", "(at a (at b (at c 1)))"}, {"a[b][c[d]][e]", "(at (at (at a b) (at c d)) e)"}, {"a[(b)]", "(at a b)"}, {"a[b||c]", "(at a (|| b c))"},
		{"0[1]", "(at 0 1)"}, {"true[1]", "(at true 1)"}, {"false[1]", "(at false 1)"}, {"nil[1]", "(at nil 1)"}, {"f()[1]", "(at (call f) 1)"}, {"len(a)[1]", "(at (len a) 1)"}, {"new(3)[1]", "(at (new 3) 1)"}, {"(a+b)[1]", "(at (+ a b) 1)"},
		{"a+b[1]", "(+ a (at b 1))"}, {"a<b&&c<d", "(&& (< a b) (< c d))"}, {"(a<b)<c", "(< (< a b) c)"}, {"a<(b<c)", "(< a (< b c))"}, {"a==b||c==d&&e!=f", "(|| (== a b) (&& (== c d) (!= e f)))"}, {"a<b[c<d]", "(< a (at b (< c d)))"}, {"a<f(b<c,d<e)", "(< a (call f (< b c) (< d e)))"},
		{"a||b&&c==d+e*f", "(|| a (&& b (== c (+ d (* e f)))))"}, {"a*b+c==d&&e||f", "(|| (&& (== (+ (* a b) c) d) e) f)"}, {"a||b||c||d", "(|| (|| (|| a b) c) d)"}, {"a+%b-%c-d+e", "(+ (- (-% (+% a b) c) d) e)"}, {"a*b/c%d*%e", "(*% (% (/ (* a b) c) d) e)"},
		{" a # and\n +\tb\r\n", "(+ a b)"},
	} {
		holdTree(t, x[0], x[1])
	}
}

// Promises 7.2, 7.3: each operator against each other one; a second comparison ends the expression.
func TestOperatorsAgainstEachOther(t *testing.T) {
	for _, p := range opList {
		holdTree(t, "a"+p+"b", "("+p+" a b)")
		for _, q := range opList {
			text := "a " + p + " b " + q + " c"
			first, second := strengthOf(p), strengthOf(q)
			switch {
			case first == 3 && second == 3:
				holdFault(t, text, api.ErrWant, len("a "+p+" b "))
				holdFault(t, "("+text+")", api.ErrWant, len("(a "+p+" b "))
				holdTree(t, "(a "+p+" b) "+q+" c", "("+q+" ("+p+" a b) c)")
			case first < second:
				holdTree(t, text, "("+p+" a ("+q+" b c))")
				holdTree(t, "(a "+p+" b) "+q+" c", "("+q+" ("+p+" a b) c)")
			default:
				holdTree(t, text, "("+q+" ("+p+" a b) c)")
				holdTree(t, "a "+p+" (b "+q+" c)", "("+p+" a ("+q+" b c))")
			}
			for _, f := range []string{"-", "!"} {
				holdText(t, f+"a"+p+f+"b"+q+f+"c")
			}
			for _, o := range opList {
				holdText(t, text+" "+o+" d")
			}
		}
	}
}

// Promise 7.2: how nodes stand, and each one's At, written out.
func TestOrderAndAt(t *testing.T) {
	for text, want := range map[string][]api.Node{
		" a-b*-c[1]": {{Kind: api.NVar, S: "a", At: 1}, {Kind: api.NVar, S: "b", At: 3}, {Kind: api.NVar, S: "c", At: 6}, {Kind: api.NNum, N: 1, At: 8},
			{Kind: api.NIndex, Kids: []int{2, 3}, At: 7}, {Kind: api.NNeg, Kids: []int{4}, At: 5}, {Kind: api.NBin, N: api.Mul, Kids: []int{1, 5}, At: 4}, {Kind: api.NBin, N: api.Sub, Kids: []int{0, 6}, At: 2}},
		"a - b - c": {{Kind: api.NVar, S: "a"}, {Kind: api.NVar, S: "b", At: 4}, {Kind: api.NBin, N: api.Sub, Kids: []int{0, 1}, At: 2}, {Kind: api.NVar, S: "c", At: 8}, {Kind: api.NBin, N: api.Sub, Kids: []int{2, 3}, At: 6}},
		"f ( 1 , g ( ) , ! true )": {{Kind: api.NNum, N: 1, At: 4}, {Kind: api.NCall, S: "g", At: 8}, {Kind: api.NBool, N: 1, At: 18}, {Kind: api.NNot, Kids: []int{2}, At: 16},
			{Kind: api.NCall, S: "f", Kids: []int{0, 1, 3}}},
		"( ( len ( x ) ) ) + new ( false )": {{Kind: api.NVar, S: "x", At: 10}, {Kind: api.NLen, Kids: []int{0}, At: 4}, {Kind: api.NBool, At: 26}, {Kind: api.NNew, Kids: []int{2}, At: 20}, {Kind: api.NBin, N: api.Add, Kids: []int{1, 3}, At: 18}},
		"(nil) [a][b]":                      {{Kind: api.NNil, At: 1}, {Kind: api.NVar, S: "a", At: 7}, {Kind: api.NIndex, Kids: []int{0, 1}, At: 6}, {Kind: api.NVar, S: "b", At: 10}, {Kind: api.NIndex, Kids: []int{2, 3}, At: 9}},
	} {
		a, f := Parse(tokens(t, text))
		if !same(a, want) || f != (api.Fault{}) {
			t.Errorf("%q: %v %v, want %v", text, a, f, want)
		}
		holdText(t, text)
	}
}

// Promises 7.2, 7.3: each token where a part must come: those with which an expression can begin, and the others, which are wrong there.
func TestWhatCanBegin(t *testing.T) {
	for _, front := range []string{"", "(", "((", "f(", "f(1,", "len(", "new(", "a[", "a[1][", "- ", "! ", "-! ", "a + ", "a < ", "a || b && c == d - e * ", "-a *% "} {
		holdFault(t, front, api.ErrWant, len(front))
		for _, w := range allWords() {
			if slices.Contains(beginners, w) || front == "f(" && w == ")" {
				if _, f := Parse(tokens(t, front+w)); f.Err != 0 && f.At <= len(front) {
					t.Errorf("%q: %v", front+w, f)
				}
				holdText(t, front+w)
				continue
			}
			holdFault(t, front+w, api.ErrWant, len(front))
			holdFault(t, front+w+" a", api.ErrWant, len(front))
		}
	}
}

// Promises 7.2, 7.3: each token behind an expression, and behind one in brackets: operators and [ go on, all others are wrong, but for the bracket's own end, and a ( behind a name.
func TestWhatCanFollow(t *testing.T) {
	for _, x := range []struct{ front, close, also string }{
		{"7", "", ""}, {"true", "", ""}, {"false", "", ""}, {"nil", "", ""}, {"a", "", "("}, {"f()", "", ""}, {"a[1]", "", ""}, {"(a)", "", ""}, {"len(a)", "", ""}, {"new(1)", "", ""}, {"-7", "", ""}, {"!a", "", "("}, {"1+2", "", ""}, {"a*b", "", "("},
		{"(7", ")", ""}, {"((7)", ")", ""}, {"f(7", ")", ","}, {"f(1,7", ")", ","}, {"f(g(7)", ")", ","}, {"len(7", ")", ""}, {"new(a", ")", "("}, {"a[7", "]", ""}, {"(a[7]", ")", ""}, {"-(7", ")", ""}, {"f((7", ")", ""}, {"f(a[7", "]", ""}, {"a[f(7", ")", ","}, {"(1+2", ")", ""},
	} {
		if x.close == "" {
			if _, f := Parse(tokens(t, x.front)); f.Err != 0 {
				t.Errorf("%q: %v", x.front, f)
			}
		} else {
			holdFault(t, x.front+" ", api.ErrWant, len(x.front)+1)
		}
		for _, w := range allWords() {
			text := x.front + " " + w
			if strengthOf(w) > 0 || w == "[" || w == x.close || w == x.also {
				if _, f := Parse(tokens(t, text)); f.Err != 0 && f.At <= len(x.front)+1 {
					t.Errorf("%q: %v", text, f)
				}
				holdText(t, text)
				continue
			}
			holdFault(t, text, api.ErrWant, len(x.front)+1)
			holdFault(t, text+" b", api.ErrWant, len(x.front)+1)
		}
	}
	for _, w := range allWords() {
		if w != "(" {
			holdFault(t, "len "+w, api.ErrWant, 4)
			holdFault(t, "new "+w+" 1", api.ErrWant, 4)
		}
	}
	holdFault(t, "len", api.ErrWant, 3)
	holdFault(t, "1+new", api.ErrWant, 5)
	holdFault(t, "len()", api.ErrWant, 4)
	holdFault(t, "f(1,)", api.ErrWant, 4)
	holdFault(t, "f(,1)", api.ErrWant, 2)
	holdFault(t, "f(1 2)", api.ErrWant, 4)
	holdFault(t, "f(1;", api.ErrWant, 3)
	holdFault(t, "a<b<c", api.ErrWant, 3)
	holdFault(t, "a b", api.ErrWant, 2)
	holdFault(t, "()", api.ErrWant, 1)
	holdFault(t, "a[]", api.ErrWant, 2)
}

// listed tells n arguments with commas between.
func listed(n int) string {
	return strings.Join(slices.Repeat([]string{"1"}, n), ",")
}

// Promises 7.2, 7.3: calls of up to eight arguments, and the comma behind the eighth, whatever comes behind it.
func TestArguments(t *testing.T) {
	for n := range 9 {
		holdTree(t, "f("+listed(n)+")", strings.TrimSpace("(call f "+strings.ReplaceAll(listed(n), ",", " "))+")")
	}
	for n := 9; n < 300; n *= 2 {
		holdFault(t, "f("+listed(n)+")", api.ErrLong, 18)
	}
	front := "f(" + listed(8) + ","
	holdFault(t, front, api.ErrLong, len(front))
	for _, w := range allWords() {
		holdFault(t, front+w, api.ErrLong, len(front))
		holdFault(t, front+" "+w+")", api.ErrLong, len(front)+1)
		holdFault(t, "g(1,"+front+w, api.ErrLong, len("g(1,"+front))
		holdFault(t, front[:len(front)-1]+"+"+front+w, api.ErrLong, len(front+front))
	}
	// A call in the eighth place has arguments of its own.
	holdTree(t, "f("+listed(7)+",g("+listed(8)+"))", "(call f 1 1 1 1 1 1 1 (call g 1 1 1 1 1 1 1 1))")
	holdFault(t, "f("+listed(7)+",g("+listed(8)+"),)", api.ErrLong, len("f("+listed(7)+",g("+listed(8)+"),"))
	holdFault(t, "f("+listed(7)+",*,", api.ErrWant, len("f("+listed(7)+","))
	holdFault(t, "f("+listed(8)+";,", api.ErrWant, len("f("+listed(8)))
	// The call's own bracket is the last level: what comes behind the comma is one argument too many, though it would open one more, too.
	deep := strings.Repeat("(", 199) + front
	holdFault(t, deep+"(", api.ErrLong, len(deep))
	holdFault(t, deep+"-", api.ErrLong, len(deep))
}

// nest tells a text with n times what opens, and behind the core n times what closes.
func nest(n int, open, core, close string) string {
	return strings.Repeat(open, n) + core + strings.Repeat(close, n)
}

// Promises 7.1 to 7.3: 200 levels and 201 of each kind; those that are nodes, too, are too high one level earlier, when their node is laid.
func TestLevels(t *testing.T) {
	holdTree(t, nest(200, "(", "a", ")"), "a")
	holdFault(t, nest(201, "(", "a", ")"), api.ErrDeep, 200)
	holdFault(t, strings.Repeat("(", 60000), api.ErrDeep, 200)
	holdFault(t, strings.Repeat("(", 200), api.ErrWant, 200)
	for _, x := range []struct{ open, close string }{{"-", ""}, {"!", ""}, {"a[", "]"}, {"f(", ")"}, {"f(1,", ")"}, {"len(", ")"}, {"new(", ")"}} {
		// Where the level opens, and where its node is, in what opens.
		level := max(0, strings.IndexAny(x.open, "(["))
		at := max(0, strings.IndexAny(x.open, "["))
		if !holdText(t, nest(199, x.open, "a", x.close)) {
			t.Errorf("199 times %s is wrong", x.open)
		}
		holdFault(t, nest(200, x.open, "a", x.close), api.ErrDeep, at)
		holdFault(t, nest(201, x.open, "a", x.close), api.ErrDeep, 200*len(x.open)+level)
		holdFault(t, nest(1000, x.open, "a", x.close), api.ErrDeep, 200*len(x.open)+level)
		holdFault(t, nest(200, x.open, ";", x.close), api.ErrWant, 200*len(x.open))
		// Brackets that are no nodes leave room above.
		inner := nest(100, x.open, "a", x.close)
		if !holdText(t, nest(100, "(", inner, ")")) || !holdText(t, nest(100, x.open+"(", "a", ")"+x.close)) {
			t.Errorf("200 levels of %s and ( are wrong", x.open)
		}
		holdFault(t, nest(101, "(", inner, ")"), api.ErrDeep, 101+99*len(x.open)+level)
		holdFault(t, nest(100, "(", nest(101, x.open, "a", x.close), ")"), api.ErrDeep, 100+100*len(x.open)+level)
	}
	mixed := "-(!a[f(1,len(new("
	for n := range 40 {
		text := strings.Repeat(mixed, n) + "a" + strings.Repeat(")))])", n)
		if got := holdText(t, text); got != (n <= 200/7) {
			t.Errorf("%d times: %v", n, got)
		}
		for k := range 8 {
			holdText(t, strings.Repeat("(", k)+text+strings.Repeat(")", k))
		}
	}
}

// Promise 7.1: levels are closed where what they are around, or in front of, ends.
func TestLevelsEnd(t *testing.T) {
	full := func(inner string) string { return nest(199, "(", inner, ")") }
	for _, s := range []string{"a", "-a", "(a)", "-a+-b", "(a)+(b)", "a[1]", "a[1][2][3]", "f()", "f(1,2)", "f(1)+g(2)", "len(a)-new(b)", "-a*!b<(c)&&d[1]||e(1)", "-7+(8)", "!true==!false"} {
		if !holdText(t, full(s)) {
			t.Errorf("199 levels around %s are wrong", s)
		}
	}
	for s, at := range map[string]int{"--a": 1, "-(a)": 1, "((a))": 1, "-a[1]": 2, "!f()": 2, "(a)+(-b)": 5, "a[-1]": 2, "a[1][b[1]]": 6, "f(-1)": 2, "f(1,g())": 5, "len((a))": 4, "new(-a)": 4, "-a+--b": 4, "(a[1])": 2, "a[(1)]": 2} {
		holdFault(t, full(s), api.ErrDeep, 199+at)
		if !holdText(t, nest(198, "(", s, ")")) {
			t.Errorf("198 levels around %s are wrong", s)
		}
	}
	// What cannot stand there opens no level.
	holdFault(t, nest(200, "(", "len -", ")"), api.ErrWant, 204)
	holdFault(t, nest(200, "(", "a!", ")"), api.ErrWant, 201)
	holdFault(t, nest(200, "(", "{", ")"), api.ErrWant, 200)
	holdFault(t, nest(200, "(", "7(", ")"), api.ErrWant, 201)
	holdFault(t, nest(200, "(", "a(", ")"), api.ErrDeep, 201)
	holdFault(t, nest(200, "(", "a[", ")"), api.ErrDeep, 201)
}

// row tells a text of n operators, one behind the other.
func row(n int, op string) string {
	return "a" + strings.Repeat(op+"a", n)
}

// Promises 7.1 to 7.4: heights of 200 and of 201.
func TestHeights(t *testing.T) {
	for _, more := range []string{"+a", "*a", "&&a", "||a", "-%a", "[1]"} {
		text := "a" + strings.Repeat(more, 199)
		holdFault(t, text+more, api.ErrDeep, len(text))
		holdFault(t, text+more+";", api.ErrDeep, len(text))
		holdFault(t, "a"+strings.Repeat(more, 15000), api.ErrDeep, len(text))
		a, f := Parse(tokens(t, text))
		if h := tree.Heights(a); f.Err != 0 || slices.Max(h) != 200 {
			t.Errorf("%.50q: %v", text, f)
		}
		holdText(t, text)
		holdTree(t, "("+text+")", tree.Text(a))
		holdFault(t, "("+text+")["+text+"]", api.ErrDeep, len(text)+2)
		holdFault(t, "-("+text+")", api.ErrDeep, 0)
		holdFault(t, "1 ! ("+text+")", api.ErrWant, 2)
		holdFault(t, "1<!("+text+")", api.ErrDeep, 2)
		holdFault(t, "1<("+text+")", api.ErrDeep, 1)
		holdFault(t, "("+text+")==1", api.ErrDeep, len(text)+2)
		holdFault(t, "a[("+text+")]", api.ErrDeep, 1)
		holdFault(t, "f(1,"+text+")", api.ErrDeep, 0)
		holdFault(t, " len("+text+")", api.ErrDeep, 1)
		holdFault(t, "1+new("+text+")", api.ErrDeep, 2)
	}
}

// Promises 7.2, 7.3: what is wrong first, where two things are.
func TestWhatIsWrongFirst(t *testing.T) {
	high, n := row(200, "+"), 2*200-1
	// A node is laid as soon as it is read, ahead of what stands behind it.
	holdFault(t, high+")", api.ErrDeep, n)
	holdFault(t, high+" b", api.ErrDeep, n)
	holdFault(t, high+"+", api.ErrDeep, n)
	holdFault(t, high+"<b<c", api.ErrDeep, n)
	holdFault(t, high+"-*", api.ErrDeep, n)
	// But not ahead of all that it is made of.
	holdFault(t, high+"*b", api.ErrDeep, n)
	holdFault(t, high+"*", api.ErrWant, len(high)+1)
	holdFault(t, high+"*;", api.ErrWant, len(high)+1)
	holdFault(t, high[:len(high)-1], api.ErrWant, len(high)-1)
	holdFault(t, high+"[1", api.ErrWant, len(high)+2)
	holdFault(t, high+"[1]", api.ErrDeep, n)
	holdFault(t, high+"("+listed(9), api.ErrLong, len(high)+17)
	holdFault(t, high+"*"+strings.Repeat("-", 201), api.ErrDeep, len(high)+1+200)
	// The inner one of two that are too high is laid first; of two behind each other, the first one.
	holdFault(t, "-("+high+")", api.ErrDeep, n+2)
	holdFault(t, "("+high+")*("+high+")", api.ErrDeep, n+1)
	holdFault(t, "f("+listed(8)+",("+high+"))", api.ErrLong, 18)
	holdFault(t, "f("+high+","+listed(8)+")", api.ErrDeep, n+2)
	holdFault(t, "; "+high, api.ErrWant, 0)
	holdFault(t, "a ; "+strings.Repeat("(", 201), api.ErrWant, 2)
	holdFault(t, strings.Repeat("(", 201)+";", api.ErrDeep, 200)
	holdFault(t, strings.Repeat("-", 200)+";", api.ErrWant, 200)
	holdFault(t, strings.Repeat("-", 200)+"a;", api.ErrDeep, 0)
	holdFault(t, "(1,2", api.ErrWant, 2)
	holdFault(t, "a<b<", api.ErrWant, 3)
	holdFault(t, "f(;"+listed(9)+")", api.ErrWant, 2)
	holdFault(t, "f("+listed(9)+";", api.ErrLong, 18)
}

// Promises 7.2 to 7.4: all texts of up to three tokens of every kind, and of up to six of those that matter.
func TestShortTexts(t *testing.T) {
	for _, x := range []struct {
		words []string
		most  int
	}{{allWords(), 3}, {strings.Fields("a 7 + * < && - ( ) [ ] ,"), 5}, {strings.Fields("f ( ) , - 1 len"), 6}, {strings.Fields("a < || + !"), 7}} {
		rights := 0
		var fill func(text string, n int)
		fill = func(text string, n int) {
			if holdText(t, text) {
				rights++
			}
			for _, w := range x.words {
				if n > 0 {
					fill(text+" "+w, n-1)
				}
			}
		}
		fill("", x.most)
		if rights == 0 {
			t.Errorf("of %v none is read", x.words)
		}
	}
}

// Promises 7.2 to 7.4: long texts of tokens in any order, most of them ones that may stand there.
func TestLongTexts(t *testing.T) {
	dice := rand.New(rand.NewSource(7))
	pick := func(l []string) string { return l[dice.Intn(len(l))] }
	parts := strings.Fields("a 7 true nil - ! ( ( f( f( len( new( a[ f()")
	seconds := strings.Fields("+ - * < && || == [ [ ) ) ] ] , , /")
	for range 20000 {
		var text strings.Builder
		for range 1 + dice.Intn(60) {
			text.WriteString(pick(parts) + " ")
			if dice.Intn(3) > 0 {
				text.WriteString(pick(seconds) + " ")
			}
			if dice.Intn(40) == 0 {
				text.WriteString(pick(allWords()) + " ")
			}
		}
		holdText(t, text.String())
	}
}

// planted is an expression to be spelled out: a sign or a word, and its kids.
type planted struct {
	word string
	kids []planted
}

// strong tells how strong an expression is, by the chapter's list.
func (p planted) strong() int {
	switch {
	case len(p.kids) == 2 && p.word != "at" && p.word != "call f":
		return strengthOf(p.word)
	case p.word == "neg", p.word == "not":
		return 6
	case p.word == "at":
		return 7
	}
	return 8
}

// spell tells the expression's text where one at least that strong must stand: with brackets where they are needed, or around every part, more times.
func (p planted) spell(least, more int) string {
	s := ""
	switch p.strong() {
	case 8:
		var l []string
		for _, k := range p.kids {
			l = append(l, k.spell(1, more))
		}
		if s = strings.TrimPrefix(p.word, "call "); s != p.word || len(l) > 0 {
			s += "(" + strings.Join(l, ",") + ")"
		}
	case 7:
		s = p.kids[0].spell(7, more) + "[" + p.kids[1].spell(1, more) + "]"
	case 6:
		s = map[string]string{"neg": "-", "not": "!"}[p.word] + p.kids[0].spell(6, more)
	case 3:
		s = p.kids[0].spell(4, more) + p.word + p.kids[1].spell(4, more)
	default:
		s = p.kids[0].spell(p.strong(), more) + p.word + p.kids[1].spell(p.strong()+1, more)
	}
	if p.strong() < least && more == 0 {
		more = 1
	}
	return nest(more, "(", s, ")")
}

func (p planted) text() string {
	if len(p.kids) == 0 && !strings.HasPrefix(p.word, "call") {
		return p.word
	}
	l := []string{p.word}
	for _, k := range p.kids {
		l = append(l, k.text())
	}
	return "(" + strings.Join(l, " ") + ")"
}

// holdSpelled holds an expression with as few brackets as may be against itself with many.
func holdSpelled(t *testing.T, p planted) {
	t.Helper()
	few, f := Parse(tokens(t, p.spell(1, 0)))
	if got := tree.Text(few); got != p.text() || f.Err != 0 {
		t.Fatalf("%q: %q %v, want %q", p.spell(1, 0), got, f, p.text())
	}
	for more := 1; more < 4; more++ {
		many, f := Parse(tokens(t, p.spell(1, more)))
		if !tree.Alike(few, many) || f.Err != 0 || !tree.Right(many) {
			t.Fatalf("%q: %q %v, want %q", p.spell(1, more), tree.Text(many), f, p.text())
		}
	}
}

// Promise 7.4: what is read is the tree that was spelled out; brackets around its parts change nothing but places.
func TestBracketsChangeNothing(t *testing.T) {
	leaves := []planted{{"a", nil}, {"7", nil}, {"true", nil}, {"nil", nil}, {"call f", nil}}
	over := func(kids []planted) []planted {
		var l []planted
		for _, k := range kids {
			for _, w := range strings.Fields("neg not len new") {
				l = append(l, planted{w, []planted{k}})
			}
			for _, k2 := range kids {
				l = append(l, planted{"at", []planted{k, k2}}, planted{"call f", []planted{k, k2}})
				for _, w := range strings.Fields("|| && < + - * %") {
					l = append(l, planted{w, []planted{k, k2}})
				}
			}
		}
		return l
	}
	two := append(over(leaves[:1]), leaves[0])
	three := over(two)
	for _, p := range slices.Concat(leaves, over(leaves), two, three) {
		holdSpelled(t, p)
	}
	dice := rand.New(rand.NewSource(1))
	for range 3000 {
		l := []planted{three[dice.Intn(len(three))], three[dice.Intn(len(three))]}
		l = over(l)
		holdSpelled(t, l[dice.Intn(len(l))])
	}
}

// Promises 7.1, 7.2: the reader's calls on a text in which nothing is wrong.
func TestReader(t *testing.T) {
	l := tokens(t, "fn f ; 7 [ a ] ( 1 , 2 )")
	r := New(l)
	if r.Token() != l[0] || r.Token() != l[0] {
		t.Errorf("Token: %v", r.Token())
	}
	for _, s := range []string{"", "f", "Fn", "fn ", "7", ";"} {
		if r.Is(s) || r.Skip(s) {
			t.Errorf("fn Is %q", s)
		}
	}
	if !r.Is("fn") || !r.Is("fn") || !r.Skip("fn") || r.Token() != l[1] {
		t.Errorf("fn is not skipped: %v", r.Token())
	}
	if r.Is("f") || r.Skip("f") || r.Token() != l[1] {
		t.Error("a name is taken for a key word")
	}
	if s := r.Name(); s != "f" || r.Token() != l[2] {
		t.Errorf("Name: %q", s)
	}
	if !r.Want(";") || r.Token() != l[3] || r.Is("7") || r.Skip("7") {
		t.Errorf("; is not taken: %v", r.Token())
	}
	if at := r.Expr(); at != 2 || r.Token() != l[7] || r.Fault() != (api.Fault{}) {
		t.Errorf("Expr: %d, then %v", at, r.Token())
	}
	if at := r.Call("g", 77); at != 5 || r.Token() != l[12] || r.Token().Kind != api.TEnd {
		t.Errorf("Call: %d, then %v", at, r.Token())
	}
	if at := r.Put(api.Node{Kind: api.NPrint, Kids: []int{2}, At: 5}); at != 6 {
		t.Errorf("Put: %d", at)
	}
	want := []api.Node{{Kind: api.NNum, N: 7, At: 7}, {Kind: api.NVar, S: "a", At: 11}, {Kind: api.NIndex, Kids: []int{0, 1}, At: 9}, {Kind: api.NNum, N: 1, At: 17}, {Kind: api.NNum, N: 2, At: 21},
		{Kind: api.NCall, S: "g", Kids: []int{3, 4}, At: 77}, {Kind: api.NPrint, Kids: []int{2}, At: 5}}
	if got := r.Tree(); !same(got, want) || r.Fault() != (api.Fault{}) {
		t.Errorf("Tree: %v", got)
	}
	// The end is told again and again, and no text is it.
	for range 3 {
		if r.Token() != l[12] || r.Is("") || r.Skip("") {
			t.Errorf("behind all: %v", r.Token())
		}
	}
}

// Promise 7.1: each key word and each sign Is itself, and no other; names, numbers and the end are none.
func TestIs(t *testing.T) {
	for _, w := range allWords() {
		l := tokens(t, w+" z")
		for _, asked := range append(allWords(), "", "x", w+" ") {
			want := w == asked && (slices.Contains(keyList, w) || slices.Contains(signList, w))
			r := New(l)
			is, skip, next := r.Is(asked), r.Skip(asked), r.Token()
			q := New(l)
			wanted, fault := q.Want(asked), q.Fault()
			if is != want || skip != want || wanted != want {
				t.Errorf("%q Is %q: %v %v %v", w, asked, is, skip, wanted)
			}
			if want && (next != l[1] || q.Token() != l[1] || fault != (api.Fault{})) || !want && (next != l[0] || q.Token() != l[0] || fault != api.Fault{Err: api.ErrWant, At: 0}) {
				t.Errorf("%q asked for %q: %v, %v, %v", w, asked, next, q.Token(), fault)
			}
		}
		r := New(l)
		name, first := r.Name(), l[0].Kind == api.TName
		if first && (name != l[0].Text || r.Token() != l[1] || r.Fault() != (api.Fault{})) || !first && (name != "" || r.Token() != l[0] || r.Fault() != api.Fault{Err: api.ErrWant}) {
			t.Errorf("%q: Name %q, %v, %v", w, name, r.Token(), r.Fault())
		}
	}
	r := New(tokens(t, "   7"))
	if r.Name(); r.Fault() != (api.Fault{Err: api.ErrWant, At: 3}) {
		t.Errorf("Name of a number: %v", r.Fault())
	}
	r = New(tokens(t, "  "))
	if r.Want(";") || r.Fault() != (api.Fault{Err: api.ErrWant, At: 2}) {
		t.Errorf("Want at the end: %v", r.Fault())
	}
}

// Promises 7.1, 7.2: behind what was noted nothing is taken, laid or noted, and all that was laid is still told.
func TestBehindAFault(t *testing.T) {
	for _, text := range []string{"a ( 1 )", "7", "fn", "( a )", "[ a ]", "- a", "! 7", "true", "nil", "len ( a )", ""} {
		l := tokens(t, text)
		r := New(l)
		if r.Put(api.Node{Kind: api.NNil, At: 9}) != 0 {
			t.Error("Put")
		}
		fault := api.Fault{Err: api.ErrMain, At: 5}
		r.Fail(fault.Err, fault.At)
		r.Fail(api.ErrType, 3)
		r.Fail(api.OK, 0)
		if w := l[0].Text; r.Is(w) || r.Skip(w) || r.Want(w) || r.Want(";") {
			t.Errorf("%q: is taken", w)
		}
		if s := r.Name(); s != "" {
			t.Errorf("%q: Name %q", text, s)
		}
		if r.Open(1) {
			t.Errorf("%q: opened", text)
		}
		r.Close()
		if a, b, c, d, e := r.Expr(), r.Inner("(", ")"), r.Call("a", 1), r.Put(api.Node{Kind: api.NNil}), r.Inner("-", ""); a != -1 || b != -1 || c != -1 || d != -1 || e != -1 {
			t.Errorf("%q: %d %d %d %d %d", text, a, b, c, d, e)
		}
		if r.Token() != l[0] || r.Fault() != fault || !same(r.Tree(), []api.Node{{Kind: api.NNil, At: 9}}) {
			t.Errorf("%q: %v %v %v", text, r.Token(), r.Fault(), r.Tree())
		}
	}
	// Each of them notes no second thing.
	r := New(tokens(t, "a"))
	r.Want("b")
	for range 300 {
		r.Open(7)
	}
	r.Name()
	if r.Fault() != (api.Fault{Err: api.ErrWant}) || r.Token().Text != "a" {
		t.Errorf("%v %v", r.Fault(), r.Token())
	}
}

// Promise 7.1: Fail keeps the first thing, whatever its number; OK is nothing wrong.
func TestFail(t *testing.T) {
	for _, e := range []api.Errno{api.ErrArg, api.ErrMain, 1, 99, -1, math.MinInt, math.MaxInt} {
		for _, at := range []int{0, 1, -1, math.MinInt, math.MaxInt} {
			r := New(tokens(t, "a"))
			r.Fail(api.OK, 4)
			if r.Fault() != (api.Fault{}) || !r.Open(1) {
				t.Error("OK is noted")
			}
			r.Fail(e, at)
			r.Fail(e+1, 6)
			if r.Fault() != (api.Fault{Err: e, At: at}) || r.Name() != "" || r.Put(api.Node{}) != -1 {
				t.Errorf("%v", r.Fault())
			}
		}
	}
}

// Promise 7.1: 200 levels may be open; Close counts down below none, too.
func TestOpenAndClose(t *testing.T) {
	for _, below := range []int{0, 1, 7, 200, 1000} {
		r := New(tokens(t, nest(200+below, "(", "a", ")")))
		for range below {
			r.Close()
		}
		for i := range 200 + below {
			if !r.Open(i) {
				t.Fatalf("%d below none: level %d is not open", below, i)
			}
		}
		if r.Fault() != (api.Fault{}) {
			t.Errorf("%v", r.Fault())
		}
		r.Close()
		if !r.Open(3) || r.Open(77) || r.Open(78) || r.Fault() != (api.Fault{Err: api.ErrDeep, At: 77}) {
			t.Errorf("%d below none: %v", below, r.Fault())
		}
		for range 300 {
			r.Close()
		}
		if r.Open(1) || r.Fault().At != 77 {
			t.Errorf("opened again")
		}
	}
	// Levels that are open, or below none, are counted with those of expressions.
	for _, x := range []struct{ open, levels, at int }{{0, 200, -1}, {0, 201, 200}, {1, 199, -1}, {1, 200, 199}, {150, 50, -1}, {150, 51, 50}, {199, 1, -1}, {200, 1, 0}, {-1, 201, -1}, {-1, 202, 201}, {-500, 700, -1}, {-500, 701, 700}} {
		for _, call := range []func(r *Reader) int{(*Reader).Expr, func(r *Reader) int { return r.Inner("(", ")") }, func(r *Reader) int { return r.Call("f", 0) }} {
			r := New(tokens(t, nest(x.levels, "(", "a", ")")))
			for range x.open {
				r.Open(9)
			}
			for range -x.open {
				r.Close()
			}
			got := call(r)
			if want := (api.Fault{Err: api.ErrDeep, At: x.at}); x.at >= 0 && (got != -1 || r.Fault() != want) || x.at < 0 && (got < 0 || r.Fault() != api.Fault{}) {
				t.Errorf("%v: %d %v", x, got, r.Fault())
			}
		}
	}
	// Each call leaves as many levels open as it found, if nothing is wrong.
	for _, s := range []string{"a", "-a", "!-(a)", "a[1][2]", "f()", "f(1,g(2),-3)", "len(new(3))+-4*(5)"} {
		r := New(tokens(t, "["+s+"]"))
		r.Inner("[", "]")
		for i := range 200 {
			if !r.Open(i) {
				t.Fatalf("%s: level %d", s, i)
			}
		}
		if r.Open(0) {
			t.Errorf("%s: too many levels", s)
		}
	}
}

// Promise 7.1: Put tells places from 0 on; a node that is too high is not laid, and wrong at its At.
func TestPut(t *testing.T) {
	r := New(nil)
	want := []api.Node{{Kind: api.NNum, N: 3, At: 4}}
	if r.Put(want[0]) != 0 {
		t.Error("the first place is not 0")
	}
	for i := 1; i < 200; i++ {
		n := api.Node{Kind: api.NCall, S: "f", Kids: []int{0, i - 1}, At: 1000 + i}
		if got := r.Put(n); got != i {
			t.Fatalf("Put: %d, want %d", got, i)
		}
		want = append(want, n)
	}
	// As high as may be: one beside it, and one over a lower one.
	for i, kids := range [][]int{nil, {198}, {3, 198, 5}} {
		n := api.Node{Kind: api.NCall, S: "g", Kids: kids}
		if got := r.Put(n); got != 200+i {
			t.Errorf("Put: %d", got)
		}
		want = append(want, n)
	}
	if r.Fault() != (api.Fault{}) {
		t.Errorf("%v", r.Fault())
	}
	for _, kids := range [][]int{{199}, {201}, {0, 202}, {199, 0}, {0, 201, 0}} {
		q := *r
		if got := q.Put(api.Node{Kind: api.NCall, S: "h", Kids: kids, At: 31}); got != -1 || q.Fault() != (api.Fault{Err: api.ErrDeep, At: 31}) {
			t.Errorf("%v: %d %v", kids, got, q.Fault())
		}
		if got := q.Put(api.Node{Kind: api.NNil, At: 1}); got != -1 || !same(q.Tree(), want) || q.Fault().At != 31 {
			t.Errorf("behind it: %d %v", got, q.Fault())
		}
	}
}

// P1: kids that were not laid.
func TestPutOddKids(t *testing.T) {
	for _, kids := range [][]int{{0}, {-1}, {1}, {math.MinInt}, {math.MaxInt}, {0, 1, 2, -7}, make([]int, 1000)} {
		r := New(nil)
		r.Put(api.Node{Kind: -5, Kids: kids, N: -1, S: "\xff", At: -1})
		r.Put(api.Node{Kids: kids})
		r.Tree()
	}
}

// Promise 7.2: Inner with each pair of tokens, and what is wrong in it.
func TestInner(t *testing.T) {
	for _, x := range [][2]string{{"(", ")"}, {"[", "]"}, {"{", "}"}, {"fn", "arr"}, {"=", ";"}, {",", ","}, {"=", "="}} {
		l := tokens(t, x[0]+" a*b "+x[1]+" c")
		r := New(l)
		if at := r.Inner(x[0], x[1]); at != 2 || r.Token().Text != "c" || r.Fault() != (api.Fault{}) || len(r.Tree()) != 3 {
			t.Errorf("%v: %d %v %v", x, at, r.Token(), r.Fault())
		}
		for text, want := range map[string]int{" a*b " + x[1]: 1, x[0] + " a*b c": len(x[0]) + 5, x[0] + " a*b ": len(x[0]) + 5, x[0]: len(x[0]), x[0] + " ": len(x[0]) + 1, "": 0, "7": 0} {
			r := New(tokens(t, text))
			if at := r.Inner(x[0], x[1]); at != -1 || r.Fault() != (api.Fault{Err: api.ErrWant, At: want}) {
				t.Errorf("%q: %d %v", text, at, r.Fault())
			}
		}
	}
	// The token that opens the level is where there is one too many.
	r := New(tokens(t, "  fn a arr"))
	for i := range 200 {
		r.Open(i)
	}
	if at := r.Inner("fn", "arr"); at != -1 || r.Fault() != (api.Fault{Err: api.ErrDeep, At: 2}) {
		t.Errorf("%d %v", at, r.Fault())
	}
	// What is not there opens none.
	r = New(tokens(t, "  fn a arr"))
	for i := range 200 {
		r.Open(i)
	}
	if at := r.Inner("(", ")"); at != -1 || r.Fault() != (api.Fault{Err: api.ErrWant, At: 2}) {
		t.Errorf("%d %v", at, r.Fault())
	}
}

// Promise 7.2: Call with any name and At, and what is wrong in it.
func TestCall(t *testing.T) {
	for text, kids := range map[string][]int{"()": nil, "(a)": {0}, "(a,-b)": {0, 2}, "((a),b[c],d)": {0, 3, 4}, "(" + listed(8) + ")": {0, 1, 2, 3, 4, 5, 6, 7}} {
		r := New(tokens(t, text+" x"))
		at := r.Call("name", 1234)
		l := r.Tree()
		if at != len(l)-1 || !same(l[at:], []api.Node{{Kind: api.NCall, S: "name", Kids: kids, At: 1234}}) || r.Token().Text != "x" || r.Fault() != (api.Fault{}) {
			t.Errorf("%s: %d %v %v", text, at, l, r.Fault())
		}
	}
	for text, want := range map[string]api.Fault{
		"": {Err: api.ErrWant}, " a": {Err: api.ErrWant, At: 1}, "(": {Err: api.ErrWant, At: 1}, "(a": {Err: api.ErrWant, At: 2}, "(a]": {Err: api.ErrWant, At: 2}, "(a,)": {Err: api.ErrWant, At: 3}, "(,": {Err: api.ErrWant, At: 1},
		" (" + listed(9): {Err: api.ErrLong, At: 18}, "(" + listed(8) + ",": {Err: api.ErrLong, At: 17}, "(" + row(199, "+") + ")": {Err: api.ErrDeep, At: 55},
	} {
		r := New(tokens(t, text))
		if at := r.Call("f", 55); at != -1 || r.Fault() != want {
			t.Errorf("%.50q: %d %v, want %v", text, at, r.Fault(), want)
		}
	}
	// The ( is where there is a level too many; what is not there opens none.
	for text, want := range map[string]api.Fault{" ()": {Err: api.ErrDeep, At: 1}, " a": {Err: api.ErrWant, At: 1}, "": {Err: api.ErrWant}} {
		r := New(tokens(t, text))
		for i := range 200 {
			r.Open(i)
		}
		if at := r.Call("f", 55); at != -1 || r.Fault() != want {
			t.Errorf("%q: %d %v, want %v", text, at, r.Fault(), want)
		}
	}
}

// Promise 7.2: Expr again and again reads one expression behind the other, into one tree.
func TestExprAgain(t *testing.T) {
	r := New(tokens(t, "a+b c<d<e f ( 1 ) - ( 2 )"))
	var got []int
	for range 2 {
		got = append(got, r.Expr())
	}
	if !r.Skip("<") {
		t.Error("the second < does not end the expression ahead of it")
	}
	got = append(got, r.Expr(), r.Expr())
	if !slices.Equal(got, []int{2, 5, 6, 10}) || r.Fault() != (api.Fault{}) || len(r.Tree()) != 11 {
		t.Errorf("%v %v %v", got, r.Fault(), r.Tree())
	}
	if r.Expr() != -1 || r.Fault() != (api.Fault{Err: api.ErrWant, At: 25}) || len(r.Tree()) != 11 {
		t.Errorf("at the end: %v", r.Fault())
	}
}

// Rules: what is handed in is not kept, and what is told is one's own.
func TestListsAreOnesOwn(t *testing.T) {
	l := tokens(t, "f(a,b[1])")
	want, _ := Parse(l)
	r := New(l)
	for i := range l {
		l[i] = api.Token{Kind: api.TSign, Text: ";", At: -1}
	}
	if r.Expr() != len(want)-1 || !same(r.Tree(), want) {
		t.Errorf("the reader keeps the tokens: %v", r.Tree())
	}
	spoil := func(l []api.Node) {
		for i := range l {
			for k := range l[i].Kids {
				l[i].Kids[k] = 77
			}
			l[i] = api.Node{Kind: 99, Kids: append(l[i].Kids, 9)}
		}
		_ = append(l, api.Node{Kind: 98})
	}
	spoil(r.Tree())
	if !same(r.Tree(), want) {
		t.Errorf("the reader hands out its nodes: %v", r.Tree())
	}
	kids := []int{5, 3}
	at := r.Put(api.Node{Kind: api.NCall, S: "f", Kids: kids})
	kids[0], kids[1] = 99, 98
	if got := r.Tree()[at].Kids; !slices.Equal(got, []int{5, 3}) {
		t.Errorf("the reader keeps kids: %v", got)
	}
	l = tokens(t, "f(a,b[1])")
	first, _ := Parse(l)
	second, _ := Parse(l)
	spoil(first)
	if !same(second, want) {
		t.Errorf("two trees share something: %v", second)
	}
	// Two readers know nothing of each other.
	p, q := New(l), New(l)
	p.Fail(api.ErrArg, 1)
	p.Put(api.Node{})
	if q.Expr() != 4 || q.Fault() != (api.Fault{}) || p.Fault().Err != api.ErrArg {
		t.Error("two readers share something")
	}
}

// Promises 7.1, 7.3: no tokens at all: there is none that can stand there.
func TestNoTokens(t *testing.T) {
	for _, l := range [][]api.Token{nil, {}} {
		if a, f := Parse(l); a != nil || f != (api.Fault{Err: api.ErrWant}) {
			t.Errorf("%v %v", a, f)
		}
		r := New(l)
		if r.Token() != (api.Token{}) || r.Is("") || r.Skip("") || r.Name() != "" || r.Fault() != (api.Fault{Err: api.ErrWant}) {
			t.Errorf("%v %v", r.Token(), r.Fault())
		}
		if r = New(l); r.Want("") || r.Expr() != -1 || r.Fault() != (api.Fault{Err: api.ErrWant}) || len(r.Tree()) != 0 {
			t.Errorf("%v", r.Fault())
		}
		if r = New(l); r.Put(api.Node{Kind: api.NNil}) != 0 || len(r.Tree()) != 1 {
			t.Errorf("%v", r.Tree())
		}
	}
}

// allCalls makes every call of a reader, in an order that the first number tells.
func allCalls(r *Reader, first int) {
	calls := []func(){
		func() { r.Token() }, func() { r.Is("(") }, func() { r.Skip("-") }, func() { r.Name() }, func() { r.Open(1) }, func() { r.Close() }, func() { r.Expr() },
		func() { r.Put(api.Node{Kids: []int{0, 1}}) }, func() { r.Inner("(", ")") }, func() { r.Call("f", 1) }, func() { r.Tree() }, func() { r.Fault() }, func() { r.Want(")") }, func() { r.Fail(api.ErrArg, 1) },
	}
	for i := range calls {
		calls[(i+first)%len(calls)]()
	}
	for i := range calls {
		calls[(first+len(calls)-i)%len(calls)]()
	}
}

// P1: a reader that New did not give.
func TestNoReader(t *testing.T) {
	for first := range 14 {
		allCalls(nil, first)
		allCalls(new(Reader), first)
		allCalls(New(nil), first)
	}
	var r *Reader
	if r.Token() != (api.Token{}) || r.Is("") || r.Skip("") || r.Want("") || r.Name() != "" || r.Open(1) || r.Put(api.Node{}) != -1 || r.Expr() != -1 || r.Inner("(", ")") != -1 || r.Call("f", 0) != -1 || r.Tree() != nil || r.Fault() != (api.Fault{}) {
		t.Error("nil tells something")
	}
}

// P1: lists that lex does not tell: without an end, with one in their midst, of odd kinds, texts and places.
func TestOddLists(t *testing.T) {
	var odd []api.Token
	for kind := -1; kind <= 5; kind++ {
		for _, text := range []string{"", "a", "(", "-", "fn"} {
			odd = append(odd, api.Token{Kind: kind, Text: text, N: -7, At: -3})
		}
	}
	for i, text := range []string{")", "[", "]", ",", "+", "<", "len", "true"} {
		odd = append(odd, api.Token{Kind: api.TSign - i%2, Text: text, At: math.MaxInt - i})
	}
	odd = append(odd, api.Token{Kind: math.MinInt, Text: strings.Repeat("(", 100), N: math.MinInt, At: math.MinInt}, api.Token{Kind: api.TNum, Text: "x", N: -1, At: 5})
	for _, a := range odd {
		for _, b := range odd {
			for _, c := range odd {
				Parse([]api.Token{a, b, c})
			}
			l := []api.Token{a, b}
			Parse(l)
			allCalls(New(l), a.Kind*a.Kind%14)
		}
		for _, n := range []int{1, 300, 70000} {
			Parse(slices.Repeat([]api.Token{a}, n))
			Parse(append([]api.Token{{Kind: api.TName, Text: "f"}}, slices.Repeat([]api.Token{a}, n)...))
			allCalls(New(slices.Repeat([]api.Token{a}, n)), n)
		}
	}
}

// P1: a list without an end is read to an end, however many levels may be opened.
func TestNoEndToOpen(t *testing.T) {
	for _, text := range []string{"(", "-", "!", "a [", "f (", "len (", "1 +", "a", "7", "nil", ",", "f ( 1 ,"} {
		l := tokens(t, text)
		l = l[:len(l)-1]
		r := New(l)
		for range 1 << 20 {
			r.Close()
		}
		for range 3 {
			r.Expr()
		}
		r = New(l)
		for count := 0; r.Skip(l[min(count, len(l)-1)].Text) || r.Name() != ""; count++ {
			if count > len(l) {
				t.Fatalf("%q: taken for ever", text)
			}
		}
	}
	l := tokens(t, "; a")[:2]
	r := New(l)
	if !r.Skip(";") || r.Name() != "a" || r.Token() != l[1] || r.Name() != "" || r.Token() != l[1] {
		t.Errorf("behind the last token: %v", r.Token())
	}
}

// P1: texts as long as may be.
func TestLongestTexts(t *testing.T) {
	for _, s := range []string{"(", "-", "!", "a[", "f(", "f(1,", "a+", "a*", "a<", "a[1]", "a[1]+", "len(", "(a)", "(a)+", "f(),", "-a*", "1,"} {
		for _, end := range []string{"", "a", ")", "]"} {
			n := (api.MaxText - len(end)) / len(s)
			holdText(t, strings.Repeat(s, n)+end)
		}
	}
	wide := "f(" + listed(8) + ")"
	for range 4 {
		wide = "f(" + strings.Join(slices.Repeat([]string{wide}, 7), ",") + ")"
	}
	if len(wide) > api.MaxText || !holdText(t, wide) {
		t.Errorf("a wide text of %d bytes is wrong", len(wide))
	}
}

// Promises 7.2 to 7.4, and P1: any text that has tokens.
func FuzzParse(f *testing.F) {
	for _, s := range []string{"a-b*-c[1]", "a<b<c", "f(1,g())[2][3]", "-len(new(3))*%2%x", "((true))", "f(1,2,3,4,5,6,7,8,9)", "!a&&b||c==d+1", nest(200, "(", "-a", ")"), row(200, "+"), "len a", "fn f {"} {
		f.Add(s)
	}
	f.Fuzz(func(t *testing.T, text string) {
		if _, fault := lex.Tokens(text); fault.Err == 0 {
			holdText(t, text)
		}
	})
}

// The chapter's examples.
func ExampleParse() {
	for _, text := range []string{"a-b*-c[1]", "a<b<c"} {
		l, _ := lex.Tokens(text)
		a, f := Parse(l)
		fmt.Println(strconv.Quote(tree.Text(a)), f.Err == api.ErrWant, f.At)
	}
	// Output:
	// "(- a (* b (neg (at c 1))))" false 0
	// "" true 3
}
