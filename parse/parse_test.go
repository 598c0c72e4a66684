package parse

import (
	"fmt"
	"math/rand"
	"reflect"
	"slices"
	"strings"
	"testing"

	"balustrade/api"
	"balustrade/lex"
	"balustrade/tree"
)

var (
	keyList  = strings.Fields("fn var if else while for break continue return print len new true false nil int bool arr")
	signList = strings.Fields("|| && == != <= >= < > +% -% *% + - * / % ! = ( ) { } [ ] , ;")
	opList   = strings.Fields("|| && == != < <= > >= + - +% -% * / % *%")
	kindList = strings.Fields("int bool arr")
	// beginners are words with which an expression can begin, and starters those with which a statement can.
	beginners = strings.Fields("a 7 true false nil len new ( - !")
	starters  = strings.Fields("a var if while for break continue return print")
)

// allWords are tokens of every kind, as words.
func allWords() []string {
	return slices.Concat([]string{"a", "7"}, keyList, signList)
}

// others are all words but these.
func others(but ...string) []string {
	return slices.DeleteFunc(allWords(), func(w string) bool { return slices.Contains(but, w) })
}

// grammar is the chapter's words as rules: of a thing with a great first
// letter, what it can be. All else is a token, or, behind an @, what is done
// as it is reached.
func grammar() map[string][]string {
	g := map[string][]string{
		"Program":    {"@prog Functions end @lay"},
		"Functions":  {"@many fn name @fn ( Params ) Kind Block @lay Functions", ""},
		"Params":     {"Param Params2", ""},
		"Params2":    {", Param Params2", ""},
		"Param":      {"name @ninth @param Kind @lay"},
		"Kind":       {"int @int", "bool @bool", "arr @arr"},
		"Block":      {"{ @open @block Statements } @close @lay"},
		"Statements": {"Statement Statements", ""},
		"Statement": {
			"var name @let = Or ; @lay", "name Behind", "if @if Or Block Else @lay", "while @while Or Block @lay", "for name @for = Or , Or Block @lay",
			"break @break ; @lay", "continue @continue ; @lay", "return @return Or ; @lay", "print @print Or ; @lay",
		},
		"Behind": {"= @set Or ; @lay", "[ @put @open Or ] @close = Or ; @lay", "( @do @call @open Args ) @close @lay ; @lay"},
		"Else":   {"else Block", ""},
		"Args":   {"Or Args2", ""},
		"Args2":  {", @more Or Args2", ""},
		"Front":  {"- @open @neg Front @close @lay", "! @open @not Front @close @lay", "One Cells"},
		"Cells":  {"[ @at @open Or ] @close @lay Cells", ""},
		"One": {
			"num @num @lay", "true @true @lay", "false @false @lay", "nil @nil @lay", "name Call", "( @open Or ) @close",
			"len @len ( @open Or ) @close @lay", "new @new ( @open Or ) @close @lay",
		},
		"Call": {"( @call @open Args ) @close @lay", "@var @lay"},
	}
	for _, x := range [][4]string{{"Or", "And", "||", "Or2"}, {"And", "Compare", "&&", "And2"}, {"Compare", "Sum", "== != < <= > >=", ""}, {"Sum", "Product", "+ - +% -%", "Sum2"}, {"Product", "Front", "* / % *%", "Product2"}} {
		g[x[0]] = []string{x[1] + " " + x[0] + "2"}
		for _, s := range strings.Fields(x[2]) {
			g[x[0]+"2"] = append(g[x[0]+"2"], s+" @bin "+x[1]+" @lay "+x[3])
		}
		g[x[0]+"2"] = append(g[x[0]+"2"], "")
	}
	return g
}

// rules is the grammar, each way of a thing word by word.
var rules = func() map[string][][]string {
	l := map[string][][]string{}
	for k, ways := range grammar() {
		for _, w := range ways {
			l[k] = append(l[k], strings.Fields(w))
		}
	}
	return l
}()

// opening is a node that is begun: its kind, its number, and whether its name
// and its place are those of the name that was read last, or it stands at the
// token that was.
type opening struct {
	kind, number   int
	named, atNamed bool
}

var openings = map[string]opening{
	"@num": {kind: api.NNum}, "@true": {kind: api.NBool, number: 1}, "@false": {kind: api.NBool}, "@nil": {kind: api.NNil}, "@var": {api.NVar, 0, true, true},
	"@neg": {kind: api.NNeg}, "@not": {kind: api.NNot}, "@len": {kind: api.NLen}, "@new": {kind: api.NNew}, "@call": {api.NCall, 0, true, true},
	"@let": {api.NLet, 0, true, true}, "@set": {api.NSet, 0, true, true}, "@put": {api.NPut, 0, true, false}, "@if": {kind: api.NIf}, "@while": {kind: api.NWhile}, "@for": {api.NFor, 0, true, true},
	"@break": {kind: api.NBreak}, "@continue": {kind: api.NContinue}, "@return": {kind: api.NReturn}, "@print": {kind: api.NPrint}, "@do": {api.NDo, 0, false, true},
	"@block": {kind: api.NBlock}, "@param": {api.NParam, 0, true, true}, "@fn": {api.NFunc, 0, true, true}, "@prog": {kind: api.NProg},
}

// machine reads tokens by the grammar, with a list of what must come in place
// of calls. open are the nodes whose parts are read.
type machine struct {
	l          []api.Token
	at, levels int
	last, name api.Token
	open       []api.Node
	nodes      []api.Node
	heights    []int
	fault      api.Fault
}

// readByRules tells the tree of tokens, or what is wrong first, by the chapter's words.
func readByRules(l []api.Token) ([]api.Node, api.Fault) {
	m := &machine{l: l}
	todo := []string{"Program"}
	for len(todo) > 0 && m.fault.Err == 0 {
		s := todo[len(todo)-1]
		todo = todo[:len(todo)-1]
		switch {
		case s[0] == '@':
			m.do(s)
		case s[0] >= 'A' && s[0] <= 'Z':
			way, ok := m.choose(s)
			if !ok {
				m.fail(api.ErrWant, m.next().At)
			}
			for i := len(way) - 1; i >= 0; i-- {
				todo = append(todo, way[i])
			}
		default:
			m.take(s)
		}
	}
	if m.fault.Err != 0 {
		return nil, m.fault
	}
	return m.nodes, m.fault
}

func (m *machine) next() api.Token { return m.l[m.at] }

func (m *machine) fail(e api.Errno, at int) {
	if m.fault.Err == 0 {
		m.fault = api.Fault{Err: e, At: at}
	}
}

// fits tells whether the next token is what a rule's word says.
func (m *machine) fits(word string) bool {
	switch t := m.next(); word {
	case "name":
		return t.Kind == api.TName
	case "num":
		return t.Kind == api.TNum
	case "end":
		return t.Kind == api.TEnd
	default:
		return (t.Kind == api.TWord || t.Kind == api.TSign) && t.Text == word
	}
}

// choose tells the way of a thing that begins with the next token, else the one without tokens.
func (m *machine) choose(thing string) ([]string, bool) {
	for _, way := range rules[thing] {
		first := slices.IndexFunc(way, func(s string) bool { return s[0] != '@' })
		if first < 0 {
			return way, true
		}
		if s := way[first]; rules[s] != nil {
			if _, ok := m.choose(s); ok {
				return way, true
			}
		} else if m.fits(s) {
			return way, true
		}
	}
	return nil, false
}

func (m *machine) take(word string) {
	if !m.fits(word) {
		m.fail(api.ErrWant, m.next().At)
		return
	}
	m.last = m.next()
	if m.last.Kind == api.TName {
		m.name = m.last
	}
	m.at++
}

func (m *machine) do(what string) {
	if o, ok := openings[what]; ok {
		m.begin(o)
		return
	}
	top := &m.open[len(m.open)-1]
	switch what {
	case "@lay":
		m.lay()
	case "@open":
		if m.levels++; m.levels > 200 {
			m.fail(api.ErrDeep, m.last.At)
		}
	case "@close":
		m.levels--
	case "@bin", "@at":
		// The part in front of it is the last one of what is open.
		n := api.Node{Kind: api.NIndex, At: m.last.At, Kids: []int{top.Kids[len(top.Kids)-1]}}
		if what == "@bin" {
			n.Kind, n.N = api.NBin, slices.Index(opList, m.last.Text)+1
		}
		top.Kids = top.Kids[:len(top.Kids)-1]
		m.open = append(m.open, n)
	case "@int", "@bool", "@arr":
		top.N = slices.Index(kindList, what[1:]) + 1
	case "@many":
		if len(top.Kids) == 200 {
			m.fail(api.ErrLong, m.next().At)
		}
	case "@ninth":
		if len(top.Kids) == 8 {
			m.fail(api.ErrLong, m.last.At)
		}
	case "@more":
		if len(top.Kids) == 8 {
			m.fail(api.ErrLong, m.next().At)
		}
	default:
		panic(what)
	}
}

func (m *machine) begin(o opening) {
	n := api.Node{Kind: o.kind, N: o.number, At: m.last.At}
	if o.kind == api.NNum {
		n.N = m.last.N
	}
	if o.named {
		n.S = m.name.Text
	}
	if o.atNamed {
		n.At = m.name.At
	}
	m.open = append(m.open, n)
}

func (m *machine) lay() {
	n := m.open[len(m.open)-1]
	m.open = m.open[:len(m.open)-1]
	if n.Kind == api.NProg {
		n.At = 0
	}
	h := 1
	for _, k := range n.Kids {
		h = max(h, m.heights[k]+1)
	}
	if h > 200 {
		m.fail(api.ErrDeep, n.At)
		return
	}
	m.nodes, m.heights = append(m.nodes, n), append(m.heights, h)
	if len(m.open) > 0 {
		top := &m.open[len(m.open)-1]
		top.Kids = append(top.Kids, len(m.nodes)-1)
	}
}

// plain makes lists of none nil.
func plain(l []api.Node) []api.Node {
	var c []api.Node
	for _, n := range l {
		n.Kids = append([]int(nil), n.Kids...)
		c = append(c, n)
	}
	return c
}

func same(a, b []api.Node) bool {
	return reflect.DeepEqual(plain(a), plain(b))
}

// brief tells the first ones of nodes.
func brief(l []api.Node) string { return fmt.Sprint(len(l), " ", l[:min(9, len(l))]) }

// tokenAt tells which token stands at a place; -1, if none does.
func tokenAt(l []api.Token, at int) int {
	return slices.IndexFunc(l, func(t api.Token) bool { return t.At == at })
}

// holdText holds a text against the chapter's words, and tells whether it is a program.
func holdText(t testing.TB, text string) bool {
	t.Helper()
	l, fault := lex.Tokens(text)
	var nodes []api.Node
	if fault.Err == 0 {
		nodes, fault = readByRules(l)
	}
	a, f := Parse(text)
	if !same(a, nodes) || f != fault {
		t.Errorf("%.300q: %s %v, want %s %v", text, brief(a), f, brief(nodes), fault)
	}
	if tree.Whole(a) != (f.Err == 0) {
		t.Errorf("%.300q: Whole is %v, but %v", text, tree.Whole(a), f)
	}
	// The program itself stands at 0, though no token may.
	if f.Err != 0 && len(l) > 0 && tokenAt(l, f.At) < 0 && f != (api.Fault{Err: api.ErrDeep}) {
		t.Errorf("%.300q: %v is at no token", text, f)
	}
	return f.Err == 0
}

// holdTree holds a text against the text of its tree.
func holdTree(t testing.TB, text, want string) {
	t.Helper()
	a, f := Parse(text)
	if got := tree.Text(a); got != want || f != (api.Fault{}) {
		t.Errorf("%.200q: %.200q %v, want %.200q", text, got, f, want)
	}
	holdText(t, text)
}

// holdFault holds a text against what is wrong in it.
func holdFault(t testing.TB, text string, e api.Errno, at int) {
	t.Helper()
	if a, f := Parse(text); a != nil || f != (api.Fault{Err: e, At: at}) {
		t.Errorf("%.200q: %s %v, want %v at %d", text, brief(a), f, e, at)
	}
	holdText(t, text)
}

// holdPast asks that a text is a program, or that what is wrong is behind a place.
func holdPast(t testing.TB, text string, place int) {
	t.Helper()
	if _, f := Parse(text); f.Err != 0 && f.At <= place {
		t.Errorf("%.200q: %v, but nothing is wrong up to %d", text, f, place)
	}
	holdText(t, text)
}

// front is all of a function ahead of its statements.
const front = "fn f() int { "

// inBody tells a program of one function that has the statements.
func inBody(statements string) string { return front + statements + " }" }

// inTree tells the text of the tree of inBody's program.
func inTree(statements string) string {
	return strings.TrimSuffix("(prog (fn f int (block "+statements, " ") + ")))"
}

// Promise 8.1: trees of texts, written out.
func TestTrees(t *testing.T) {
	for _, x := range [][2]string{
		{"", ""}, {"var a = 1;", "(var a 1)"}, {"var a = b + 1 * c;", "(var a (+ b (* 1 c)))"}, {"a = nil;", "(set a nil)"}, {"a = b == c;", "(set a (== b c))"}, {"a = f();", "(set a (call f))"}, {"a = b[1];", "(set a (at b 1))"},
		{"a[1] = 2;", "(put a 1 2)"}, {"a[b[c]] = d[e];", "(put a (at b c) (at d e))"}, {"a[-1] = !b;", "(put a (neg 1) (not b))"}, {"a[(1)] = (2);", "(put a 1 2)"}, {"a[b || c] = d && e;", "(put a (|| b c) (&& d e))"},
		{"f();", "(do (call f))"}, {"g(1);", "(do (call g 1))"}, {"g(a, f(b), -c);", "(do (call g a (call f b) (neg c)))"}, {"f(1, 2, 3, 4, 5, 6, 7, 8);", "(do (call f 1 2 3 4 5 6 7 8))"},
		{"if a { }", "(if a (block))"}, {"if a { } else { }", "(if a (block) (block))"}, {"if a < b { break; } else { continue; f(); }", "(if (< a b) (block (break)) (block (continue) (do (call f))))"},
		{"if a { if b { } } else { }", "(if a (block (if b (block))) (block))"}, {"if a { if b { } else { } }", "(if a (block (if b (block) (block))))"}, {"if a { } if b { } else { }", "(if a (block)) (if b (block) (block))"}, {"if a { } else { if b { } else { } }", "(if a (block) (block (if b (block) (block))))"},
		{"if (a) { }", "(if a (block))"}, {"if f(a) { }", "(if (call f a) (block))"}, {"if new(1)[0] == 1 { }", "(if (== (at (new 1) 0) 1) (block))"},
		{"while true { }", "(while true (block))"}, {"while a { while b { c(); } }", "(while a (block (while b (block (do (call c))))))"}, {"while !a { a = b; } f();", "(while (not a) (block (set a b))) (do (call f))"},
		{"for i = 0, 9 { }", "(for i 0 9 (block))"}, {"for i = a + 1, len(x) { x[i] = i; }", "(for i (+ a 1) (len x) (block (put x i i)))"}, {"for i = f(1, 2), g(3, 4) { for j = i, i { } }", "(for i (call f 1 2) (call g 3 4) (block (for j i i (block))))"},
		{"break;", "(break)"}, {"continue;", "(continue)"}, {"break; break; continue;", "(break) (break) (continue)"}, {"return a;", "(return a)"}, {"return -9223372036854775807 - 1;", "(return (- (neg 9223372036854775807) 1))"}, {"print 007;", "(print 7)"}, {"print len(x) > 1;", "(print (> (len x) 1))"}, {"return 1; print 2;", "(return 1) (print 2)"},
		{"variable = fnord; iff(); lens[0] = 1;", "(set variable fnord) (do (call iff)) (put lens 0 1)"}, {"_ = __; a0 = B_1;", "(set _ __) (set a0 B_1)"},
	} {
		holdTree(t, inBody(x[0]), inTree(x[1]))
		holdTree(t, front+x[0]+"}", inTree(x[1]))
		holdTree(t, inBody(x[0]+" "+x[0]), inTree(strings.TrimSpace(x[1]+" "+x[1])))
		holdTree(t, inBody("if c { "+x[0]+" }"), inTree(strings.TrimSuffix("(if c (block "+x[1], " ")+"))"))
	}
	holdTree(t, "fn f(a int, b arr) bool { return a; } fn g() arr { } fn f() int { }", "(prog (fn f bool (a int) (b arr) (block (return a))) (fn g arr (block)) (fn f int (block)))")
	holdTree(t, "fn main(x arr) int { print len(x); }", "(prog (fn main int (x arr) (block (print (len x)))))")
}

// Promise 8.1: of each kind of statement the node, its kids in their order, and where each stands, written out.
func TestNodes(t *testing.T) {
	num := func(n, at int) api.Node { return api.Node{Kind: api.NNum, N: n, At: at} }
	for _, x := range []struct {
		text string
		want []api.Node
	}{
		{"var  a  =  1 ;", []api.Node{num(1, 11), {Kind: api.NLet, S: "a", Kids: []int{0}, At: 5}}},
		{" a  =  1 ;", []api.Node{num(1, 7), {Kind: api.NSet, S: "a", Kids: []int{0}, At: 1}}},
		{" a  [ 1 ]  =  2 ;", []api.Node{num(1, 6), num(2, 14), {Kind: api.NPut, S: "a", Kids: []int{0, 1}, At: 4}}},
		{" g  ( 1 , 2 ) ;", []api.Node{num(1, 6), num(2, 10), {Kind: api.NCall, S: "g", Kids: []int{0, 1}, At: 1}, {Kind: api.NDo, Kids: []int{2}, At: 1}}},
		{" if  1  { }", []api.Node{num(1, 5), {Kind: api.NBlock, At: 8}, {Kind: api.NIf, Kids: []int{0, 1}, At: 1}}},
		{" if  1  { }  else  { }", []api.Node{num(1, 5), {Kind: api.NBlock, At: 8}, {Kind: api.NBlock, At: 19}, {Kind: api.NIf, Kids: []int{0, 1, 2}, At: 1}}},
		{" if  1  { break; }  else  { print 2; }", []api.Node{num(1, 5), {Kind: api.NBreak, At: 10}, {Kind: api.NBlock, Kids: []int{1}, At: 8}, num(2, 34), {Kind: api.NPrint, Kids: []int{3}, At: 28}, {Kind: api.NBlock, Kids: []int{4}, At: 26}, {Kind: api.NIf, Kids: []int{0, 2, 5}, At: 1}}},
		{" while  1  { break; continue; }", []api.Node{num(1, 8), {Kind: api.NBreak, At: 13}, {Kind: api.NContinue, At: 20}, {Kind: api.NBlock, Kids: []int{1, 2}, At: 11}, {Kind: api.NWhile, Kids: []int{0, 3}, At: 1}}},
		{" for  i  =  1 , 2  { }", []api.Node{num(1, 12), num(2, 16), {Kind: api.NBlock, At: 19}, {Kind: api.NFor, S: "i", Kids: []int{0, 1, 2}, At: 6}}},
		{" break  ;", []api.Node{{Kind: api.NBreak, At: 1}}},
		{" continue  ;", []api.Node{{Kind: api.NContinue, At: 1}}},
		{" return  1 ;", []api.Node{num(1, 9), {Kind: api.NReturn, Kids: []int{0}, At: 1}}},
		{" print  1 ;", []api.Node{num(1, 8), {Kind: api.NPrint, Kids: []int{0}, At: 1}}},
	} {
		want := slices.Clone(x.want)
		for i := range want {
			want[i].At += len(front)
		}
		n := len(want)
		want = append(want, api.Node{Kind: api.NBlock, Kids: []int{n - 1}, At: 11}, api.Node{Kind: api.NFunc, S: "f", N: api.Int, Kids: []int{n}, At: 3}, api.Node{Kind: api.NProg, Kids: []int{n + 1}})
		if a, f := Parse(inBody(x.text)); !same(a, want) || f != (api.Fault{}) {
			t.Errorf("%q: %v %v, want %v", x.text, a, f, want)
		}
	}
	want := []api.Node{{Kind: api.NParam, S: "a", N: api.Int, At: 8}, {Kind: api.NParam, S: "b", N: api.Arr, At: 17}, {Kind: api.NBlock, At: 33}, {Kind: api.NFunc, S: "f", N: api.Bool, Kids: []int{0, 1, 2}, At: 5},
		{Kind: api.NBlock, At: 51}, {Kind: api.NFunc, S: "g", N: api.Arr, Kids: []int{4}, At: 42}, {Kind: api.NProg, Kids: []int{3, 5}}}
	if a, f := Parse(" fn  f( a  int,  b  arr )  bool  { }  fn  g ( ) arr{ }"); f != (api.Fault{}) || !same(a, want) {
		t.Errorf("%v %v, want %v", a, f, want)
	}
}

// Promise 8.1: a name, and each token behind it.
func TestBehindName(t *testing.T) {
	for _, name := range []string{"a", "_", "fnn", strings.Repeat("x", 32)} {
		at := len(front+name) + 1
		holdFault(t, front+name+" ", api.ErrWant, at)
		for _, w := range others("=", "[", "(") {
			holdFault(t, inBody(name+" "+w), api.ErrWant, at)
			holdFault(t, inBody(name+" "+w+" 1;"), api.ErrWant, at)
			holdFault(t, inBody("if b { "+name+" "+w+" }"), api.ErrWant, at+7)
		}
		for _, w := range []string{"=", "[", "("} {
			holdPast(t, inBody(name+" "+w), at)
		}
	}
	for text, at := range map[string]int{"a[1][2] = 3;": 4, "a[1];": 4, "a[1] 2;": 5, "a[] = 1;": 2, "a[1, 2] = 3;": 3, "a[1) = 2;": 3, "a[1 = 2;": 4, "a(1)[2] = 3;": 4, "a(1) = 2;": 5, "a(1)(2);": 4, "a(1) + 2;": 5, "a(1,);": 4, "a(;": 2, "a(1;": 3, "a = ;": 4, "a = = 1;": 4, "a = b = c;": 6, "a == 1;": 2, "a + 1;": 2, "a, b = 1;": 1, "(a) = 1;": 0, "-a;": 0, "1;": 0, ";": 0, "a = 1;;": 6, "len(a);": 0, "new(a);": 0, "true;": 0, "{ }": 0, "{ a = 1; }": 0, "a = { };": 4} {
		holdFault(t, inBody(text), api.ErrWant, len(front)+at)
	}
}

// Promise 8.1: each token where a statement must begin: those with which one can, the } that ends them, and the others, which are wrong there.
func TestWhatCanBegin(t *testing.T) {
	for _, before := range []string{"", "a = 1; ", "f(); ", "if b { } else { } ", "while b { } ", "break; ", "if b { ", "if b { } else { ", "while b { ", "for i = 0, 1 { ", "for i = 0, 1 { } ", "if b { while c { } "} {
		at := len(front + before)
		holdFault(t, front+before, api.ErrWant, at)
		for _, w := range others(append(starters, "}")...) {
			holdFault(t, inBody(before+w), api.ErrWant, at)
			holdFault(t, inBody(before+w+" a = 1;"), api.ErrWant, at)
			holdFault(t, front+before+w, api.ErrWant, at)
		}
		for _, w := range starters {
			holdPast(t, inBody(before+w), at)
			holdFault(t, front+before+w, api.ErrWant, at+len(w))
		}
		holdPast(t, front+before+"}", at)
	}
	// Only right behind its block may there be an else, and one alone.
	for _, w := range []string{"if b { } ", "if b { while c { } } "} {
		holdPast(t, inBody(w+"else"), len(front+w))
		holdFault(t, inBody(w+"else { } else { }"), api.ErrWant, len(front+w)+9)
		holdFault(t, inBody(w+"else if c { }"), api.ErrWant, len(front+w)+5)
		holdFault(t, inBody(w+"break; else { }"), api.ErrWant, len(front+w)+7)
		holdFault(t, inBody(w+"} else { }"), api.ErrWant, len(front+w)+2)
	}
}

// Promise 8.1: at each place of a text each token: those that can stand there, and the others, which are wrong there.
func TestEachPlace(t *testing.T) {
	behind := append([]string{"["}, opList...)
	// A part stands there, and what else can.
	type part struct {
		word string
		also []string
	}
	is := func(word string) part { return part{word, nil} }
	some, more := part{"7", beginners}, func(word string, also ...string) part { return part{word, append(also, behind...)} }
	name, block := part{"b", []string{"a"}}, []part{is("{"), {"}", starters}}
	text := func(words ...any) []part {
		var l []part
		for _, w := range words {
			switch w := w.(type) {
			case string:
				l = append(l, is(w))
			case part:
				l = append(l, w)
			case []part:
				l = append(l, w...)
			}
		}
		return l
	}
	first := func(word string) part { return part{word, append([]string{"}"}, starters...)} }
	kind := part{"int", kindList}
	parts := map[string][]part{
		"let":      text(first("var"), name, "=", some, more(";")),
		"set":      text(first("b"), part{"=", []string{"[", "("}}, some, more(";")),
		"put":      text(first("b"), part{"[", []string{"=", "("}}, some, more("]"), "=", some, more(";")),
		"do":       text(first("b"), part{"(", []string{"[", "="}}, part{"7", append([]string{")"}, beginners...)}, more(",", ")"), some, more(")", ","), ";"),
		"do none":  text(first("b"), part{"(", []string{"[", "="}}, part{")", beginners}, ";"),
		"if":       text(first("if"), some, more("{"), part{"}", starters}),
		"else":     text(first("if"), some, more("{"), part{"}", starters}, part{"else", append([]string{"}"}, starters...)}, block),
		"while":    text(first("while"), some, more("{"), part{"}", starters}),
		"for":      text(first("for"), name, "=", some, more(","), some, more("{"), part{"}", starters}),
		"break":    text(first("break"), ";"),
		"continue": text(first("continue"), ";"),
		"return":   text(first("return"), some, more(";")),
		"print":    text(first("print"), some, more(";")),
	}
	hold := func(what, before string, l []part, after string) {
		t.Helper()
		for i := range l {
			s := before
			for _, p := range l[:i] {
				s += p.word + " "
			}
			rest := ""
			for _, p := range l[i+1:] {
				rest += " " + p.word
			}
			rest += after
			if l[i].word != "fn" {
				holdFault(t, s, api.ErrWant, len(s))
			}
			can := append([]string{l[i].word}, l[i].also...)
			if l[i].word == "b" {
				can = append(can, "a")
			}
			for _, w := range allWords() {
				if slices.Contains(can, w) {
					holdPast(t, s+w+rest, len(s))
					holdPast(t, s+w, len(s))
					continue
				}
				holdFault(t, s+w+rest, api.ErrWant, len(s))
				holdFault(t, s+w, api.ErrWant, len(s))
				holdFault(t, s+w+" "+l[i].word+rest, api.ErrWant, len(s))
			}
		}
		whole := before
		for _, p := range l {
			whole += p.word + " "
		}
		if !holdText(t, whole+after) {
			t.Errorf("%s is wrong: %q", what, whole+after)
		}
	}
	for what, l := range parts {
		hold(what, front, l, " }")
		hold(what, front+"while b { ", l, " } }")
		hold(what, front+"if b { } else { a = 1; ", l, " } f(); }")
	}
	hold("fn", "", text("fn", name, "(", part{"b", []string{"a", ")"}}, kind, part{",", []string{")"}}, name, kind, part{")", []string{","}}, kind, "{", part{"}", starters}), "")
	hold("second fn", inBody("")+" ", text("fn", name, "(", part{")", []string{"a"}}, kind, "{", part{"}", starters}), " fn a() arr { }")
}

// parameters tells n of them, with commas between.
func parameters(n int) string {
	l := make([]string, n)
	for i := range l {
		l[i] = fmt.Sprintf("p%d %s", i, kindList[i%3])
	}
	return strings.Join(l, ", ")
}

// Promise 8.1: functions of up to eight parameters, and the name of the ninth.
func TestParameters(t *testing.T) {
	for n := range 9 {
		want := ""
		for i := range n {
			want += fmt.Sprintf("(p%d %s) ", i, kindList[i%3])
		}
		holdTree(t, "fn f("+parameters(n)+") arr { }", "(prog (fn f arr "+want+"(block)))")
	}
	eight := "fn f(" + parameters(8)
	for n := 9; n < 300; n *= 2 {
		holdFault(t, "fn f("+parameters(n)+") int { }", api.ErrLong, len(eight)+2)
	}
	// At its name, whatever stands behind it; a token that is no name cannot stand there.
	holdFault(t, eight+", ", api.ErrWant, len(eight)+2)
	holdFault(t, eight+", p", api.ErrLong, len(eight)+2)
	for _, w := range others("a") {
		holdFault(t, eight+", "+w, api.ErrWant, len(eight)+2)
		holdFault(t, eight+", "+w+" int) int { }", api.ErrWant, len(eight)+2)
		holdFault(t, eight+", p "+w, api.ErrLong, len(eight)+2)
	}
	holdFault(t, "fn f(p, "+parameters(9), api.ErrWant, 6)
	holdFault(t, "fn f("+parameters(7)+", p;"+parameters(9), api.ErrWant, len("fn f("+parameters(7)+", p"))
	holdFault(t, "fn f(,) int { }", api.ErrWant, 5)
	holdFault(t, "fn f(a int b int) int { }", api.ErrWant, 11)
	holdFault(t, "fn f(a int,) int { }", api.ErrWant, 11)
	holdFault(t, "fn f(int a) int { }", api.ErrWant, 5)
	holdFault(t, "fn f((a int)) int { }", api.ErrWant, 5)
	holdTree(t, "fn f(f int, f arr) int { }", "(prog (fn f int (f int) (f arr) (block)))")
}

// Promise 8.1: the words of the three kinds, and all others, where one must stand.
func TestKinds(t *testing.T) {
	for i, w := range kindList {
		for j, v := range kindList {
			a, f := Parse("fn f(a " + w + ") " + v + " { }")
			if f != (api.Fault{}) || a[0].N != i+1 || a[2].N != j+1 || a[0].Kind != api.NParam || a[2].Kind != api.NFunc {
				t.Errorf("%s, %s: %v %v", w, v, a, f)
			}
		}
		holdFault(t, "fn f() "+w+" "+w+" { }", api.ErrWant, 8+len(w))
		holdFault(t, "fn f(a "+w+" "+w+") int { }", api.ErrWant, 8+len(w))
	}
	for _, w := range append(others(kindList...), "Int", "ints", "array", "boolean", "i", "integer", "INT") {
		holdFault(t, "fn f() "+w+" { }", api.ErrWant, 7)
		holdFault(t, "fn f(a "+w+") int { }", api.ErrWant, 7)
		holdFault(t, "fn f(a "+w+", b int) int { }", api.ErrWant, 7)
	}
	holdFault(t, "fn f() ", api.ErrWant, 7)
	holdFault(t, "fn f(a ", api.ErrWant, 7)
	holdFault(t, "fn f() { }", api.ErrWant, 7)
	holdFault(t, "fn f(a) int { }", api.ErrWant, 6)
}

// Promise 8.1: no function, one, 200, and the fn of the next one, whatever stands behind it.
func TestFunctions(t *testing.T) {
	one := "fn f() int { }"
	for _, n := range []int{0, 1, 2, 199, 200} {
		text := strings.Repeat(one+"\n", n)
		a, f := Parse(text)
		if len(a) != 2*n+1 || f != (api.Fault{}) || len(a[2*n].Kids) != n {
			t.Fatalf("%d functions: %d nodes, %v", n, len(a), f)
		}
		for i, k := range a[2*n].Kids {
			if k != 2*i+1 || a[k].At != i*(len(one)+1)+3 {
				t.Errorf("function %d of %d: at %d", i, n, a[k].At)
			}
		}
		holdText(t, text)
		for _, w := range others("fn") {
			holdFault(t, text+w, api.ErrWant, len(text))
			holdFault(t, text+w+" "+one, api.ErrWant, len(text))
		}
	}
	full := strings.Repeat(one, 200)
	holdFault(t, full+one, api.ErrLong, len(full))
	holdFault(t, full+" fn", api.ErrLong, len(full)+1)
	holdFault(t, strings.Repeat(one, 4000), api.ErrLong, len(full))
	for _, w := range allWords() {
		holdFault(t, full+"fn "+w, api.ErrLong, len(full))
		holdFault(t, full+"fn f"+w, api.ErrLong, len(full))
	}
	holdFault(t, full+"fn f("+parameters(9)+") int { }", api.ErrLong, len(full))
	holdFault(t, full+inBody("x = "+strings.Repeat("(", 300)), api.ErrLong, len(full))
	holdFault(t, full+"; fn", api.ErrWant, len(full))
	holdFault(t, full[:len(full)-1]+"fn f() int { }", api.ErrWant, len(full)-1)
}

// nest tells a text with n times what opens, and behind the core n times what closes.
func nest(n int, open, core, close string) string {
	return strings.Repeat(open, n) + core + strings.Repeat(close, n)
}

// Promise 8.1: blocks one in another. Each is two high, its statement and itself, so those that are not too deep may yet be too high.
func TestLevelsOfBlocks(t *testing.T) {
	for _, open := range []string{"if a {", "while a {", "for i = 0, 1 {", "if a { } else {"} {
		at := len(front)
		first, brace := strings.Index(open, "{"), len(open)-1
		for n := 195; n <= 205; n++ {
			text := front + nest(n, open, "", "}") + "}"
			// The function's own { is the first level.
			if n >= 200 {
				holdFault(t, text, api.ErrDeep, at+199*len(open)+first)
				holdFault(t, front+strings.Repeat(open, n), api.ErrDeep, at+199*len(open)+first)
				continue
			}
			// The block that is 201 high has a hundred others inside.
			holdFault(t, text, api.ErrDeep, at+(n-101)*len(open)+brace)
			holdFault(t, front+strings.Repeat(open, n), api.ErrWant, at+n*len(open))
			holdFault(t, front+strings.Repeat(open, n)+"1", api.ErrWant, at+n*len(open))
		}
		// 98 of them are 196 high; the block around, the function and the program come to 199.
		for n := range 110 {
			if got := holdText(t, front+nest(n, open, "", "}")+"}"); got != (n <= 98) {
				t.Errorf("%d times %s: %v", n, open, got)
			}
		}
		holdFault(t, front+nest(99, open, "", "}")+"}", api.ErrDeep, 0)
		holdFault(t, front+nest(100, open, "", "}")+"}", api.ErrDeep, 11)
		holdFault(t, " "+front+nest(101, open, "", "}")+"}", api.ErrDeep, 1+len(front)+brace)
		for n := 95; n <= 205; n++ {
			holdText(t, front+nest(n, "if b { f(); } else { } "+open, "a[1] = 2;", "}")+"}")
		}
	}
	// Levels end with their blocks.
	holdText(t, inBody(strings.Repeat("if a { } else { } while b { f((1)); } for i = (0), -1 { } ", 300)))
	if !holdText(t, inBody(strings.Repeat("if a { } ", 5000))) || !holdText(t, inBody(strings.Repeat("f(((1))); ", 5000))) {
		t.Error("levels that are closed count")
	}
}

// Promise 8.1: blocks around brackets and signs in front: 200 levels, and one more, at the token that opens it.
func TestLevelsWithin(t *testing.T) {
	for _, x := range []struct{ open, close string }{{"(", ")"}, {"f((", "))"}, {"(-", ")"}, {"((a[", "]))"}, {"(len((", ")))"}, {"(!(", "))"}} {
		var opens []int
		for i := range x.open {
			if strings.ContainsAny(x.open[i:i+1], "([-!") {
				opens = append(opens, i)
			}
		}
		for _, s := range []struct{ before, after string }{{"a = ", ";"}, {"var a = ", ";"}, {"print ", ";"}, {"return ", ";"}, {"if ", " { }"}, {"while ", " { }"}, {"for i = ", ", 1 { }"}, {"for i = (-1), ", " { }"}, {"a[(-(1))] = ", ";"}} {
			for _, blocks := range []int{0, 1, 2, 40} {
				before := front + strings.Repeat("while b {", blocks) + s.before
				// As many levels as are left, and then one more.
				left := 200 - (blocks + 1)
				n := left / len(opens)
				holdPast(t, before+nest(n, x.open, "c", x.close)+s.after+strings.Repeat("}", blocks+1), len(before)+n*len(x.open))
				n++
				want := len(before) + (n-1)*len(x.open) + opens[left%len(opens)]
				holdFault(t, before+nest(n, x.open, "c", x.close)+s.after+strings.Repeat("}", blocks+1), api.ErrDeep, want)
				holdFault(t, before+strings.Repeat(x.open, 300), api.ErrDeep, want)
			}
		}
	}
	// A [ and a ( behind a statement's name are levels, too, up to their ends.
	holdFault(t, inBody("a["+nest(199, "(", "1", ")")+"] = 1;"), api.ErrDeep, len(front)+200)
	holdFault(t, inBody("f("+nest(199, "(", "1", ")")+");"), api.ErrDeep, len(front)+200)
	for n := 197; n <= 199; n++ {
		if got := holdText(t, inBody("a["+nest(n, "(", "1", ")")+"] = 1;")); got != (n <= 198) {
			t.Errorf("a [ and %d: %v", n, got)
		}
		if got := holdText(t, inBody("f("+nest(n, "(", "1", ")")+");")); got != (n <= 198) {
			t.Errorf("a ( and %d: %v", n, got)
		}
		if got := holdText(t, inBody("a = "+nest(n, "(", "1", ")")+";")); got != (n <= 199) {
			t.Errorf("%d: %v", n, got)
		}
		if got := holdText(t, inBody("a[1] = "+nest(n, "(", "1", ")")+";")); got != (n <= 199) {
			t.Errorf("behind a ]: %d: %v", n, got)
		}
	}
	deep := front + strings.Repeat("if a {", 199)
	holdFault(t, deep+"a[", api.ErrDeep, len(deep)+1)
	holdFault(t, deep+"a(", api.ErrDeep, len(deep)+1)
	holdFault(t, deep+"a = -", api.ErrDeep, len(deep)+4)
	holdFault(t, deep+"if a {", api.ErrDeep, len(deep)+5)
	holdFault(t, deep+"if (", api.ErrDeep, len(deep)+3)
	holdFault(t, deep+"a = 1; a = ;", api.ErrWant, len(deep)+11)
	// What cannot stand there opens no level.
	for _, w := range []string{"{", "(", "[", "-", "!"} {
		holdFault(t, deep+w, api.ErrWant, len(deep))
		holdFault(t, deep+"break "+w, api.ErrWant, len(deep)+6)
	}
	holdFault(t, deep+"if {", api.ErrWant, len(deep)+3)
	holdFault(t, deep+"a {", api.ErrWant, len(deep)+2)
}

// high tells an expression of that height.
func high(n int) string { return "a" + strings.Repeat("+a", n-1) }

// Promise 8.1: heights of 200 and of 201, of each node that can be that high.
func TestHeights(t *testing.T) {
	for _, x := range []struct {
		before, after string
		at            int
	}{
		{"var v = ", ";", 4}, {"v = ", ";", 0}, {"v[", "] = 1;", 1}, {"v[1] = ", ";", 1}, {"if ", " { }", 0}, {"if ", " { } else { }", 0}, {"while ", " { }", 0}, {"for i = ", ", 1 { }", 4}, {"for i = 1, ", " { }", 4}, {"return ", ";", 0}, {"print ", ";", 0},
	} {
		text := func(n int) string { return inBody(x.before + high(n) + x.after) }
		// The statement, its block, the function and the program are above it.
		holdFault(t, text(200), api.ErrDeep, len(front)+x.at)
		holdFault(t, text(199), api.ErrDeep, 11)
		holdFault(t, text(198), api.ErrDeep, 3)
		holdFault(t, text(197), api.ErrDeep, 0)
		a, f := Parse(text(196))
		if h := tree.Heights(a); f.Err != 0 || slices.Max(h) != 200 || !holdText(t, text(196)) {
			t.Errorf("%s: %v", x.before, f)
		}
		holdFault(t, text(201), api.ErrDeep, len(front+x.before)+2*200-1)
		holdFault(t, inBody("if b { "+x.before+high(199)+x.after+" }"), api.ErrDeep, len(front)+5)
		holdFault(t, inBody("if b { } else { "+x.before+high(198)+x.after+" }"), api.ErrDeep, len(front))
		holdFault(t, inBody("for j = 1, 2 { "+x.before+high(198)+x.after+" }"), api.ErrDeep, len(front)+4)
	}
	// A call that is a statement is one higher than its arguments by itself.
	holdFault(t, inBody("f(1, "+high(200)+");"), api.ErrDeep, len(front))
	holdFault(t, inBody(" f("+high(199)+");"), api.ErrDeep, len(front)+1)
	holdFault(t, inBody("f("+high(198)+");"), api.ErrDeep, 11)
	holdFault(t, inBody("f("+high(195)+");")+inBody("f("+high(196)+");"), api.ErrDeep, 0)
	if !holdText(t, inBody("f("+high(195)+");")) {
		t.Error("200 high is wrong")
	}
	// The program itself stands at 0, wherever its first token does.
	holdFault(t, " \n # "+"\n"+inBody("print "+high(197)+";"), api.ErrDeep, 0)
}

// Promise 8.1: what is wrong first, where two things are.
func TestWhatIsWrongFirst(t *testing.T) {
	// A statement's end is a part of it: its node is laid behind it.
	holdFault(t, inBody("print "+high(200)), api.ErrWant, len(inBody("print "+high(200)))-1)
	holdFault(t, inBody("v = "+high(200)+"}"), api.ErrWant, len(front+"v = "+high(200)))
	holdFault(t, inBody("f("+high(199)+") v"), api.ErrWant, len(front+"f("+high(199)+") "))
	holdFault(t, inBody("f("+high(200)+") v"), api.ErrDeep, len(front))
	holdFault(t, inBody("v["+high(200)+"] = 1 1;"), api.ErrWant, len(front+"v["+high(200)+"] = 1 "))
	holdFault(t, inBody("for i = "+high(200)+", 1;"), api.ErrWant, len(front+"for i = "+high(200)+", 1"))
	holdFault(t, inBody("while "+high(200)+" { 1"), api.ErrWant, len(front+"while "+high(200)+" { "))
	// An if is all read where no else comes.
	holdFault(t, inBody("if "+high(200)+" { } 1"), api.ErrDeep, len(front))
	holdFault(t, inBody("if "+high(200)+" { } else 1"), api.ErrWant, len(front+"if "+high(200)+" { } else "))
	holdFault(t, inBody("if "+high(200)+" { } else { } 1"), api.ErrDeep, len(front))
	// So are a block at its end, and a function at its block's.
	holdFault(t, inBody("print "+high(199)+"; 1"), api.ErrWant, len(front+"print "+high(199)+"; "))
	holdFault(t, inBody("print "+high(199)+";")+" 1", api.ErrDeep, 11)
	holdFault(t, inBody("print "+high(198)+";")+" 1", api.ErrDeep, 3)
	holdFault(t, inBody("print "+high(197)+";")+" 1", api.ErrWant, len(inBody("print "+high(197)+";"))+1)
	holdFault(t, inBody("print "+high(197)+";")+" fn", api.ErrWant, len(inBody("print "+high(197)+";"))+3)
	holdFault(t, inBody("print "+high(197)+";")+strings.Repeat(inBody(""), 200), api.ErrLong, len(inBody("print "+high(197)+";")+strings.Repeat(inBody(""), 199)))
	// Else from the left.
	holdFault(t, inBody("1; f("+strings.Repeat("1,", 8)+"1);"), api.ErrWant, len(front))
	holdFault(t, inBody("f("+strings.Repeat("1,", 8)+"1); 1;"), api.ErrLong, len(front)+18)
	holdFault(t, "fn f("+parameters(9)+" 1", api.ErrLong, len("fn f("+parameters(8))+2)
	holdFault(t, "fn 1("+parameters(9), api.ErrWant, 3)
	holdFault(t, inBody(strings.Repeat("if a {", 200)+"1"), api.ErrDeep, len(front)+199*6+5)
	holdFault(t, inBody("; "+strings.Repeat("if a {", 200)), api.ErrWant, len(front))
	holdFault(t, inBody("print "+high(201)+"; 1"), api.ErrDeep, len(front)+6+399)
	holdFault(t, "fn f() { 1", api.ErrWant, 7)
	holdFault(t, "1 2", api.ErrWant, 0)
	holdFault(t, "fn fn", api.ErrWant, 3)
	holdFault(t, "fn f() int { if 1 }", api.ErrWant, 18)
	holdFault(t, "fn f() int { a; }", api.ErrWant, 14)
	holdFault(t, "fn f() int {", api.ErrWant, 12)
	holdFault(t, "fn f() int { } }", api.ErrWant, 15)
	holdFault(t, "fn f() int { }; fn", api.ErrWant, 14)
	holdFault(t, "a = 1;", api.ErrWant, 0)
}

// Promise 8.1: lex's faults, and their places, ahead of all else, wherever they are.
func TestFaultsOfLex(t *testing.T) {
	long := strings.Repeat("n", 33)
	for _, before := range []string{"", "x ", "fn ", "fn f() { ", inBody("") + " ", inBody("1"), "} ", inBody(strings.Repeat("(", 300)) + " ", strings.Repeat(inBody(""), 201)} {
		for _, after := range []string{"", " x", " fn f(", " $"} {
			holdFault(t, before+"$"+after, api.ErrToken, len(before))
			holdFault(t, before+"|"+after, api.ErrToken, len(before))
			holdFault(t, before+"\x00"+after, api.ErrToken, len(before))
			holdFault(t, before+"\xff"+after, api.ErrToken, len(before))
			holdFault(t, before+"9223372036854775808"+after, api.ErrRange, len(before))
			holdFault(t, before+long+after, api.ErrLong, len(before))
		}
	}
	holdFault(t, "fn f() int { } $", api.ErrToken, 15)
	holdFault(t, "fn "+long+"() int { }", api.ErrLong, 3)
	holdFault(t, inBody("var "+long+" = 9223372036854775808;"), api.ErrLong, len(front)+4)
	// One byte too many, whatever stands there.
	for _, s := range []string{" ", "\n", "#", "fn ", "$", inBody(""), "é"} {
		text := strings.Repeat(s, api.MaxText/len(s)+1)[:api.MaxText+1]
		holdFault(t, text, api.ErrLong, 0)
		holdText(t, text[:api.MaxText])
	}
	text := inBody(strings.Repeat("f();", 16000))
	text += strings.Repeat(" ", api.MaxText-len(text))
	if !holdText(t, text) {
		t.Error("as long as may be is wrong")
	}
	holdFault(t, text+" ", api.ErrLong, 0)
}

// Promise 8.1: texts without a token are a program without functions.
func TestNothing(t *testing.T) {
	for _, text := range []string{"", " ", "\n", "\t\r\n ", "# remark", "#", "#\n", " # fn f\n# ;", strings.Repeat(" ", api.MaxText), "#" + strings.Repeat("x", api.MaxText-1)} {
		a, f := Parse(text)
		if f != (api.Fault{}) || !same(a, []api.Node{{Kind: api.NProg}}) || !tree.Whole(a) {
			t.Errorf("%.50q: %v %v", text, a, f)
		}
		holdTree(t, text, "(prog)")
	}
}

// Promises 8.1, 8.2: all texts of a few tokens, of all kinds and of those that matter, as a whole and within a function.
func TestShortTexts(t *testing.T) {
	for _, x := range []struct {
		before, after string
		words         []string
		most          int
	}{
		{"", "", allWords(), 2}, {front, "}", allWords(), 3}, {"fn f(", ") int { }", allWords(), 2}, {front + "if a {", "} }", allWords(), 2},
		{"", "", strings.Fields("fn f ( ) int { } ,"), 5}, {"fn f", "}", strings.Fields("( ) , a int {"), 6}, {front, "}", strings.Fields("a = 1 ; [ ] ("), 6},
		{front, "}", strings.Fields("if else 1 { } while"), 7}, {front + "for", "{ } }", strings.Fields("i = , 1 ( )"), 6}, {front + "var", "}", strings.Fields("i = 1 ; -"), 6},
		{front, "}", strings.Fields("break continue return print 1 ;"), 6},
	} {
		rights := 0
		var fill func(text string, n int)
		fill = func(text string, n int) {
			if holdText(t, x.before+" "+text+" "+x.after) {
				rights++
			}
			for _, w := range x.words {
				if n > 0 {
					fill(text+" "+w, n-1)
				}
			}
		}
		fill("", x.most)
		if rights == 0 {
			t.Errorf("of %v none is read", x.words)
		}
	}
}

// planter makes programs in any order, each with the text of its tree.
type planter struct{ dice *rand.Rand }

func (p planter) name() string {
	return []string{"a", "b", "x1", "_", "fnx", "Arr"}[p.dice.Intn(6)]
}

// expression tells one, of a single part or in brackets, and its tree's text.
func (p planter) expression(deep int) (string, string) {
	list := func(n int) (string, string) {
		var l, w []string
		for range n {
			s, x := p.expression(deep - 1)
			l, w = append(l, s), append(w, " "+x)
		}
		return strings.Join(l, ","), strings.Join(w, "")
	}
	n := p.dice.Intn(12)
	if deep == 0 {
		n %= 4
	}
	switch n {
	case 0, 1:
		s := p.name()
		return s, s
	case 2:
		s := fmt.Sprint(p.dice.Int63n(1000))
		return s, s
	case 3:
		s := []string{"true", "false", "nil"}[p.dice.Intn(3)]
		return s, s
	case 4:
		s, w := p.expression(deep - 1)
		return "(-" + s + ")", "(neg " + w + ")"
	case 5:
		s, w := p.expression(deep - 1)
		return "(!" + s + ")", "(not " + w + ")"
	case 6, 7:
		name := p.name()
		s, w := list(p.dice.Intn(9))
		return name + "(" + s + ")", "(call " + name + w + ")"
	case 8:
		word := []string{"len", "new"}[p.dice.Intn(2)]
		s, w := list(1)
		return word + "(" + s + ")", "(" + word + w + ")"
	case 9:
		s, v := p.expression(deep - 1)
		c, w := p.expression(deep - 1)
		return s + "[" + c + "]", "(at " + v + " " + w + ")"
	default:
		op := opList[p.dice.Intn(len(opList))]
		s, v := p.expression(deep - 1)
		c, w := p.expression(deep - 1)
		return "(" + s + op + c + ")", "(" + op + " " + v + " " + w + ")"
	}
}

func (p planter) block(deep int) (string, string) {
	var s, w strings.Builder
	for range p.dice.Intn(4) {
		x, y := p.statement(deep)
		s.WriteString(" " + x)
		w.WriteString(" " + y)
	}
	return "{" + s.String() + " }", "(block" + w.String() + ")"
}

func (p planter) statement(deep int) (string, string) {
	a, x := p.expression(2)
	b, y := p.expression(2)
	name := p.name()
	n := p.dice.Intn(12)
	if deep == 0 {
		n %= 8
	}
	switch n {
	case 0:
		return "var " + name + "=" + a + ";", "(var " + name + " " + x + ")"
	case 1:
		return name + "=" + a + ";", "(set " + name + " " + x + ")"
	case 2:
		return name + "[" + a + "]=" + b + ";", "(put " + name + " " + x + " " + y + ")"
	case 3:
		return name + "(" + a + "," + b + ");", "(do (call " + name + " " + x + " " + y + "))"
	case 4:
		return "break;", "(break)"
	case 5:
		return "continue;", "(continue)"
	case 6:
		return "return " + a + ";", "(return " + x + ")"
	case 7:
		return "print " + a + ";", "(print " + x + ")"
	}
	c, z := p.block(deep - 1)
	switch n {
	case 8:
		return "if " + a + c, "(if " + x + " " + z + ")"
	case 9:
		d, zz := p.block(deep - 1)
		return "if " + a + c + "else" + d, "(if " + x + " " + z + " " + zz + ")"
	case 10:
		return "while " + a + c, "(while " + x + " " + z + ")"
	}
	return "for " + name + "=" + a + "," + b + c, "(for " + name + " " + x + " " + y + " " + z + ")"
}

func (p planter) program() (string, string) {
	s, w := "", "(prog"
	for range p.dice.Intn(5) {
		name, kind := p.name(), kindList[p.dice.Intn(3)]
		var l []string
		params := ""
		for range p.dice.Intn(9) {
			q := p.name() + " " + kindList[p.dice.Intn(3)]
			l, params = append(l, q), params+" ("+q+")"
		}
		b, x := p.block(4)
		s += "fn " + name + "(" + strings.Join(l, ",") + ")" + kind + b
		w += " (fn " + name + " " + kind + params + " " + x + ")"
	}
	return s, w + ")"
}

// Promises 8.1, 8.2: programs are read as they were made; with a token more, less or another one, as the rules say.
func TestPlantedPrograms(t *testing.T) {
	p := planter{rand.New(rand.NewSource(8))}
	words := allWords()
	for range 1500 {
		text, want := p.program()
		holdTree(t, text, want)
		l, _ := lex.Tokens(text)
		for range 5 {
			k := p.dice.Intn(len(l))
			w := words[p.dice.Intn(len(words))]
			at, end := l[k].At, l[k].At+len(l[k].Text)
			holdText(t, text[:at]+" "+w+" "+text[at:])
			holdText(t, text[:at]+" "+w+" "+text[end:])
			holdText(t, text[:at]+" "+text[end:])
			holdText(t, text[:at])
		}
	}
}

// Promise 8.1: long texts of tokens in any order, most of them ones that may stand there.
func TestLongTexts(t *testing.T) {
	dice := rand.New(rand.NewSource(9))
	p := planter{dice}
	pieces := []string{"if a {", "while a {", "for i = 0, a {", "}", "}", "else {", "f(", "a =", "a[", "] =", ";", ")", "fn f(", ") int {", "a int,", "(", "-", "1", "+"}
	for range 10000 {
		var text strings.Builder
		text.WriteString(front)
		for range 1 + dice.Intn(40) {
			if dice.Intn(4) == 0 {
				text.WriteString(pieces[dice.Intn(len(pieces))] + " ")
				continue
			}
			s, _ := p.statement(1)
			text.WriteString(s + " ")
		}
		text.WriteString(strings.Repeat("}", dice.Intn(4)))
		holdText(t, text.String())
	}
}

// respaced tells the text's tokens with other blanks and remarks between them.
func respaced(dice *rand.Rand, l []api.Token) string {
	var s strings.Builder
	gap := func() {
		for n := dice.Intn(3); n >= 0; n-- {
			s.WriteString([]string{" ", "\n", "\t", "\r\n", "# fn f() { $ \xff\n", "#\n"}[dice.Intn(6)])
		}
	}
	for _, t := range l {
		gap()
		s.WriteString(t.Text)
	}
	gap()
	return s.String()
}

// Promise 8.2: other blanks and remarks between the tokens change places, and nothing else; each place is that of the same token.
func TestTokensAlone(t *testing.T) {
	dice := rand.New(rand.NewSource(10))
	p := planter{dice}
	for i := range 3000 {
		text, _ := p.program()
		l, _ := lex.Tokens(text)
		if i%2 == 1 {
			// Most of these are wrong at their end.
			text = text[:l[dice.Intn(len(l))].At]
			l, _ = lex.Tokens(text)
		}
		other := respaced(dice, l)
		m, _ := lex.Tokens(other)
		a, f := Parse(text)
		b, g := Parse(other)
		if !tree.Alike(a, b) || f.Err != g.Err {
			t.Fatalf("%q: %v %v, but %q: %v %v", text, a, f, other, b, g)
		}
		if f.Err != 0 && (tokenAt(l, f.At) < 0 || tokenAt(l, f.At) != tokenAt(m, g.At)) {
			t.Errorf("%q: %v, but %q: %v", text, f, other, g)
		}
		for i := range a {
			if k := tokenAt(l, a[i].At); a[i].Kind != api.NProg && (k < 0 || k != tokenAt(m, b[i].At)) {
				t.Errorf("%q: node %d at %d, but %q: at %d", text, i, a[i].At, other, b[i].At)
			}
		}
	}
	// Where no blank is needed, none is.
	few := "fn f(a int,b arr)bool{var c=1;c=a;b[c]=2;f(1,nil);if true{}else{break;}while c<2{continue;}for i=0,c{print i;}return false;}fn g()int{}"
	many := "fn f ( a int , b arr ) bool { var c = 1 ; c = a ; b [ c ] = 2 ; f ( 1 , nil ) ; if true { } else { break ; } while c < 2 { continue ; } for i = 0 , c { print i ; } return false ; } fn g ( ) int { }"
	a, f := Parse(few)
	b, g := Parse(many)
	if f.Err != 0 || g.Err != 0 || !tree.Alike(a, b) {
		t.Errorf("%v %v, but %v %v", a, f, b, g)
	}
}

// Rules: a list that is told is one's own, and nothing is kept from call to call.
func TestOwnLists(t *testing.T) {
	text := "fn f(a int, b arr) bool { if a { f(1, 2); } else { } for i = 0, 1 { b[i] = -1; } } fn g() int { }"
	want, _ := Parse(text)
	want = plain(want)
	a, _ := Parse(text)
	b, _ := Parse(text)
	for i := range a {
		for j := range a[i].Kids {
			a[i].Kids[j] = -7
		}
		a[i].Kids = append(a[i].Kids, 99)
		if i > 0 && len(a[i-1].Kids) > 0 && a[i-1].Kids[len(a[i-1].Kids)-1] != 99 {
			t.Errorf("node %d shares its kids", i)
		}
		a[i].S = "!"
	}
	c, _ := Parse(text)
	if !same(b, want) || !same(c, want) {
		t.Error("what is told hangs on another list")
	}
	Parse("fn f() int { if a { ((((")
	if c, _ = Parse(text); !same(c, want) {
		t.Error("what was wrong is kept")
	}
}

// P1: texts as long as may be, and any bytes.
func TestLongestTexts(t *testing.T) {
	for _, s := range []string{"fn ", "fn f() int { }", "fn f(", "fn f() int {", "{", "}", "if a {", "if a { } ", "if a { } else { } ", "while a {", "a = ", "a = 1; ", "a[", "a(", "a(1); ", "break;", "return ", "for i = 0, 1 {", "for i = ", "a int,", "print (", "print -", "(", "-", "else ", "else {"} {
		for _, before := range []string{"", front, "fn f(", front + "a = ", front + "if a "} {
			for _, after := range []string{"", "}"} {
				n := (api.MaxText - len(before+after)) / len(s)
				holdText(t, before+strings.Repeat(s, n)+after)
			}
		}
	}
	dice := rand.New(rand.NewSource(11))
	for range 2000 {
		b := make([]byte, dice.Intn(40))
		for i := range b {
			b[i] = byte(dice.Intn(256))
		}
		holdText(t, string(b))
		holdText(t, inBody(string(b)))
	}
}

// Promises 8.1, 8.2, and P1: any text.
func FuzzParse(f *testing.F) {
	for _, s := range []string{"fn main(x arr) int { print len(x); }", "fn f(a int, b arr) bool { var c = 1; c = a; b[c] = 2; f(1, nil); if true { } else { break; } while c < 2 { continue; } for i = 0, c { print i; } return false; }",
		"", "fn f(a int,) int { }", "fn f() int { if a { } else if b { } }", inBody(nest(99, "if a {", "", "}")), inBody("print " + high(197) + ";"), "fn f(" + parameters(9), strings.Repeat(inBody(""), 201), "fn f() int { } $"} {
		f.Add(s)
	}
	f.Fuzz(func(t *testing.T, text string) {
		holdText(t, text)
	})
}

// The chapter's example.
func ExampleParse() {
	a, f := Parse("fn main(x arr) int { print len(x); }")
	fmt.Println(tree.Text(a), f == api.Fault{})
	// Output:
	// (prog (fn main int (x arr) (block (print (len x))))) true
}
