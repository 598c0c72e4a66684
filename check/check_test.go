package check

import (
	"fmt"
	"math"
	"math/rand"
	"reflect"
	"slices"
	"strings"
	"testing"

	"balustrade/api"
	"balustrade/parse"
	"balustrade/tree"
)

// mark stands in texts ahead of the token at which a fault is told.
const mark = "@"

// kindNames are the kinds of values, by their numbers.
var kindNames = []string{"", "int", "bool", "arr"}

// read tells a text's tree.
func read(t testing.TB, text string) []api.Node {
	t.Helper()
	l, f := parse.Parse(text)
	if f != (api.Fault{}) {
		t.Fatalf("%.200q is no program: %v", text, f)
	}
	return l
}

// inside tells a program of a main with these statements in a block within its
// own, around which are a variable of each kind, i an int, b a bool, a and x
// arrs, and functions of each kind of what they tell.
func inside(statements string) string {
	return "fn fi(p int) int { } fn fb(p bool) bool { } fn fa(p arr) arr { } fn none() int { } fn three(p int, q bool, r arr) int { } " +
		"fn main(x arr) int { var i = 1; var b = true; var a = nil; if b { " + statements + " } }"
}

// holdFault holds what is wrong with a tree, and that nothing else is told.
func holdFault(t *testing.T, what string, l []api.Node, want api.Fault) {
	t.Helper()
	i, f := Check(l)
	if f != want || !isZero(i) {
		t.Errorf("%.300s: %+v, %v, want no Info, %v", what, i, f, want)
	}
}

// isZero tells whether nothing is known.
func isZero(i Info) bool {
	return len(i.Kinds)+len(i.Slots)+len(i.Calls)+len(i.Fns)+len(i.Vars) == 0 && i.Main == 0
}

// holdWrong holds the fault of a text, in which the mark stands where it is.
func holdWrong(t *testing.T, err api.Errno, text string) {
	t.Helper()
	if strings.Count(text, mark) != 1 {
		t.Fatalf("%q: not one mark", text)
	}
	holdFault(t, text, read(t, strings.Replace(text, mark, "", 1)), api.Fault{Err: err, At: strings.Index(text, mark)})
}

// holdRight holds that nothing is wrong with a text, and tells its tree and what is known.
func holdRight(t *testing.T, text string) ([]api.Node, Info) {
	t.Helper()
	l := read(t, text)
	i, f := Check(l)
	if f != (api.Fault{}) || len(i.Kinds) != len(l) || len(i.Slots) != len(l) || len(i.Calls) != len(l) || len(i.Vars) != len(i.Fns) {
		t.Errorf("%.300s: %v, lists of %d, %d, %d of %d nodes, %d of %d functions", text, f, len(i.Kinds), len(i.Slots), len(i.Calls), len(l), len(i.Vars), len(i.Fns))
		return l, Info{Kinds: make([]int, len(l)), Slots: make([]int, len(l)), Calls: make([]int, len(l))}
	}
	return l, i
}

// tell tells what is known of each node in the list's order: its name or word,
// and behind a : its kind, behind a / its slot, behind a ! its function's
// number, where there is one.
func tell(l []api.Node, i Info) string {
	words := map[int]string{1: "num", 2: "truth", 3: "nil", 6: "neg", 7: "not", 8: "at", 9: "len", 10: "new", 15: "if", 16: "while", 18: "break", 19: "continue", 20: "return", 21: "print", 22: "do", 23: "block", 26: "prog"}
	var parts []string
	for at, n := range l {
		s := n.S + words[n.Kind]
		if n.Kind == api.NBin {
			s = tree.Sign(n.N)
		}
		if i.Kinds[at] != 0 {
			s += fmt.Sprintf(":%d", i.Kinds[at])
		}
		if i.Slots[at] != -1 {
			s += fmt.Sprintf("/%d", i.Slots[at])
		}
		if i.Calls[at] != -1 {
			s += fmt.Sprintf("!%d", i.Calls[at])
		}
		parts = append(parts, s)
	}
	return strings.Join(parts, " ")
}

// holdKnown holds what is known of a text's nodes, the kinds of its functions'
// slots, and main's number.
func holdKnown(t *testing.T, text, nodes, vars string, main int) {
	t.Helper()
	l, i := holdRight(t, text)
	if got := tell(l, i); got != nodes {
		t.Errorf("%s:\n%s, want\n%s", text, got, nodes)
	}
	if got := fmt.Sprint(i.Vars); got != vars || i.Main != main {
		t.Errorf("%s: Vars %s, Main %d, want %s, %d", text, got, i.Main, vars, main)
	}
	var fns []int
	for at, n := range l {
		if n.Kind == api.NFunc {
			fns = append(fns, at)
		}
	}
	if !slices.Equal(i.Fns, fns) {
		t.Errorf("%s: Fns %v, want %v", text, i.Fns, fns)
	}
}

// Promise 11.1: of what is not Whole there is ErrForm at 0, ahead of all else.

func TestNotWhole(t *testing.T) {
	whole := func() []api.Node {
		return read(t, "fn main(x arr) int { break; y = 1 + true; } fn main() int { }")
	}
	bend := func(at int, how func(n *api.Node)) []api.Node {
		l := whole()
		how(&l[at])
		return l
	}
	last := len(whole()) - 1
	lists := map[string][]api.Node{
		"nil":                        nil,
		"none":                       {},
		"a zero node":                {{}},
		"an expression":              {{Kind: api.NNum, N: 1}},
		"a statement":                {{Kind: api.NBreak}},
		"a block":                    {{Kind: api.NBlock}},
		"a function":                 whole()[:last-2],
		"no kind":                    {{Kind: 27}},
		"a kind below 0":             {{Kind: math.MinInt}},
		"no prog":                    whole()[:last],
		"a prog that is not last":    append(whole(), api.Node{Kind: api.NBlock}),
		"two progs":                  append(whole(), api.Node{Kind: api.NProg}),
		"a kid of its own":           bend(last, func(n *api.Node) { n.Kids[0] = last }),
		"a kid that is behind":       bend(1, func(n *api.Node) { n.Kids = []int{last} }),
		"a kid below 0":              bend(last, func(n *api.Node) { n.Kids[0] = -1 }),
		"a kid far behind":           bend(last, func(n *api.Node) { n.Kids[0] = math.MaxInt }),
		"a kid twice":                bend(last, func(n *api.Node) { n.Kids[0] = n.Kids[1] }),
		"a kid too few":              bend(last, func(n *api.Node) { n.Kids = n.Kids[1:] }),
		"an At below 0":              bend(0, func(n *api.Node) { n.At = -1 }),
		"the prog's At below 0":      bend(last, func(n *api.Node) { n.At = math.MinInt }),
		"a prog with a name":         bend(last, func(n *api.Node) { n.S = "p" }),
		"a parameter of no kind":     bend(0, func(n *api.Node) { n.N = 4 }),
		"a function of no kind":      bend(last-1, func(n *api.Node) { n.N = 0 }),
		"a key word as a name":       bend(0, func(n *api.Node) { n.S = "fn" }),
		"no name":                    bend(0, func(n *api.Node) { n.S = "" }),
		"a name of 33 bytes":         bend(0, func(n *api.Node) { n.S = strings.Repeat("x", 33) }),
		"a break with a number":      bend(1, func(n *api.Node) { n.N = 1 }),
		"an operator that is none":   bend(4, func(n *api.Node) { n.N = 17 }),
		"a function within a block":  {{Kind: api.NBlock}, {Kind: api.NFunc, S: "f", N: 1, Kids: []int{0}}, {Kind: api.NBlock, Kids: []int{1}}, {Kind: api.NFunc, S: "g", N: 1, Kids: []int{2}}, {Kind: api.NProg, Kids: []int{3}}},
		"a prog of expressions":      {{Kind: api.NNum}, {Kind: api.NProg, Kids: []int{0}}},
		"a function without a block": {{Kind: api.NFunc, S: "main", N: 1}, {Kind: api.NProg, Kids: []int{0}}},
	}
	for what, l := range lists {
		if tree.Whole(l) {
			t.Errorf("%s: is Whole", what)
		}
		holdFault(t, what, l, api.Fault{Err: api.ErrForm})
	}
	holdFault(t, "what was bent", whole(), api.Fault{Err: api.ErrTwice, At: 47})
}

// tower tells a tree of the height, of a main whose block has ifs in each other;
// the innermost one has a break.
func tower(height int) []api.Node {
	l := []api.Node{{Kind: api.NParam, S: "x", N: api.Arr}, {Kind: api.NBreak, At: 9}}
	h := 1
	for h < height-2 {
		b := len(l)
		l = append(l, api.Node{Kind: api.NBlock, Kids: []int{b - 1}})
		h++
		if h < height-3 {
			l = append(l, api.Node{Kind: api.NBool, N: 1}, api.Node{Kind: api.NIf, Kids: []int{b + 1, b}})
			h++
		}
	}
	n := len(l)
	return append(l, api.Node{Kind: api.NFunc, S: "main", N: api.Int, Kids: []int{0, n - 1}}, api.Node{Kind: api.NProg, Kids: []int{n}})
}

func TestTowers(t *testing.T) {
	for _, height := range []int{4, 6, 8, 198, 200} {
		l := tower(height)
		if h := tree.Heights(l); len(h) == 0 || h[len(h)-1] != height {
			t.Fatalf("a tower of %d is none", height)
		}
		holdFault(t, "a tower", l, api.Fault{Err: api.ErrLoop, At: 9})
		l[1] = api.Node{Kind: api.NReturn, Kids: []int{1}}
		holdFault(t, "a tower that is none", l, api.Fault{Err: api.ErrForm})
	}
	for _, height := range []int{202, 204, 2000, 200000} {
		holdFault(t, "a tower that is too high", tower(height), api.Fault{Err: api.ErrForm})
	}
}

// Promise 11.1: ErrTwice of a name that is there already.

func TestTwice(t *testing.T) {
	for _, text := range []string{
		"fn main(x arr) int { } fn @main(x arr) int { }",
		"fn f() int { } fn main(x arr) int { } fn @f() bool { }",
		"fn f() int { } fn f2() int { } fn main(x arr) int { } fn @f2(a int) int { } fn f() int { }",
		"fn f() int { } fn g() int { } fn g1() int { } fn @f() int { } fn g() int { }",
		"fn f() int { } fn @f() int { } fn f() int { }",
		"fn f(a int, @a int) int { } fn main(x arr) int { }",
		"fn f(a int, b arr, @a bool) int { } fn main(x arr) int { }",
		"fn f(a int, b int, c int, d int, e int, g int, h int, @a int) int { } fn main(x arr) int { }",
		"fn f(a int, b int, @b int, a int) int { } fn main(x arr) int { }",
		"fn main(x arr) int { var a = 1; var @a = 1; }",
		"fn main(x arr) int { var a = 1; var @a = true; }",
		"fn main(x arr) int { var a = 1; var b = a; var @a = nil; var b = 1; }",
		"fn main(x arr) int { var x = 1; var @x = 1; }",
		"fn main(x arr) int { var x = x; var @x = 1; }",
		"fn main(x arr) int { if true { var a = 1; var @a = 1; } }",
		"fn main(x arr) int { if true { } else { var a = 1; if true { var a = 2; } var @a = 1; } }",
		"fn main(x arr) int { while true { var a = 1; var @a = 1; } }",
		"fn main(x arr) int { for i = 0, 1 { var i = 1; var @i = 1; } }",
		"fn main(x arr) int { for i = 0, 1 { for i = 0, 1 { } var i = 1; for i = 0, 1 { } var @i = 1; } }",
		"fn main(x arr) int { var a = 1; if true { var a = 2; } var @a = 3; }",
		"fn main(x arr) int { var a = 1; for a = 0, 1 { var a = 2; } var @a = 3; }",
	} {
		holdWrong(t, api.ErrTwice, text)
	}
}

func TestNotTwice(t *testing.T) {
	for _, text := range []string{
		"fn main(x arr) int { var x = 1; }",
		"fn main(x arr) int { var x = x; if x == nil { var x = true; while x { var x = x; x = false; } } x = nil; }",
		"fn f(a int, b arr) int { var a = 1; var b = nil; } fn main(x arr) int { }",
		"fn main(x arr) int { if true { var a = 1; } else { var a = true; } var a = nil; while true { var a = 1; } }",
		"fn main(x arr) int { if true { var a = 1; } var a = 1; if true { var a = true; } }",
		"fn main(x arr) int { for x = 0, 1 { var x = true; } }",
		"fn main(x arr) int { var i = nil; for i = 0, 1 { i = 1; } i = nil; for i = 1, 2 { var i = true; i = false; } i = nil; }",
		"fn main(x arr) int { for i = 0, 1 { for i = i, i { for i = i, i { } } } for i = 0, 1 { } }",
		"fn f(x int) int { var a = 1; } fn g(x bool) int { var a = 1; } fn main(x arr) int { var a = 1; }",
		"fn f(f int, main int) int { var f = 1; var g = 2; return f(f, g) + g(); } fn g() int { } fn main(main arr) int { var main = main; return main(main); }",
		"fn f() int { } fn F() int { } fn f_() int { } fn f0() int { } fn main(x arr) int { var a = 1; var A = 1; var a_ = 1; var a0 = 1; }",
	} {
		holdRight(t, text)
	}
}

// Promise 11.1: ErrMain of no main, and of one that is not as it must be.

func TestMains(t *testing.T) {
	for _, text := range []string{
		"", "# nothing", "fn f(x arr) int { }", "fn Main(x arr) int { }", "fn mai(x arr) int { }", "fn main_(x arr) int { }",
		" fn f() int { break; y = 1; }", "fn f(main arr) int { var main = 1; return main(main); }", "fn f() int { } fn g(x arr) int { print true; }",
	} {
		holdFault(t, text, read(t, text), api.Fault{Err: api.ErrMain})
	}
	for _, parameters := range []string{"", "x int", "x bool", "x arr, y arr", "x arr, y int", "x int, y arr", "x arr, x arr", "a int, b int, c int, d int, e int, f int, g int, h arr", "x arr"} {
		for _, kind := range kindNames[1:] {
			head := "main(" + parameters + ") " + kind
			if head == "main(x arr) int" {
				holdRight(t, "fn "+head+" { }")
				continue
			}
			holdWrong(t, api.ErrMain, "fn @"+head+" { }")
			holdWrong(t, api.ErrMain, "fn f(a int, a int) int { break; } fn @"+head+" { y = 1; } fn g() int { print true; }")
			holdWrong(t, api.ErrTwice, "fn "+head+" { } fn @main(x arr) int { }")
			holdWrong(t, api.ErrTwice, "fn "+head+" { } fn f() int { } fn @f() int { }")
		}
	}
	holdRight(t, "fn main(main arr) int { }")
	holdRight(t, "fn f() int { } fn main(a arr) int { return main(nil); }")
	// None called main is at 0, wherever the functions are.
	holdFault(t, "a prog behind", []api.Node{{Kind: api.NProg, At: 7}}, api.Fault{Err: api.ErrMain})
}

// Promise 11.1: ErrName of what is not seen.

func TestNames(t *testing.T) {
	for _, text := range []string{
		"print @y;", "print 1 + @y;", "print -@y;", "print x[@y];", "print @y[0];", "print @y[z];", "print fi(@y);", "print fi(@Y);", "print fi(@p);",
		"x = @y;", "@y = 1;", "y = @y0();", "y@[0] = 1;", "x[@y] = 1;", "x[0] = @y;", "var y = @y;", "var y = 1 + @y;", "var y = @z; print z;",
		"@y = 1; var y = 1;", "y@[0] = 1; var y = x;", "print @y; var y = 1;", "if @y { var y = true; }", "while @y { var y = true; }",
		"if true { var y = 1; } print @y;", "if true { var y = 1; } else { print @y; }", "if true { } else { var y = 1; } @y = 1;", "while true { var y = 1; } @y = 1;",
		"for y = @y, 1 { }", "for y = 0, @y { }", "for y = 0, 1 { } print @y;", "for y = 0, 1 { } @y = 1;", "for y = 0, 1 { var z = y; } print @z;",
		"if true { if true { var y = 1; } @y = 2; }", "return @y;", "var y = 1; if true { var z = y; y = z; } y = 2; print y; @z = 3;",
		"print @fi;", "print @main;", "@fi = 1;", "@main = x;", "main@[0] = 1;", "var y = fi(1); print y; fi@[1] = 2;",
		"@g();", "print @g();", "@g(1);", "x = @g(x, 1);", "print @x();", "print @i(1);", "@i();", "fi(@g());", "print @Fi(1);", "print @fi_(1);", "print @f(1);", "if @g() { }", "print @g(1) + h();",
		"var g = 1; @g();", "print fi(1) + @p;",
	} {
		holdWrong(t, api.ErrName, inside(text))
	}
	for _, text := range []string{
		"fn f(a int) int { var y = 1; } fn main(x arr) int { print @a; }",
		"fn f(a int) int { var y = 1; } fn main(x arr) int { print @y; }",
		"fn f() int { print @x; } fn main(x arr) int { }",
		"fn main(x arr) int { var y = 1; } fn f() int { @y = 1; }",
		"fn f() int { x@[0] = 1; } fn main(x arr) int { }",
		"fn f(a arr) int { x@[a] = true; } fn main(x arr) int { }",
		"fn f() int { y@[true] = nil; } fn main(x arr) int { }",
	} {
		holdWrong(t, api.ErrName, text)
	}
}

func TestSeen(t *testing.T) {
	for _, text := range []string{
		"i = i; b = b; a = a; x = a; a[i] = i; x[0] = i;",
		"var y = 1; if b { y = i; while b { y = y + i; for k = y, i { y = k; k = y; } } } print y;",
		"fi(fi(fi(i))); fb(fb(b)); fa(fa(a)); none(); three(i, b, a);",
		"print main(x) + main(nil); three(none(), fb(false), new(1));",
		"var fi = true; fi = fi(1) == 2; var none = none(); none = none() + none; var main = main(x);",
	} {
		holdRight(t, inside(text))
	}
	holdRight(t, "fn f() int { return f() + g() + main(nil); } fn main(x arr) int { return f() + g(); } fn g() int { return f(); }")
	holdRight(t, "fn even(n int) bool { if n == 0 { return true; } return odd(n - 1); } fn odd(n int) bool { return n != 0 && even(n - 1); } fn main(x arr) int { if even(len(x)) { return 1; } return 0; }")
}

// Promise 11.1: ErrLoop of break and continue around which there is no loop.

func TestLoops(t *testing.T) {
	for _, word := range []string{"break;", "continue;"} {
		for _, text := range []string{
			"#", "if b { # }", "if b { } else { # }", "if b { if b { # } }", "while b { } #", "for k = 0, 1 { } #", "while b { break; } #", "for k = 0, 1 { continue; } #",
			"while b { while b { } } #", "while b { while b { break; } continue; } if b { # }", "for k = 0, 1 { while b { } } if b { } else { # }", "while b { for k = 0, 1 { } break; } #",
		} {
			holdWrong(t, api.ErrLoop, inside(strings.Replace(text, "#", "@"+word, 1)))
		}
		for _, text := range []string{
			"while b { # }", "for k = 0, 1 { # }", "while b { if b { # } }", "for k = 0, 1 { if b { } else { # } }", "while b { if b { if b { # } else { # } } # }",
			"while b { for k = 0, 1 { # } # }", "for k = 0, 1 { while b { # } # }", "while b { while b { } # }", "for k = 0, 1 { for k = 0, 1 { } if b { # } }",
		} {
			holdRight(t, inside(strings.ReplaceAll(text, "#", word)))
		}
		holdWrong(t, api.ErrLoop, "fn f() int { while true { break; } } fn g() int { @"+word+" } fn main(x arr) int { while true { } }")
		holdWrong(t, api.ErrLoop, "fn main(x arr) int { while true { g(); } } fn g() int { @"+word+" }")
	}
}

// Promise 11.1: ErrType of what is of another kind.

// operands are expressions of each kind of values, by its letter.
var operands = map[byte][]string{
	'i': {"1", "i", "(i - 1)", "(-i)", "len(a)", "a[0]", "none()", "fi(2)"},
	'b': {"true", "false", "b", "(!b)", "(i < 1)", "(b || b)", "fb(b)"},
	'a': {"nil", "a", "x", "new(i)", "fa(nil)"},
}

// rules are texts with a ? for each operand, and which letters may stand for
// them, in order; the mark is where the fault is else.
var rules = []struct {
	text, right string
}{
	{"var v = ? @|| ?;", "bb"}, {"var v = ? @&& ?;", "bb"},
	{"var v = ? @== ?;", "ii bb aa"}, {"var v = ? @!= ?;", "ii bb aa"},
	{"var v = ? @< ?;", "ii"}, {"var v = ? @<= ?;", "ii"}, {"var v = ? @> ?;", "ii"}, {"var v = ? @>= ?;", "ii"},
	{"var v = ? @+ ?;", "ii"}, {"var v = ? @- ?;", "ii"}, {"var v = ? @+% ?;", "ii"}, {"var v = ? @-% ?;", "ii"},
	{"var v = ? @* ?;", "ii"}, {"var v = ? @/ ?;", "ii"}, {"var v = ? @% ?;", "ii"}, {"var v = ? @*% ?;", "ii"},
	{"var v = @- ?;", "i"}, {"var v = @! ?;", "b"}, {"var v = ?@[?];", "ai"}, {"var v = @len(?);", "a"}, {"var v = @new(?);", "i"},
	{"var v = @none();", ""}, {"var v = @none(?);", "-"}, {"@none(?, ?);", "-"},
	{"var v = @fi();", "-"}, {"@fi(?);", "i"}, {"@fi(?, ?);", "-"}, {"var v = @fb(?);", "b"}, {"@fa(?);", "a"},
	{"@three();", "-"}, {"@three(?);", "-"}, {"@three(?, ?);", "-"}, {"var v = @three(?, ?, ?);", "iba"}, {"@three(?, ?, ?, i);", "-"}, {"@three(?, ?, ?, a);", "-"}, {"@main(?);", "a"}, {"@main(?, x);", "-"},
	{"@i = ?;", "i"}, {"@b = ?;", "b"}, {"@a = ?;", "a"}, {"@x = ?;", "a"}, {"var v = ?;", "i b a"},
	{"a@[?] = ?;", "ii"}, {"x@[?] = ?;", "ii"}, {"i@[?] = ?;", "-"}, {"b@[?] = ?;", "-"},
	{"@if ? { }", "b"}, {"@if ? { } else { }", "b"}, {"@while ? { }", "b"}, {"for @k = ?, ? { }", "ii"},
	{"@return ?;", "i"}, {"@print ?;", "i"},
}

// letters tells all rows of n letters of kinds.
func letters(n int) []string {
	l := []string{""}
	for range n {
		var longer []string
		for _, s := range l {
			longer = append(longer, s+"i", s+"b", s+"a")
		}
		l = longer
	}
	return l
}

// put tells the text with expressions of these kinds for each ?.
func put(text, row string, which int) string {
	for i := range len(row) {
		l := operands[row[i]]
		text = strings.Replace(text, "?", l[(which+i)%len(l)], 1)
	}
	return text
}

func TestTypes(t *testing.T) {
	for _, r := range rules {
		for _, row := range letters(strings.Count(r.text, "?")) {
			right := slices.Contains(strings.Fields(r.right), row) || r.right == row
			for which := range 8 {
				text := inside(put(r.text, row, which))
				if right {
					holdRight(t, strings.Replace(text, mark, "", 1))
				} else {
					holdWrong(t, api.ErrType, text)
				}
			}
		}
	}
}

// Of a function's own kind all that it returns must be.
func TestReturns(t *testing.T) {
	for own, letter := range map[string]string{"int": "i", "bool": "b", "arr": "a"} {
		for _, row := range letters(1) {
			body := put("if true { @return ?; }", row, 1)
			text := "fn g(i int, b bool, a arr) " + own + " { " + body + " } fn main(x arr) int { return 1; } fn h() bool { return true; }"
			if row == letter {
				holdRight(t, strings.Replace(text, mark, "", 1))
			} else {
				holdWrong(t, api.ErrType, text)
			}
		}
	}
}

// Parameters' and arguments' kinds are held against each other one by one.
func TestArguments(t *testing.T) {
	words := map[byte]string{'i': "int", 'b': "bool", 'a': "arr"}
	for n := range 4 {
		for _, wants := range letters(n) {
			var parameters []string
			for i := range len(wants) {
				parameters = append(parameters, fmt.Sprintf("p%d %s", i, words[wants[i]]))
			}
			for m := range 5 {
				for _, has := range letters(m) {
					list := put(strings.TrimSuffix(strings.Repeat("?, ", m), ", "), has, 0)
					text := inside("@g("+list+");") + " fn g(" + strings.Join(parameters, ", ") + ") int { }"
					if wants == has {
						holdRight(t, strings.Replace(text, mark, "", 1))
					} else {
						holdWrong(t, api.ErrType, text)
					}
				}
			}
		}
	}
}

// Promise 11.1: what is told is what is wrong first, as the program is gone over.

func TestFirst(t *testing.T) {
	for _, x := range []struct {
		err  api.Errno
		text string
	}{
		// Functions' names, then main, then each function.
		{api.ErrTwice, "fn f() int { break; } fn g() bool { y = 1; } fn @f() int { } fn main() int { }"},
		{api.ErrTwice, "fn f(a int, a int) int { } fn @f() int { }"},
		{api.ErrMain, "fn f(a int, a int) int { break; y = 1; print true; g(); } fn @main() int { y = 1; }"},
		{api.ErrTwice, "fn f(a int, @a int) int { break; } fn main(x arr) int { print true; }"},
		{api.ErrLoop, "fn f(a int) int { @break; } fn main(x arr) int { print true; } fn g(a int, a int) int { }"},
		{api.ErrType, "fn main(x arr) int { @print true; } fn f(a int) int { break; } fn g(a int, a int) int { }"},
		{api.ErrTwice, "fn f(a int, a2 int, @a bool, a2 int) int { y = 1; } fn main(x arr) int { }"},
		// Statements in order.
		{api.ErrLoop, inside("@break; print y; x = 1; var i = 1; var i = 1;")},
		{api.ErrName, inside("print @y; break; x = 1; var i = 1; var i = 1;")},
		{api.ErrType, inside("@x = 1; print y; break; var i = 1; var i = 1;")},
		{api.ErrTwice, inside("var i = 1; var @i = 1; x = 1; print y; break;")},
		{api.ErrName, inside("if b { if b { @y = 1; } } x = 1;")},
		{api.ErrLoop, inside("while b { } if b { @break; } else { continue; } break;")},
		{api.ErrType, inside("if b { } else { @x = 1; } x = y;")},
		// Of an expression what it is made of, from left to right, and then itself.
		{api.ErrName, inside("print (@y + true) + z;")},
		{api.ErrName, inside("print true + @z;")},
		{api.ErrType, inside("print (true @+ 1) + z;")},
		{api.ErrType, inside("print i + (1 @+ true) + z0();")},
		{api.ErrType, inside("print (1 @- nil) * (true - 1) + nil;")},
		{api.ErrType, inside("print 1 * (true @- 1) + nil;")},
		{api.ErrType, inside("print 1 * 1 @+ nil;")},
		{api.ErrName, inside("print @y[z];")},
		{api.ErrName, inside("print 1[@z];")},
		{api.ErrType, inside("print (@len(1))[z];")},
		{api.ErrName, inside("print x[@z[true]];")},
		{api.ErrType, inside("print x[x@[true]][z];")},
		{api.ErrName, inside("print g(@y, z);")},
		{api.ErrType, inside("print g(@-b, z);")},
		{api.ErrName, inside("print @g(b, 1);")},
		{api.ErrName, inside("print fi(1, @y);")},
		{api.ErrType, inside("print fi(@!1, y);")},
		{api.ErrType, inside("print fi(@fi(nil), fi(true));")},
		{api.ErrType, inside("@fi(b, fi(1));")},
		{api.ErrName, inside("print -!-@y;")},
		{api.ErrType, inside("print -!@-b;")},
		{api.ErrType, inside("print -@!-1;")},
		{api.ErrType, inside("print @-!!b;")},
		{api.ErrType, inside("@print !b;")},
		{api.ErrType, inside("print new(@new(nil));")},
		{api.ErrType, inside("print @new(new(1));")},
		{api.ErrType, inside("@print new(1);")},
		{api.ErrType, inside("print len(@len(1));")},
		// Of a statement its expressions, then the variable that it names, and then its blocks.
		{api.ErrName, inside("y = @z;")},
		{api.ErrType, inside("y = 1 @+ true;")},
		{api.ErrName, inside("@y = 1 + 2;")},
		{api.ErrName, inside("var y = 1; var y = @z;")},
		{api.ErrType, inside("var y = 1; var y = @-true;")},
		{api.ErrTwice, inside("var y = 1; var @y = y;")},
		{api.ErrName, inside("y[@z] = w;")},
		{api.ErrName, inside("y[true] = @w;")},
		{api.ErrName, inside("y@[true] = nil;")},
		{api.ErrType, inside("y[@-true] = w;")},
		{api.ErrType, inside("y[true] = @-true;")},
		{api.ErrType, inside("i@[true] = nil;")},
		{api.ErrName, inside("if @y { break; }")},
		{api.ErrType, inside("if @-b { break; }")},
		{api.ErrType, inside("@if 1 { break; }")},
		{api.ErrType, inside("@if 1 { } else { print y; }")},
		{api.ErrType, inside("@while 1 { print y; }")},
		{api.ErrName, inside("while true || @y { print z; }")},
		{api.ErrLoop, inside("if b { @break; } else { print y; }")},
		{api.ErrName, inside("if b { print @y; } else { break; }")},
		{api.ErrName, inside("for k = @y, z { w = 1; }")},
		{api.ErrName, inside("for k = true, @z { w = 1; }")},
		{api.ErrType, inside("for k = @-true, z { w = 1; }")},
		{api.ErrType, inside("for k = nil, @-true { w = 1; }")},
		{api.ErrType, inside("for @k = 0, nil { w = 1; }")},
		{api.ErrType, inside("for @k = nil, 0 { var k = 1; var k = 2; }")},
		{api.ErrName, inside("for k = 0, 1 { @w = 1; k = true; }")},
		{api.ErrType, inside("for k = 0, 1 { @k = true; w = 1; }")},
		{api.ErrName, inside("return @y;")},
		{api.ErrType, inside("return 1 @+ nil;")},
		{api.ErrName, inside("g(@y);")},
		{api.ErrType, inside("g(@-nil);")},
		{api.ErrName, inside("@g();")},
	} {
		holdWrong(t, x.err, x.text)
	}
}

// Promise 11.1: what is known of a program.

func TestKnown(t *testing.T) {
	holdKnown(t, "fn main(x arr) int { }", "x/0 block main prog", "[[3]]", 0)
	holdKnown(t, "fn f() bool { } fn main(x arr) int { } fn g(a int, b bool, c arr) arr { }",
		"block f x/0 block main a/0 b/1 c/2 block g prog", "[[] [3] [1 2 3]]", 1)
	holdKnown(t, "fn main(x arr) int { var a = 1; var b = a; a = b; print b + 0; return a; }",
		"x/0 num:1 a/1 a:1/1 b/2 b:1/2 a/1 b:1/2 num:1 +:1 print a:1/1 return block main prog", "[[3 1 1]]", 0)
	holdKnown(t, "fn main(x arr) int { var x = x; x[0] = x[1]; if x == nil { var x = len(x); x = x; } x = new(2); }",
		"x/0 x:3/0 x/1 num:1 x:3/1 num:1 at:1 x/1 x:3/1 nil:3 ==:2 x:3/1 len:1 x/2 x:1/2 x/2 block if num:1 new:3 x/1 block main prog", "[[3 3 1]]", 0)
	holdKnown(t, "fn main(x arr) int { if true { var a = 1; } else { var b = true; a0(); } while false { var a = nil; a = x; } for a = 0, 1 { var a = !true; break; continue; } var a = -1; a = a; } fn a0() arr { a1(a0(), a0()); } fn a1(a arr, b arr) int { }",
		"x/0 truth:2 num:1 a/1 block truth:2 b/2 a0:3!1 do block if truth:2 nil:3 a/3 x:3/0 a/3 block while num:1 num:1 truth:2 not:2 a/5 break continue block a/4 num:1 neg:1 a/6 a:1/6 a/6 block main a0:3!1 a0:3!1 a1:1!2 do block a0 a/0 b/1 block a1 prog",
		"[[3 1 2 3 1 2 1] [] [3 3]]", 0)
	holdKnown(t, "fn f(a int) bool { return a == 0 || g(a - 1); } fn g(a int) bool { return !(a != 0) && f(a); } fn main(x arr) int { for i = 0, len(x) { if f(x[i]) { x[i] = i; } } return main(nil); }",
		"a/0 a:1/0 num:1 ==:2 a:1/0 num:1 -:1 g:2!1 ||:2 return block f a/0 a:1/0 num:1 !=:2 not:2 a:1/0 f:2!0 &&:2 return block g "+
			"x/0 num:1 x:3/0 len:1 x:3/0 i:1/1 at:1 f:2!0 i:1/1 i:1/1 x/0 block if block i/1 nil:3 main:1!2 return block main prog", "[[1] [1] [3 1]]", 2)
	holdKnown(t, "fn main(x arr) int { for i = 0, 1 { for i = i, 2 { print i; } print i; } for i = 3, 4 { i = 5; } }",
		"x/0 num:1 num:1 i:1/1 num:1 i:1/2 print block i/2 i:1/1 print block i/1 num:1 num:1 num:1 i/3 block i/3 block main prog", "[[3 1 1 1]]", 0)
	holdKnown(t, "fn f(main int, f bool) int { var g = f; return f(main, g); } fn main(f arr) int { f = f; return f(1, true); }",
		"main/0 f/1 f:2/1 g/2 main:1/0 g:2/2 f:1!0 return block f f/0 f:3/0 f/0 num:1 truth:2 f:1!0 return block main prog", "[[1 2 2] [3]]", 1)
}

// What each kind of expression comes to.
func TestKinds(t *testing.T) {
	for kind, texts := range map[int][]string{
		api.Int: {"0", "9223372036854775807", "i", "1 + 2", "1 - 2", "1 +% 2", "1 -% 2", "1 * 2", "1 / 2", "1 % 2", "1 *% 2", "-1", "-i", "a[0]", "x[i]", "len(a)", "len(nil)", "fi(1)", "none()", "three(1, true, nil)", "main(x)"},
		api.Bool: {"true", "false", "b", "1 < 2", "1 <= 2", "1 > 2", "1 >= 2", "1 == 2", "1 != 2", "b == b", "b != true", "a == nil", "nil != nil", "a == x",
			"b || b", "b && b", "!b", "!true", "fb(b)", "(1 < 2) == (2 < 3)"},
		api.Arr: {"nil", "a", "x", "new(1)", "fa(nil)"},
	} {
		for _, text := range texts {
			l, i := holdRight(t, inside("var v = "+text+";"))
			for at, n := range l {
				if n.Kind == api.NLet && n.S == "v" && (i.Kinds[n.Kids[0]] != kind || i.Vars[5][i.Slots[at]] != kind || i.Kinds[at] != 0) {
					t.Errorf("%s: the kind %d, the slot's %d, want %d", text, i.Kinds[n.Kids[0]], i.Vars[5][i.Slots[at]], kind)
				}
			}
			// What is wanted of the variable behind it says the same.
			for other, use := range []string{"", "v = 1;", "v = true;", "v = nil;"} {
				text := inside("var v = " + text + "; " + use)
				if other == 0 || other == kind {
					holdRight(t, text)
					continue
				}
				holdWrong(t, api.ErrType, strings.Replace(text, use, mark+use, 1))
			}
		}
	}
}

// Nodes that are laid in another order than from left to right are gone over
// from left to right, and functions are numbered so.
func TestLaid(t *testing.T) {
	l := []api.Node{
		{Kind: api.NBlock, At: 60},
		{Kind: api.NFunc, S: "g", N: api.Bool, Kids: []int{0}, At: 61},
		{Kind: api.NVar, S: "v", At: 37},
		{Kind: api.NPrint, Kids: []int{2}, At: 42},
		{Kind: api.NNum, N: 1, At: 43},
		{Kind: api.NLet, S: "v", Kids: []int{4}, At: 41},
		{Kind: api.NBlock, Kids: []int{5, 3}, At: 38},
		{Kind: api.NParam, S: "x", N: api.Arr, At: 40},
		{Kind: api.NFunc, S: "main", N: api.Int, Kids: []int{7, 6}, At: 39},
		{Kind: api.NProg, Kids: []int{8, 1}, At: 3},
	}
	i, f := Check(l)
	if f != (api.Fault{}) {
		t.Fatalf("laid otherwise: %v", f)
	}
	if got, want := tell(l, i), "block g v:1/1 print num:1 v/1 block x/0 main prog"; got != want {
		t.Errorf("laid otherwise: %s, want %s", got, want)
	}
	if fmt.Sprint(i.Fns, i.Vars, i.Main) != "[8 1] [[3 1] []] 0" {
		t.Errorf("laid otherwise: %v %v %v", i.Fns, i.Vars, i.Main)
	}
	l[6].Kids = []int{3, 5}
	holdFault(t, "a use ahead of its var", l, api.Fault{Err: api.ErrName, At: 37})
	l[6].Kids, l[1].S = []int{5, 3}, "main"
	holdFault(t, "a name again, in the list ahead", l, api.Fault{Err: api.ErrTwice, At: 61})
	l[9].Kids = []int{1, 8}
	holdFault(t, "a name again, in the list behind", l, api.Fault{Err: api.ErrTwice, At: 39})
}

// What an NDo calls is at the call's own At.
func TestDo(t *testing.T) {
	l := []api.Node{
		{Kind: api.NParam, S: "x", N: api.Arr, At: 1},
		{Kind: api.NBool, At: 2},
		{Kind: api.NCall, S: "main", Kids: []int{1}, At: 3},
		{Kind: api.NDo, Kids: []int{2}, At: 4},
		{Kind: api.NBlock, Kids: []int{3}, At: 5},
		{Kind: api.NFunc, S: "main", N: api.Int, Kids: []int{0, 4}, At: 6},
		{Kind: api.NProg, Kids: []int{5}, At: 7},
	}
	holdFault(t, "an argument of another kind", l, api.Fault{Err: api.ErrType, At: 3})
	l[2].S = "f"
	holdFault(t, "no such function", l, api.Fault{Err: api.ErrName, At: 3})
	l[1], l[2].S = api.Node{Kind: api.NNil}, "main"
	if i, f := Check(l); f != (api.Fault{}) || tell(l, i) != "x/0 nil:3 main:1!0 do block main prog" {
		t.Errorf("a call: %v, %s", f, tell(l, i))
	}
}

// Promise 11.2: what is told does not hang on where nodes stand in the text.

func TestMoved(t *testing.T) {
	const spread = "# a remark\n\n\n   fn  f ( a  arr ) bool {\n return ( a == (nil) ) ; }\n fn main ( x arr ) int # b\n { for i = ( 0 ) , len ( x ) { var x = f((x)) ; if (x) { break ; } }\treturn 1 ; } # c"
	const dense = "fn f(a arr)bool{return a==nil;}fn main(x arr)int{for i=0,len(x){var x=f(x);if x{break;}}return 1;}"
	a, b := read(t, spread), read(t, dense)
	if !tree.Alike(a, b) {
		t.Fatalf("two trees: %s, %s", tree.Text(a), tree.Text(b))
	}
	_, i := holdRight(t, spread)
	_, j := holdRight(t, dense)
	if !reflect.DeepEqual(i, j) {
		t.Errorf("%+v, and %+v", i, j)
	}
	r := rand.New(rand.NewSource(11))
	for range 100 {
		for at := range a {
			a[at].At = r.Intn(1 << uint(r.Intn(62)))
		}
		if k, f := Check(a); f != (api.Fault{}) || !reflect.DeepEqual(i, k) {
			t.Fatalf("moved: %v, %+v, want %+v", f, k, i)
		}
	}
	for at := range a {
		a[at].At = 0
	}
	if k, f := Check(a); f != (api.Fault{}) || !reflect.DeepEqual(i, k) {
		t.Fatalf("all at 0: %v, %+v, want %+v", f, k, i)
	}
}

func TestFaultsMoved(t *testing.T) {
	l := read(t, "fn main(x arr) int { var y = 1; y = y + z; }")
	for _, at := range []int{0, 1, 5, 40, 1 << 20, math.MaxInt} {
		for k := range l {
			l[k].At = 7
			if l[k].S == "z" {
				l[k].At = at
			}
		}
		holdFault(t, "a moved name", l, api.Fault{Err: api.ErrName, At: at})
	}
	m := read(t, "fn f() int { }")
	m[0].At, m[1].At, m[2].At = 3, 4, 5
	holdFault(t, "no main", m, api.Fault{Err: api.ErrMain})
}

// Lists that are told are one's own, and arguments stay as they are.

func TestOwn(t *testing.T) {
	texts := []string{
		"fn f(a int, b bool) bool { var c = a; return b; } fn main(x arr) int { for i = 0, 1 { f(i, true); } return 1; } fn g(a arr, b arr, c arr) arr { return a; }",
		"fn main(x arr) int { break; }", "fn main() int { }", "", "fn f() int { } fn f() int { }", "fn main(x arr) int { x = y; }",
	}
	for _, text := range texts {
		l, kept := read(t, text), read(t, text)
		i, f := Check(l)
		j, g := Check(l)
		if !reflect.DeepEqual(l, kept) {
			t.Fatalf("%s: the tree is changed", text)
		}
		if f != g || !reflect.DeepEqual(i, j) {
			t.Fatalf("%s: %v, then %v", text, f, g)
		}
		lists := append([][]int{i.Kinds, i.Slots, i.Calls, i.Fns}, i.Vars...)
		for n, list := range lists {
			for k := range list[:cap(list)] {
				list[:cap(list)][k] = -1000 - n
			}
		}
		for n, list := range lists {
			if slices.IndexFunc(list, func(v int) bool { return v != -1000-n }) >= 0 {
				t.Fatalf("%s: lists share what they have", text)
			}
		}
		for k := range i.Vars {
			i.Vars[k] = nil
		}
		if k, h := Check(l); !reflect.DeepEqual(l, kept) || h != g || !reflect.DeepEqual(j, k) {
			t.Fatalf("%s: what was told is not one's own", text)
		}
		for at := range l {
			for k := range l[at].Kids {
				l[at].Kids[k] = 0
			}
			l[at] = api.Node{}
		}
		if k, _ := Check(kept); !reflect.DeepEqual(j, k) {
			t.Fatalf("%s: what was told changes with the tree", text)
		}
	}
}

// Many functions, levels and variables.

func TestManyFunctions(t *testing.T) {
	const count = api.MaxFuncs
	for _, main := range []int{0, 1, 100, count - 2, count - 1} {
		call := func(n int) string {
			if n == main {
				return "main(nil)"
			}
			return fmt.Sprintf("f%d()", n)
		}
		text := ""
		for n := range count {
			body := " int { return " + call(count-1-n) + " + " + call(n) + "; } "
			text += "fn " + strings.Replace(call(n), "nil", "x arr", 1) + body
		}
		l, i := holdRight(t, text)
		if len(i.Fns) != count || i.Main != main {
			t.Fatalf("main is %d of %d, want %d of %d", i.Main, len(i.Fns), main, count)
		}
		for at, n := range l {
			if n.Kind == api.NCall && l[i.Fns[i.Calls[at]]].S != n.S || n.Kind != api.NCall && i.Calls[at] != -1 {
				t.Fatalf("%s calls %d", n.S, i.Calls[at])
			}
		}
		for _, from := range []int{1, 2, 50, count - 1} {
			again := (from + main) % count
			at := i.Fns[max(main, again)]
			name := l[at].S
			l[at].S = l[i.Fns[min(main, again)]].S
			holdFault(t, "a name of many again", l, api.Fault{Err: api.ErrTwice, At: l[at].At})
			l[at].S = name
		}
	}
}

func TestManyLevels(t *testing.T) {
	// A tree's height: the prog, its function, and two for each block; print a is 2.
	const deep = (api.MaxDeep - 3) / 2
	var s, down strings.Builder
	for n := range deep - 1 {
		fmt.Fprintf(&s, "if b { var a = %s; var v%d = a; ", []string{"1", "true", "nil"}[n%3], n)
	}
	for n := deep - 2; n >= 0; n-- {
		fmt.Fprintf(&down, "v%d = a; a = v%d; } ", n, n)
	}
	text := "fn main(x arr) int { var b = true; " + s.String() + down.String() + "}"
	l, i := holdRight(t, text)
	if h := slices.Max(tree.Heights(l)); h < api.MaxDeep-3 {
		t.Errorf("a height of %d alone", h)
	}
	if len(i.Vars[0]) != 2+2*(deep-1) {
		t.Errorf("%d slots", len(i.Vars[0]))
	}
	for at, n := range l {
		var depth int
		if n.Kind == api.NSet && n.S != "a" {
			fmt.Sscanf(n.S, "v%d", &depth)
			if want := 3 + 2*depth; i.Slots[at] != want || i.Slots[n.Kids[0]] != want-1 || i.Vars[0][want] != 1+depth%3 {
				t.Fatalf("%s: slots %d and %d, kind %d", n.S, i.Slots[at], i.Slots[n.Kids[0]], i.Vars[0][want])
			}
		}
	}
	last := strings.LastIndex(text, "a = v0")
	holdWrong(t, api.ErrName, text[:last]+"a = @v1"+text[last+6:])
	holdWrong(t, api.ErrTwice, text[:last]+"var @a = 1"+text[last+6:])
	holdRight(t, text[:last]+"var w = 1"+text[last+6:])

	nots := strings.Repeat("!", api.MaxDeep-5)
	holdRight(t, "fn main(x arr) int { if "+nots+"true { } }")
	holdWrong(t, api.ErrType, "fn main(x arr) int { if "+nots[1:]+"@!1 { } }")
	holdWrong(t, api.ErrType, "fn main(x arr) int { print"+strings.Repeat(" -", api.MaxDeep-6)+"@-true; }")
	loops := strings.Repeat("while true { ", 90)
	holdRight(t, "fn main(x arr) int { "+loops+"break; "+strings.Repeat("} ", 91))
	holdWrong(t, api.ErrLoop, "fn main(x arr) int { "+loops+"break; "+strings.Repeat("} ", 90)+"@continue; }")
}

func TestManyVariables(t *testing.T) {
	const count = 1 << 17
	l := []api.Node{{Kind: api.NParam, S: "x", N: api.Arr}}
	var statements []int
	for n := range count {
		at := len(l)
		value := []api.Node{{Kind: api.NNum, N: n}, {Kind: api.NBool}, {Kind: api.NNil}}[n%3]
		l = append(l, value, api.Node{Kind: api.NLet, S: fmt.Sprintf("v%d", n), Kids: []int{at}, At: n})
		statements = append(statements, at+1)
	}
	last := len(l)
	l = append(l, api.Node{Kind: api.NBlock, Kids: statements}, api.Node{Kind: api.NFunc, S: "main", N: api.Int, Kids: []int{0, last}}, api.Node{Kind: api.NProg, Kids: []int{last + 1}})
	i, f := Check(l)
	if f != (api.Fault{}) || len(i.Vars) != 1 || len(i.Vars[0]) != count+1 {
		t.Fatalf("many variables: %v", f)
	}
	for n, at := range statements {
		if i.Slots[at] != n+1 || i.Vars[0][n+1] != 1+n%3 || i.Kinds[at-1] != 1+n%3 {
			t.Fatalf("variable %d: slot %d, kind %d", n, i.Slots[at], i.Vars[0][n+1])
		}
	}
	l[statements[count-1]].S = "v1"
	holdFault(t, "one again", l, api.Fault{Err: api.ErrTwice, At: count - 1})
}

// Programs made at random are held against a plain reading of the chapter.

// seen is a variable that is seen, ahead of those that it may hide; level says
// in which of the blocks around.
type seen struct {
	name              string
	kind, slot, level int
	next              *seen
}

func (s *seen) find(name string) *seen {
	for ; s != nil && s.name != name; s = s.next {
	}
	return s
}

// reading is a plain checker: what is wrong is thrown as an api.Fault.
type reading struct {
	l    []api.Node
	info Info
	own  int
	vars []int
}

// plainCheck tells what Check must tell of a tree that is Whole.
func plainCheck(l []api.Node) (info Info, fault api.Fault) {
	defer func() {
		if x := recover(); x != nil {
			info, fault = Info{}, x.(api.Fault)
		}
	}()
	r := &reading{l: l}
	for range l {
		r.info.Kinds, r.info.Slots, r.info.Calls = append(r.info.Kinds, 0), append(r.info.Slots, -1), append(r.info.Calls, -1)
	}
	r.info.Fns = append(r.info.Fns, l[len(l)-1].Kids...)
	for n, at := range r.info.Fns {
		if r.called(l[at].S) < n {
			r.wrong(api.ErrTwice, at)
		}
	}
	r.info.Main = r.called("main")
	if r.info.Main == len(r.info.Fns) {
		panic(api.Fault{Err: api.ErrMain})
	}
	if at := r.info.Fns[r.info.Main]; r.signature(at) != "3" || l[at].N != 1 {
		r.wrong(api.ErrMain, at)
	}
	for _, at := range r.info.Fns {
		r.function(at)
	}
	return r.info, api.Fault{}
}

func (r *reading) wrong(err api.Errno, at int) {
	panic(api.Fault{Err: err, At: r.l[at].At})
}

// called tells the number of the first function of that name, or how many there are.
func (r *reading) called(name string) int {
	for n, at := range r.info.Fns {
		if r.l[at].S == name {
			return n
		}
	}
	return len(r.info.Fns)
}

// signature tells the kinds of a function's parameters as digits.
func (r *reading) signature(at int) string {
	s := ""
	for _, k := range r.l[at].Kids[:len(r.l[at].Kids)-1] {
		s += fmt.Sprint(r.l[k].N)
	}
	return s
}

func (r *reading) function(at int) {
	n := r.l[at]
	r.own, r.vars = n.N, nil
	var s *seen
	last := len(n.Kids) - 1
	for _, k := range n.Kids[:last] {
		s = r.declare(s, k, r.l[k].N, 0)
	}
	r.block(s, n.Kids[last], 1, false)
	r.info.Vars = append(r.info.Vars, r.vars)
}

func (r *reading) declare(s *seen, at, kind, level int) *seen {
	if old := s.find(r.l[at].S); old != nil && old.level == level {
		r.wrong(api.ErrTwice, at)
	}
	r.info.Slots[at] = len(r.vars)
	r.vars = append(r.vars, kind)
	return &seen{r.l[at].S, kind, r.info.Slots[at], level, s}
}

func (r *reading) block(s *seen, at, level int, loop bool) {
	for _, k := range r.l[at].Kids {
		s = r.statement(s, k, level, loop)
	}
}

// statement goes over a statement, and tells what is seen behind it.
func (r *reading) statement(s *seen, at, level int, loop bool) *seen {
	n := r.l[at]
	has := ""
	for _, k := range n.Kids {
		if r.l[k].Kind != api.NBlock {
			has += r.expression(s, k)
		}
	}
	v := s.find(n.S)
	if n.Kind == api.NSet || n.Kind == api.NPut {
		if v == nil {
			r.wrong(api.ErrName, at)
		}
		r.info.Slots[at] = v.slot
		has = fmt.Sprint(v.kind) + has
	}
	if (n.Kind == api.NBreak || n.Kind == api.NContinue) && !loop {
		r.wrong(api.ErrLoop, at)
	}
	wants := map[int]string{api.NLet: "1 2 3", api.NSet: "11 22 33", api.NPut: "311", api.NIf: "2", api.NWhile: "2", api.NFor: "11", api.NReturn: fmt.Sprint(r.own), api.NPrint: "1", api.NDo: "1 2 3"}
	if has != "" && !slices.Contains(strings.Fields(wants[n.Kind]), has) {
		r.wrong(api.ErrType, at)
	}
	inner := s
	switch n.Kind {
	case api.NLet:
		return r.declare(s, at, int(has[0]-'0'), level)
	case api.NFor:
		level++
		inner = r.declare(s, at, 1, level)
	}
	for _, k := range n.Kids {
		if r.l[k].Kind == api.NBlock {
			r.block(inner, k, level+1, loop || n.Kind == api.NFor || n.Kind == api.NWhile)
		}
	}
	return s
}

// expression goes over an expression, and tells its kind as a digit.
func (r *reading) expression(s *seen, at int) string {
	n := r.l[at]
	has := ""
	for _, k := range n.Kids {
		has += r.expression(s, k)
	}
	signs := [...]string{1: "22>2", 2: "22>2", 3: "11>2 22>2 33>2", 4: "11>2 22>2 33>2", 5: "11>2", 6: "11>2", 7: "11>2", 8: "11>2", 9: "11>1", 16: "11>1"}
	rule := map[int]string{api.NNum: ">1", api.NBool: ">2", api.NNil: ">3", api.NNeg: "1>1", api.NNot: "2>2", api.NIndex: "31>1", api.NLen: "3>1", api.NNew: "1>3"}[n.Kind]
	switch n.Kind {
	case api.NVar:
		v := s.find(n.S)
		if v == nil {
			r.wrong(api.ErrName, at)
		}
		r.info.Slots[at] = v.slot
		rule = fmt.Sprint(">", v.kind)
	case api.NCall:
		number := r.called(n.S)
		if number == len(r.info.Fns) {
			r.wrong(api.ErrName, at)
		}
		r.info.Calls[at] = number
		rule = fmt.Sprint(r.signature(r.info.Fns[number]), ">", r.l[r.info.Fns[number]].N)
	case api.NBin:
		if rule = signs[n.N]; rule == "" {
			rule = signs[9]
		}
	}
	for _, way := range strings.Fields(rule) {
		if to, ok := strings.CutPrefix(way, has+">"); ok {
			r.info.Kinds[at] = int(to[0] - '0')
			return to
		}
	}
	r.wrong(api.ErrType, at)
	return ""
}

// plant is a node that grows: its kids have no places yet.
type plant struct {
	node api.Node
	kids []*plant
}

// grower makes programs at random, most of them without a fault; of so many in
// a thousand choices it takes one that may be wrong.
type grower struct {
	r       *rand.Rand
	slips   int
	heads   []*plant
	blocks  [][]string
	kinds   [][]int
	returns int
	loops   int
}

var pool = []string{"a", "b", "c", "d", "main", "f1", "e"}

func (g *grower) slip() bool {
	return g.r.Intn(1000) < g.slips
}

// trip is a slip where choices are rare.
func (g *grower) trip() bool {
	return g.r.Intn(100) < g.slips
}

func (g *grower) kind() int {
	return 1 + g.r.Intn(3)
}

func (g *grower) name() string {
	return pool[g.r.Intn(len(pool))]
}

func (g *grower) node(kind, n int, s string, kids ...*plant) *plant {
	return &plant{node: api.Node{Kind: kind, N: n, S: s}, kids: kids}
}

// variable tells the name of a variable of the kind, if one is seen.
func (g *grower) variable(kind int) (string, bool) {
	if g.slip() {
		return g.name(), true
	}
	hidden := map[string]bool{}
	var l []string
	for b := len(g.blocks) - 1; b >= 0; b-- {
		for n, s := range g.blocks[b] {
			if !hidden[s] && g.kinds[b][n] == kind {
				l = append(l, s)
			}
		}
		for _, s := range g.blocks[b] {
			hidden[s] = true
		}
	}
	if len(l) == 0 {
		return "", false
	}
	return l[g.r.Intn(len(l))], true
}

// fresh tells a name that the innermost block has not, if there is one.
func (g *grower) fresh() (string, bool) {
	s := g.name()
	return s, g.trip() || !slices.Contains(g.blocks[len(g.blocks)-1], s)
}

func (g *grower) declare(s string, kind int) {
	b := len(g.blocks) - 1
	g.blocks[b], g.kinds[b] = append(g.blocks[b], s), append(g.kinds[b], kind)
}

func (g *grower) open() {
	g.blocks, g.kinds = append(g.blocks, nil), append(g.kinds, nil)
}

func (g *grower) close() {
	g.blocks, g.kinds = g.blocks[:len(g.blocks)-1], g.kinds[:len(g.kinds)-1]
}

// expression grows an expression of the kind.
func (g *grower) expression(kind, high int) *plant {
	if g.slip() {
		kind = g.kind()
	}
	way := g.r.Intn(6)
	if s, ok := g.variable(kind); ok && (high <= 0 || way == 0) {
		return g.node(api.NVar, 0, s)
	}
	if n := g.r.Intn(len(g.heads)); high > 0 && way == 1 && (g.heads[n].node.N == kind || g.slip()) {
		return g.call(n, high-1)
	}
	if high > 0 && way > 2 {
		switch kind {
		case api.Int:
			return g.reckoned(high - 1)
		case api.Bool:
			return g.asked(high - 1)
		}
		return g.node(api.NNew, 0, "", g.expression(api.Int, high-1))
	}
	return []*plant{nil, g.node(api.NNum, g.r.Intn(9), ""), g.node(api.NBool, g.r.Intn(2), ""), g.node(api.NNil, 0, "")}[kind]
}

func (g *grower) reckoned(high int) *plant {
	switch g.r.Intn(6) {
	case 0:
		return g.node(api.NNeg, 0, "", g.expression(api.Int, high))
	case 1:
		return g.node(api.NIndex, 0, "", g.expression(api.Arr, high), g.expression(api.Int, high))
	case 2:
		return g.node(api.NLen, 0, "", g.expression(api.Arr, high))
	}
	return g.node(api.NBin, api.Add+g.r.Intn(8), "", g.expression(api.Int, high), g.expression(api.Int, high))
}

func (g *grower) asked(high int) *plant {
	op, kind := 1+g.r.Intn(8), api.Int
	switch {
	case op <= api.And:
		kind = api.Bool
	case op <= api.Ne:
		kind = g.kind()
	case g.r.Intn(4) == 0:
		return g.node(api.NNot, 0, "", g.expression(api.Bool, high))
	}
	return g.node(api.NBin, op, "", g.expression(kind, high), g.expression(kind, high))
}

// call grows a call of the function.
func (g *grower) call(number, high int) *plant {
	head := g.heads[number]
	p := g.node(api.NCall, 0, head.node.S)
	for _, k := range head.kids {
		p.kids = append(p.kids, g.expression(k.node.N, high))
	}
	if g.slip() {
		p.node.S = g.name()
	}
	if len(p.kids) > 0 && g.slip() {
		p.kids = p.kids[1:]
	}
	if len(p.kids) < api.MaxParams && g.slip() {
		p.kids = append(p.kids, g.expression(g.kind(), 0))
	}
	return p
}

func (g *grower) block(high int) *plant {
	g.open()
	p := g.node(api.NBlock, 0, "")
	for range g.r.Intn(6) {
		if s := g.statement(high); s != nil {
			p.kids = append(p.kids, s)
		}
	}
	g.close()
	return p
}

func (g *grower) loop(high int) *plant {
	g.loops++
	p := g.block(high)
	g.loops--
	return p
}

// statement grows a statement, or none.
func (g *grower) statement(high int) *plant {
	kind := g.kind()
	way := g.r.Intn(11)
	if high <= 0 {
		way = g.r.Intn(7)
	}
	switch way {
	case 0, 1:
		p := g.node(api.NLet, 0, "", g.expression(kind, 2))
		s, ok := g.fresh()
		if !ok {
			return nil
		}
		p.node.S = s
		g.declare(s, kind)
		return p
	case 2:
		if s, ok := g.variable(kind); ok {
			return g.node(api.NSet, 0, s, g.expression(kind, 3))
		}
	case 3:
		if s, ok := g.variable(api.Arr); ok {
			return g.node(api.NPut, 0, s, g.expression(api.Int, 2), g.expression(api.Int, 2))
		}
	case 4:
		if g.loops > 0 || g.trip() {
			return g.node(api.NBreak+g.r.Intn(2), 0, "")
		}
	case 5:
		return g.node(api.NReturn, 0, "", g.expression(g.returns, 3))
	case 6:
		return g.node(api.NDo, 0, "", g.call(g.r.Intn(len(g.heads)), 2))
	case 7:
		return g.node(api.NIf, 0, "", g.expression(api.Bool, 3), g.block(high-1))
	case 8:
		return g.node(api.NIf, 0, "", g.expression(api.Bool, 3), g.block(high-1), g.block(high-1))
	case 9:
		return g.node(api.NWhile, 0, "", g.expression(api.Bool, 3), g.loop(high-1))
	case 10:
		p := g.node(api.NFor, 0, g.name(), g.expression(api.Int, 2), g.expression(api.Int, 2))
		g.open()
		g.declare(p.node.S, api.Int)
		p.kids = append(p.kids, g.loop(high-1))
		g.close()
		return p
	}
	return g.node(api.NPrint, 0, "", g.expression(api.Int, 3))
}

// program grows a program: functions' heads first, so that calls know them all.
func (g *grower) program() *plant {
	count := 1 + g.r.Intn(5)
	main := g.r.Intn(count)
	for n := range count {
		f := g.node(api.NFunc, g.kind(), fmt.Sprintf("f%d", n))
		for k := range g.r.Intn(4) {
			f.kids = append(f.kids, g.node(api.NParam, g.kind(), pool[k]))
		}
		if n == main && !g.slip() {
			f = g.node(api.NFunc, api.Int, "main", g.node(api.NParam, api.Arr, g.name()))
		}
		if g.slip() {
			f.node.S = g.name()
		}
		if len(f.kids) > 0 && g.slip() {
			f.kids[len(f.kids)-1].node.S = g.name()
		}
		g.heads = append(g.heads, f)
	}
	p := g.node(api.NProg, 0, "")
	for _, head := range g.heads {
		f := *head
		g.returns = f.node.N
		g.open()
		for _, k := range f.kids {
			g.declare(k.node.S, k.node.N)
		}
		f.kids = append(slices.Clone(f.kids), g.block(3))
		g.close()
		p.kids = append(p.kids, &f)
	}
	return p
}

// lay puts what has grown into a list: each node behind its kids, else in any
// order, and at a place of the text of its own.
func lay(r *rand.Rand, root *plant) ([]api.Node, map[*plant]int) {
	waits := map[*plant]int{}
	above := map[*plant]*plant{}
	var ready []*plant
	var walk func(p *plant)
	walk = func(p *plant) {
		waits[p] = len(p.kids)
		if len(p.kids) == 0 {
			ready = append(ready, p)
		}
		for _, k := range p.kids {
			above[k] = p
			walk(k)
		}
	}
	walk(root)
	ats := r.Perm(len(waits))
	places := map[*plant]int{}
	var l []api.Node
	for len(ready) > 0 {
		k := r.Intn(len(ready))
		p := ready[k]
		ready = slices.Delete(ready, k, k+1)
		n := p.node
		n.At = 1 + ats[len(l)]
		for _, k := range p.kids {
			n.Kids = append(n.Kids, places[k])
		}
		places[p] = len(l)
		l = append(l, n)
		if up := above[p]; up != nil {
			if waits[up]--; waits[up] == 0 {
				ready = append(ready, up)
			}
		}
	}
	return l, places
}

// told tells an Info and a fault as a text; lists of none are alike.
func told(i Info, f api.Fault) string {
	return fmt.Sprint(i.Kinds, i.Slots, i.Calls, i.Fns, i.Vars, i.Main, int(f.Err), f.At)
}

func TestRandom(t *testing.T) {
	r := rand.New(rand.NewSource(1111))
	counts := map[api.Errno]int{}
	for n := range 6000 {
		g := &grower{r: r, slips: []int{0, 2, 10, 40}[n%4]}
		root := g.program()
		l, _ := lay(r, root)
		if !tree.Whole(l) {
			t.Fatalf("not Whole: %v", l)
		}
		i, f := Check(l)
		if got, want := told(i, f), told(plainCheck(l)); got != want {
			t.Fatalf("%s:\n%s, want\n%s", tree.Text(l), got, want)
		}
		counts[f.Err]++
		// The same tree, laid otherwise, and elsewhere in the text.
		m, _ := lay(r, root)
		j, h := Check(m)
		if f.Err != h.Err || fmt.Sprint(i.Vars, i.Main) != fmt.Sprint(j.Vars, j.Main) {
			t.Fatalf("%s: %v, laid otherwise %v", tree.Text(l), f, h)
		}
	}
	for _, err := range []api.Errno{api.OK, api.ErrName, api.ErrTwice, api.ErrType, api.ErrLoop, api.ErrMain} {
		if counts[err] < 50 {
			t.Errorf("too few of %v: %v", err, counts)
		}
	}
}

// The chapter's example.

func TestExample(t *testing.T) {
	holdWrong(t, api.ErrName, "fn main(x arr) int { print @y; }")
}

func ExampleCheck() {
	l, _ := parse.Parse("fn main(x arr) int { print y; }")
	i, f := Check(l)
	fmt.Println(len(i.Kinds), f.Err, f.At)
	l, _ = parse.Parse("fn main(x arr) int { var y = len(x); print y; }")
	i, f = Check(l)
	fmt.Println(i.Kinds, i.Slots, i.Vars, f)
	// Output:
	// 0 error 9 27
	// [0 3 1 0 1 0 0 0 0] [0 0 -1 1 1 -1 -1 -1 -1] [[3 1]] {error 0 0}
}
