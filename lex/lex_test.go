package lex

import (
	"fmt"
	"math"
	"math/big"
	"reflect"
	"regexp"
	"strings"
	"testing"

	"balustrade/api"
)

// words and signs are all those that the chapter names.
var (
	words = strings.Fields("fn var if else while for break continue return print len new true false nil int bool arr")
	signs = strings.Fields("|| && == != <= >= < > +% -% *% + - * / % ! = ( ) { } [ ] , ;")
)

// forms of a text's parts, the longer signs ahead of those that begin them.
var (
	blankForm  = regexp.MustCompile(`^(?:[ \t\n\r]|#[^\n]*)*`)
	wordForm   = regexp.MustCompile(`^[a-zA-Z_][a-zA-Z_0-9]*`)
	numberForm = regexp.MustCompile(`^[0-9]+`)
	signForm   = regexp.MustCompile(`^(?:\|\||&&|[=!<>]=|[-+*]%|[-<>+*/%!=(){}\[\],;])`)
	// between two tokens a remark has its byte 10, else the second one were in it.
	betweenForm = regexp.MustCompile(`^(?:[ \t\n\r]|#[^\n]*\n)*$`)
)

// program is an ordinary text, with tokens of all kinds.
const program = `# sums up
fn sum(x arr, from int) int {
	var s = 0; # from here on
	for i = from, len(x) {
		if x[i] % 2 == 1 && !(x[i] <= -10) || false { s = s +% x[i] *% 3; } else { continue; }
		while s >= 100 { s = s - 100 / 7; break; }
	}
	return s -% 1;
}
fn main(x arr) int { print sum(x, 0) * 2; x = new(9223372036854775807 - len(x)); return 0; } # the end`

// texts are ordinary ones, the chapter's edges, and wrong ones.
func texts() []string {
	l := []string{
		"", " ", "\t\r\n ", "#", "##", "#\n", "# a", "# a\n", " # a\n\n#b\n\t", "#\x00\xff$\n#\xc3",
		program, "a<=12+%b # c", "a#b\nc", "a#b", "#a\rb\nc", "12ab", "0x1F", "1_0", "1e9", "007", "00", "0",
		"===", "!==", "<<=", ">>=", "+%%", "-%%", "*%%", "**", "||||", "&&&&", "=>", "=<", "!!", "+=", "-=", "*=", "/=", "%=", "%%",
		"|", "&", "|||", "&&&", "| |", "& &", "|&", "&|", "a|b", "a&b", "a.b", "$", "a $", "\"x\"", "'", "~", "^", "?", ":", "@", "\\", "`", ".",
		"\x00", "a\x00", "\v", "\f", "\x7f", "\x80", "\xff", "a\xffb", "ä", "aä", "1ä", "日", "\u00a0", "\u2028", "\ufeff", "# ä\n日",
		strings.Repeat("a", 32), strings.Repeat("a", 33), strings.Repeat("9", 33), "continue_", "continue1", "iff", "_",
		"9223372036854775807", "9223372036854775808", "18446744073709551616", "18446744073709551617", "00009223372036854775807", "00009223372036854775808",
		strings.Repeat("0", 500) + "7", strings.Repeat("0", 500), strings.Repeat("9", 500),
		"$ 99999999999999999999", "99999999999999999999 $", strings.Repeat("b", 40) + " $", "$" + strings.Repeat("b", 40),
	}
	for _, s := range append(append([]string{}, words...), signs...) {
		l = append(l, s, s+s, s+"=", s+"%", s+"_", "_"+s, s+"0", "0"+s, s+"#", s+" a", "a"+s, s+"\xff", s+"\n"+s)
	}
	return l
}

// shortTexts are all texts of up to 4 of the bytes that part tokens in some way.
func shortTexts() []string {
	all, longest := []string{""}, []string{""}
	for range 4 {
		var next []string
		for _, s := range longest {
			for _, b := range []byte("a_7 \n#|&=!+%;\x00\xff") {
				next = append(next, s+string([]byte{b}))
			}
		}
		longest = next
		all = append(all, next...)
	}
	return all
}

// byForms tells what Tokens has to tell, by the forms of a text's parts.
func byForms(text string) ([]api.Token, api.Fault) {
	if len(text) > 65536 {
		return nil, api.Fault{Err: 3}
	}
	var l []api.Token
	for at := 0; ; {
		at += len(blankForm.FindString(text[at:]))
		if at == len(text) {
			return append(l, api.Token{At: at}), api.Fault{}
		}
		t := api.Token{At: at}
		if t.Text = wordForm.FindString(text[at:]); t.Text != "" {
			t.Kind = 1
			if strings.Contains(" "+strings.Join(words, " ")+" ", " "+t.Text+" ") {
				t.Kind = 3
			} else if len(t.Text) > 32 {
				return nil, api.Fault{Err: 3, At: at}
			}
		} else if t.Text = numberForm.FindString(text[at:]); t.Text != "" {
			n, _ := new(big.Int).SetString(t.Text, 10)
			if !n.IsInt64() {
				return nil, api.Fault{Err: 7, At: at}
			}
			t.Kind, t.N = 2, int(n.Int64())
		} else if t.Text = signForm.FindString(text[at:]); t.Text != "" {
			t.Kind = 4
		} else {
			return nil, api.Fault{Err: 6, At: at}
		}
		l = append(l, t)
		at += len(t.Text)
	}
}

// holdTokens holds Tokens against tokens and a fault.
func holdTokens(t *testing.T, text string, want []api.Token, fault api.Fault) {
	t.Helper()
	if l, f := Tokens(text); f != fault || len(l) != len(want) || len(l) > 0 && !reflect.DeepEqual(l, want) {
		t.Errorf("Tokens(%.60q, %d bytes): %.200v, %v, want %.200v, %v", text, len(text), l, f, want, fault)
	}
}

// holdFault holds Tokens against a fault, beside which there is no token.
func holdFault(t *testing.T, text string, e api.Errno, at int) {
	t.Helper()
	holdTokens(t, text, nil, api.Fault{Err: e, At: at})
}

// holdOne holds Tokens of a text against one token, and the end behind it.
func holdOne(t *testing.T, text string, want api.Token) {
	t.Helper()
	holdTokens(t, text, []api.Token{want, {At: len(text)}}, api.Fault{})
}

// holdTexts holds Tokens of a text against the bytes of its tokens, in order.
func holdTexts(t *testing.T, text string, want ...string) {
	t.Helper()
	l, f := Tokens(text)
	var got []string
	for _, k := range l {
		got = append(got, k.Text)
	}
	if want = append(want, ""); f != (api.Fault{}) || !reflect.DeepEqual(got, want) {
		t.Errorf("Tokens(%.60q): %q, %v, want %q", text, got, f, want)
	}
}

// holdIs holds Word, Name and Blank of a text against what they have to tell.
func holdIs(t *testing.T, s string, word, name, blank bool) {
	t.Helper()
	if w, n, b := Word(s), Name(s), Blank(s); w != word || n != name || b != blank {
		t.Errorf("%.60q, %d bytes: word %v, name %v, blank %v, want %v, %v, %v", s, len(s), w, n, b, word, name, blank)
	}
}

// Promise 5.1: tokens of every kind, written out.
func TestTokensWrittenOut(t *testing.T) {
	holdTokens(t, "fn f2(_A arr) int { # 1 $\n\treturn\r-012*%_A[0];}", []api.Token{
		{Kind: api.TWord, Text: "fn", At: 0},
		{Kind: api.TName, Text: "f2", At: 3},
		{Kind: api.TSign, Text: "(", At: 5},
		{Kind: api.TName, Text: "_A", At: 6},
		{Kind: api.TWord, Text: "arr", At: 9},
		{Kind: api.TSign, Text: ")", At: 12},
		{Kind: api.TWord, Text: "int", At: 14},
		{Kind: api.TSign, Text: "{", At: 18},
		{Kind: api.TWord, Text: "return", At: 27},
		{Kind: api.TSign, Text: "-", At: 34},
		{Kind: api.TNum, Text: "012", N: 12, At: 35},
		{Kind: api.TSign, Text: "*%", At: 38},
		{Kind: api.TName, Text: "_A", At: 40},
		{Kind: api.TSign, Text: "[", At: 42},
		{Kind: api.TNum, Text: "0", At: 43},
		{Kind: api.TSign, Text: "]", At: 44},
		{Kind: api.TSign, Text: ";", At: 45},
		{Kind: api.TSign, Text: "}", At: 46},
		{Kind: api.TEnd, At: 47},
	}, api.Fault{})
}

// Promise 5.1: nothing but blanks and remarks: the end alone, at the text's end.
func TestTokensOfNothing(t *testing.T) {
	for _, text := range []string{"", " ", "\t", "\n", "\r", " \t\n\r ", "#", "##", "#\n", "# a", "# a\n", "# a\n\n# b 1 $", "#\x00\x80\xff|&\n", "#\r$", "\n#\n"} {
		holdTokens(t, text, []api.Token{{At: len(text)}}, api.Fault{})
		holdIs(t, text, false, false, true)
	}
}

// Promise 5.1: a remark ends with its line alone, and may stand right behind a token.
func TestTokensAroundRemarks(t *testing.T) {
	holdTexts(t, "a#b\nc", "a", "c")
	holdTexts(t, "a#b\rc\n", "a")
	holdTexts(t, "a#b", "a")
	holdTexts(t, "a<#=\n=1#2\n3", "a", "<", "=", "1", "3")
	holdTexts(t, "#\na#\n\n#\nb", "a", "b")
	holdTexts(t, "#a#b\nc", "c")
}

// Promise 5.1, 5.2: each key word, and names that begin with one, end with one, or are one but for a letter.
func TestKeyWords(t *testing.T) {
	if len(words) != 18 {
		t.Fatalf("%d key words", len(words))
	}
	for _, w := range words {
		holdOne(t, w, api.Token{Kind: api.TWord, Text: w})
		holdIs(t, w, true, false, false)
		for _, s := range []string{w + "s", w + "_", w + "0", w + "A", "_" + w, "a" + w, w + w, strings.ToUpper(w), strings.ToUpper(w[:1]) + w[1:]} {
			holdOne(t, s, api.Token{Kind: api.TName, Text: s})
			holdIs(t, s, false, true, false)
		}
		if s := w[:len(w)-1]; s != "" {
			holdOne(t, s, api.Token{Kind: api.TName, Text: s})
			holdIs(t, s, false, true, false)
		}
		for _, s := range []string{" " + w, w + " ", w + ";", w + "\x00", w + "\n", "#" + w} {
			holdIs(t, s, false, false, s[0] == '#')
		}
	}
}

// Promise 5.1: each sign alone, and with what may stand around it.
func TestSigns(t *testing.T) {
	if len(signs) != 26 {
		t.Fatalf("%d signs", len(signs))
	}
	for _, s := range signs {
		holdOne(t, s, api.Token{Kind: api.TSign, Text: s})
		holdIs(t, s, false, false, false)
		holdTexts(t, "a"+s+"b", "a", s, "b")
		holdTexts(t, "1"+s+"2", "1", s, "2")
		holdTexts(t, s+"#"+s+"\n"+s, s, s)
		holdTexts(t, s+" "+s, s, s)
	}
}

// Promise 5.1: a sign is as long as it can be, and no longer.
func TestSignsThatBeginLongerOnes(t *testing.T) {
	for text, want := range map[string]string{
		"===": "== =", "====": "== ==", "= =": "= =", "!==": "!= =", "!!=": "! !=", "! =": "! =", "<==": "<= =", "<<=": "< <=", "< =": "< =",
		">==": ">= =", ">>=": "> >=", "> =": "> =", "=<": "= <", "=>": "= >", "=!": "= !", "<>": "< >", "=<=": "= <=", "==!": "== !",
		"+%%": "+% %", "++%": "+ +%", "+ %": "+ %", "-%%": "-% %", "--%": "- -%", "- %": "- %", "*%%": "*% %", "**%": "* *%", "* %": "* %",
		"+=": "+ =", "-=": "- =", "*=": "* =", "/=": "/ =", "%=": "% =", "%%": "% %", "/%": "/ %", "%+": "% +", "=%": "= %", "!%": "! %", "<%": "< %", ">%": "> %",
		"+-*%": "+ - *%", "||||": "|| ||", "&&&&": "&& &&", "||&&": "|| &&", "&&||": "&& ||", "||=": "|| =", "&&%": "&& %", "(=": "( =", ")%": ") %",
	} {
		holdTexts(t, text, strings.Fields(want)...)
	}
}

// Promise 5.1: there is no sign of one | or &, and none of two bytes that are not the same.
func TestHalfSigns(t *testing.T) {
	for _, b := range []string{"|", "&"} {
		holdFault(t, b, api.ErrToken, 0)
		holdFault(t, b+" "+b, api.ErrToken, 0)
		holdFault(t, b+"\n"+b, api.ErrToken, 0)
		holdFault(t, b+"#\n"+b, api.ErrToken, 0)
		holdFault(t, b+"a", api.ErrToken, 0)
		holdFault(t, b+"\x00", api.ErrToken, 0)
		holdFault(t, "a"+b, api.ErrToken, 1)
		holdFault(t, " "+b+b+b, api.ErrToken, 3)
		holdFault(t, b+b+" "+b, api.ErrToken, 3)
	}
	holdFault(t, "|&", api.ErrToken, 0)
	holdFault(t, "&|", api.ErrToken, 0)
	holdFault(t, "|=", api.ErrToken, 0)
	holdFault(t, "&%", api.ErrToken, 0)
}

// Promise 5.1, 5.2: names of up to 32 bytes; a longer word is wrong at its first byte.
func TestLongNames(t *testing.T) {
	for _, s := range []string{strings.Repeat("a", 32), "_" + strings.Repeat("9", 31), strings.Repeat("continue", 4), strings.Repeat("_", 32), "Z"} {
		holdOne(t, s, api.Token{Kind: api.TName, Text: s})
		holdIs(t, s, false, true, false)
	}
	for _, s := range []string{strings.Repeat("a", 33), "_" + strings.Repeat("9", 32), strings.Repeat("continue", 4) + "1", strings.Repeat("f", 64), strings.Repeat("x", 1000), strings.Repeat("a", 65536)} {
		holdFault(t, s, api.ErrLong, 0)
		holdIs(t, s, false, false, false)
	}
	holdFault(t, "a \n"+strings.Repeat("b", 33)+" c", api.ErrLong, 3)
	holdFault(t, "1"+strings.Repeat("b", 33), api.ErrLong, 1)
	holdTexts(t, strings.Repeat("a", 32)+" b", strings.Repeat("a", 32), "b")
}

// Promise 5.1: numbers up to 2^63 - 1, with zeros ahead of them and without; a greater one is wrong at its first digit.
func TestNumbers(t *testing.T) {
	for s, n := range map[string]int{
		"0": 0, "1": 1, "9": 9, "10": 10, "65537": 65537, "4294967296": 1 << 32,
		"9223372036854775799": math.MaxInt - 8, "9223372036854775800": math.MaxInt - 7, "9223372036854775806": math.MaxInt - 1, "9223372036854775807": math.MaxInt,
	} {
		for _, zeros := range []string{"", "0", "000", strings.Repeat("0", 40), strings.Repeat("0", 60000)} {
			holdOne(t, zeros+s, api.Token{Kind: api.TNum, Text: zeros + s, N: n})
		}
	}
	for _, s := range []string{
		"9223372036854775808", "9223372036854775809", "9223372036854775810", "9223372036854775900", "9999999999999999999", "10000000000000000000",
		"18446744073709551615", "18446744073709551616", "18446744073709551617", "27670116110564327424", "92233720368547758070", "340282366920938463463374607431768211456",
		strings.Repeat("9", 65536), "1" + strings.Repeat("0", 65535), "9223372036854775808" + strings.Repeat("0", 5000),
	} {
		holdFault(t, s, api.ErrRange, 0)
		if len(s) < 65000 {
			holdFault(t, "\n 1 "+s+" 2", api.ErrRange, 4)
			holdFault(t, strings.Repeat("0", 100)+s, api.ErrRange, 0)
		}
	}
	holdOne(t, strings.Repeat("0", 65536), api.Token{Kind: api.TNum, Text: strings.Repeat("0", 65536)})
}

// Promise 5.1: a number ends ahead of a letter, and a sign is none of its digits.
func TestNumbersWithMoreBehind(t *testing.T) {
	holdTokens(t, "12ab3", []api.Token{{Kind: api.TNum, Text: "12", N: 12}, {Kind: api.TName, Text: "ab3", At: 2}, {At: 5}}, api.Fault{})
	holdTexts(t, "0x1F", "0", "x1F")
	holdTexts(t, "1_000", "1", "_000")
	holdTexts(t, "1e9", "1", "e9")
	holdTexts(t, "7fn", "7", "fn")
	holdTexts(t, "-1+1", "-", "1", "+", "1")
	holdFault(t, "1.5", api.ErrToken, 1)
	holdFault(t, "9223372036854775808ab", api.ErrRange, 0)
}

// Promise 5.1: each byte at which no token begins, outside a remark and in one.
func TestBytesOfNoToken(t *testing.T) {
	const begin = "abcdefghijklmnopqrstuvwxyzABCDEFGHIJKLMNOPQRSTUVWXYZ_0123456789=!<>+-*/%(){}[],; \t\n\r#"
	wrong := 0
	for b := range 256 {
		s := string([]byte{byte(b)})
		if strings.Contains(begin, s) {
			continue
		}
		wrong++
		holdFault(t, s, api.ErrToken, 0)
		holdFault(t, "ab "+s+" c", api.ErrToken, 3)
		holdFault(t, "ab"+s, api.ErrToken, 2)
		holdFault(t, "12"+s, api.ErrToken, 2)
		holdFault(t, "<"+s, api.ErrToken, 1)
		holdFault(t, "#"+s+"\n"+s, api.ErrToken, 3)
		holdTexts(t, "a #"+s+" b"+s+"\nc", "a", "c")
		holdIs(t, s, false, false, false)
		holdIs(t, "a"+s, false, false, false)
		holdIs(t, " "+s, false, false, false)
		holdIs(t, "#"+s, false, false, true)
	}
	if wrong != 256-len(begin) {
		t.Errorf("%d bytes", wrong)
	}
	holdFault(t, "a ä", api.ErrToken, 2)
	holdFault(t, "日", api.ErrToken, 0)
}

// Promise 5.1: of several errors the first one from the left is told, of whatever kind, and no token beside it.
func TestFirstError(t *testing.T) {
	long, great := strings.Repeat("n", 33), "9223372036854775808"
	for _, first := range []struct {
		text string
		err  api.Errno
	}{{"$", api.ErrToken}, {"|", api.ErrToken}, {great, api.ErrRange}, {long, api.ErrLong}} {
		for _, second := range []string{"$", "&", "\xff", great, long} {
			holdFault(t, "fn a 1 "+first.text+" "+second, first.err, 7)
			holdFault(t, "# $\n"+first.text+"\n"+second+"\nb", first.err, 4)
			holdFault(t, "#"+second+"\n+ "+first.text+";"+second, first.err, len(second)+4)
		}
	}
	holdFault(t, "$$", api.ErrToken, 0)
	holdFault(t, great+"$", api.ErrRange, 0)
	holdFault(t, long+"$", api.ErrLong, 0)
	holdFault(t, great+long, api.ErrRange, 0)
}

// Promise 5.1, 5.2: a text of 65536 bytes is read, one of 65537 is too long, whatever is in it.
func TestLongTexts(t *testing.T) {
	for _, s := range []string{" ", "#", "\n", ";", "a ", "$", "1", "<", "# a\n", "\x00", "\xff"} {
		text := strings.Repeat(s, 65537)[:65537]
		holdFault(t, text, api.ErrLong, 0)
		holdFault(t, text+text, api.ErrLong, 0)
		holdIs(t, text, false, false, false)
		want, fault := byForms(text[:65536])
		holdTokens(t, text[:65536], want, fault)
	}
	for _, s := range []string{strings.Repeat(" ", 65536), strings.Repeat("#", 65536), strings.Repeat("# \xff\n", 16384)} {
		holdIs(t, s, false, false, true)
		holdIs(t, s+" ", false, false, false)
	}
	l, f := Tokens(strings.Repeat(";", 65536))
	if len(l) != 65537 || f != (api.Fault{}) || l[65535].At != 65535 || l[65536] != (api.Token{At: 65536}) {
		t.Errorf("%d tokens, %v", len(l), f)
	}
	holdFault(t, strings.Repeat(" ", 65535)+"$", api.ErrToken, 65535)
	holdFault(t, strings.Repeat(" ", 65536)+"$", api.ErrLong, 0)
}

// Promise 5.1: at all texts that are short, or of two bytes, or told above.
func TestTokens(t *testing.T) {
	for _, text := range append(texts(), shortTexts()...) {
		want, fault := byForms(text)
		holdTokens(t, text, want, fault)
	}
	for a := range 256 {
		for b := range 256 {
			text := string([]byte{byte(a), byte(b)})
			want, fault := byForms(text)
			holdTokens(t, text, want, fault)
		}
	}
}

// Promise 5.2: of nothing, and of what is nearly a word.
func TestWordNameBlankWrittenOut(t *testing.T) {
	holdIs(t, "", false, false, true)
	for _, s := range []string{"1", "1a", "9fn", "a b", "a-b", "a\n", "\na", "a#", "a#b", "fn fn", "fnä", "ä", "+", "a\x00", "\x00", "a.b", "|", "$"} {
		holdIs(t, s, false, false, false)
	}
	for _, s := range []string{"a", "z", "A", "Z", "_", "a0", "a9", "_0", "main", "x1", "Fn", "NIL", "in", "ints", "iff"} {
		holdIs(t, s, false, true, false)
	}
	for _, s := range []string{"#fn", " #a", "# a\n#", "\t# \xff\n\r", "#\n\n"} {
		holdIs(t, s, false, false, true)
	}
	for _, s := range []string{"#\na", "# a\n;", " a", "a #", "\v", "\f", "\u00a0", "\u0085", "#\n\x00", "\x00#"} {
		holdIs(t, s, false, false, false)
	}
}

// Promise 5.2: each is told by what Tokens tells of the same text.
func TestWordNameBlank(t *testing.T) {
	for _, s := range append(texts(), shortTexts()...) {
		l, f := byForms(s)
		read := f == (api.Fault{})
		whole := read && len(l) == 2 && l[0].Text == s
		holdIs(t, s, whole && l[0].Kind == 3, whole && l[0].Kind == 1, read && len(l) == 1)
	}
}

// holdParted holds against each other a text and its tokens: they stand one
// behind the other, with nothing but blanks and remarks between.
func holdParted(t *testing.T, text string, l []api.Token) {
	t.Helper()
	end := 0
	for _, k := range l {
		if k.At < end || k.At+len(k.Text) > len(text) || text[k.At:k.At+len(k.Text)] != k.Text {
			t.Errorf("of %.60q: %q at %d", text, k.Text, k.At)
			return
		}
		if between := text[end:k.At]; !Blank(between) || k.Kind != 0 && !betweenForm.MatchString(between) {
			t.Errorf("of %.60q: %q ahead of %q", text, between, k.Text)
		}
		if (k.Text == "") != (k.Kind == 0) || k.N != 0 && k.Kind != 2 {
			t.Errorf("of %.60q: %v", text, k)
		}
		end = k.At + len(k.Text)
	}
	if last := l[len(l)-1]; last != (api.Token{At: len(text)}) {
		t.Errorf("of %.60q: at the end %v", text, last)
	}
}

// holdJoined holds tokens against those of a text in which they are joined by blanks.
func holdJoined(t *testing.T, l []api.Token, blanks string) {
	t.Helper()
	var parts []string
	at := 0
	want := append([]api.Token{}, l...)
	for i := range want {
		want[i].At = at
		parts = append(parts, want[i].Text)
		at += len(want[i].Text) + len(blanks)
	}
	if text := strings.Join(parts, blanks); len(text) <= 65536 {
		holdTokens(t, text, want, api.Fault{})
	}
}

// Promise 5.3: of all texts that are read.
func TestPartedAndJoined(t *testing.T) {
	for _, text := range append(texts(), shortTexts()...) {
		l, f := Tokens(text)
		if f != (api.Fault{}) {
			continue
		}
		holdParted(t, text, l)
		for _, blanks := range []string{" ", "\t", "\n", "\r", " \r\n\t", "#\n", " # a\n"} {
			holdJoined(t, l, blanks)
		}
	}
}

// Rules: tokens that are told are one's own, and a text is told anew each time.
func TestTokensAreOnesOwn(t *testing.T) {
	a, _ := Tokens(program)
	b, _ := Tokens(program)
	for i := range a {
		a[i] = api.Token{Kind: 9, Text: "?", N: 9, At: -1}
	}
	want, _ := byForms(program)
	if !reflect.DeepEqual(b, want) {
		t.Errorf("changed: %v", b)
	}
	holdTokens(t, program, want, api.Fault{})
}

// P1 and all of 5: at whatever text.
func FuzzTokens(f *testing.F) {
	for _, text := range texts() {
		f.Add(text)
	}
	f.Fuzz(func(t *testing.T, text string) {
		want, fault := byForms(text)
		holdTokens(t, text, want, fault)
		if fault == (api.Fault{}) {
			holdParted(t, text, want)
			holdJoined(t, want, " ")
		}
	})
}

// The chapter's example.
func ExampleTokens() {
	l, f := Tokens("a<=12+%b # c")
	for _, t := range l {
		fmt.Printf("%d %q %d at %d\n", t.Kind, t.Text, t.N, t.At)
	}
	fmt.Println(f)
	// Output:
	// 1 "a" 0 at 0
	// 4 "<=" 0 at 1
	// 2 "12" 12 at 3
	// 4 "+%" 0 at 5
	// 1 "b" 0 at 7
	// 0 "" 0 at 12
	// {error 0 0}
}
