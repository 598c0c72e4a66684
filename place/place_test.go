package place

import (
	"fmt"
	"math"
	"strings"
	"testing"
)

// texts are ordinary ones, and the chapter's edges: none, bytes 10 alone, with
// and without one at the end, bytes that are no UTF-8, characters of several.
func texts() []string {
	return []string{
		"", "a", "abc", "\n", "\n\n", "\n\n\n\n", "a\nb", "a\nb\n", "\na", "a\n", "ab\n\nc\n", "ab\n\nc",
		"fn main(x arr) int {\n\treturn x[0];\n}\n",
		"fn main(x arr) int {\n\treturn x[0];\n}",
		"one\r\ntwo\r\n", "\r", "\r\n\r", "a\vb\fc\x00d\n\x00\n", "\t\n \n",
		"\xff", "\xff\n\xfe\n", "\xc3\n\xa4", "\xe2\x82\n\xac\n\xf0\x9f", "\x80\x8a\x8a\x80",
		"ä\nöß\n€", "日本\n語\n", "a\u0085b\u2028c\u2029d\ne", "😀\n\n😀😀",
		"\u010a\u0a0a\n\u0a00", // bytes 10 only between the characters, not of them
		strings.Repeat("0123456789\n", 500), strings.Repeat("\n", 2000), strings.Repeat("x", 3000),
	}
}

// shortTexts are all texts of up to 7 bytes of a letter, a byte 10 and a byte that is no character.
func shortTexts() []string {
	all, longest := []string{""}, []string{""}
	for range 7 {
		var next []string
		for _, s := range longest {
			next = append(next, s+"a", s+"\n", s+"\xff")
		}
		longest = next
		all = append(all, next...)
	}
	return all
}

// spot is a place's line and column.
type spot struct{ line, column int }

// spots tells the spot of each place of the text, from 0 to its end, by going
// over its bytes one by one.
func spots(text string) []spot {
	now := spot{1, 1}
	var l []spot
	for i := 0; i < len(text); i++ {
		l = append(l, now)
		now.column++
		if text[i] == 10 {
			now = spot{now.line + 1, 1}
		}
	}
	return append(l, now)
}

// far are numbers that are no place, no line and no column of any text here.
func far() []int {
	return []int{math.MinInt, math.MinInt + 1, -1 << 32, -1 << 31, -5, -2, -1, 1 << 31, 1 << 32, 1<<32 + 1, math.MaxInt - 1, math.MaxInt}
}

// around are the numbers near 1 and near n, and those far away.
func around(n int) []int {
	return append(far(), 0, 1, 2, n/2, n-1, n, n+1, n+2, 2*n+2)
}

// holdOf holds Of against a spot, or against there being none.
func holdOf(t *testing.T, text string, at int, want spot, there bool) {
	t.Helper()
	if line, column, ok := Of(text, at); line != want.line || column != want.column || ok != there {
		t.Errorf("Of(%.40q, %d): %d, %d, %v, want %d, %v", text, at, line, column, ok, want, there)
	}
}

// holdAt holds At against a place, or against there being none.
func holdAt(t *testing.T, text string, s spot, want int, there bool) {
	t.Helper()
	if at, ok := At(text, s.line, s.column); at != want || ok != there {
		t.Errorf("At(%.40q, %d, %d): %d, %v, want %d, %v", text, s.line, s.column, at, ok, want, there)
	}
}

// holdLine holds Line against a line, or against there being none.
func holdLine(t *testing.T, text string, line int, want string, there bool) {
	t.Helper()
	if s, ok := Line(text, line); s != want || ok != there {
		t.Errorf("Line(%.40q, %d): %.40q, %v, want %.40q, %v", text, line, s, ok, want, there)
	}
}

// Promise 4.1: written out, with the byte 10 as its line's last column, and the text's end.
func TestOfWrittenOut(t *testing.T) {
	for text, want := range map[string][]spot{
		"":          {{1, 1}},
		"a":         {{1, 1}, {1, 2}},
		"\n":        {{1, 1}, {2, 1}},
		"\n\n":      {{1, 1}, {2, 1}, {3, 1}},
		"ab\n\nc":   {{1, 1}, {1, 2}, {1, 3}, {2, 1}, {3, 1}, {3, 2}},
		"a\nb\n":    {{1, 1}, {1, 2}, {2, 1}, {2, 2}, {3, 1}},
		"ä\n\xff":   {{1, 1}, {1, 2}, {1, 3}, {2, 1}, {2, 2}},
		"a\r\n\r":   {{1, 1}, {1, 2}, {1, 3}, {2, 1}, {2, 2}},
		"日\n\u010a": {{1, 1}, {1, 2}, {1, 3}, {1, 4}, {2, 1}, {2, 2}, {2, 3}},
	} {
		for at, s := range want {
			holdOf(t, text, at, s, true)
			holdAt(t, text, s, at, true)
		}
		holdOf(t, text, -1, spot{}, false)
		holdOf(t, text, len(want), spot{}, false)
	}
}

// Promise 4.1: at all places of all texts.
func TestOf(t *testing.T) {
	for _, text := range append(texts(), shortTexts()...) {
		for at, s := range spots(text) {
			holdOf(t, text, at, s, true)
		}
	}
}

// Promise 4.1: what is no place has no line and no column.
func TestOfNoPlace(t *testing.T) {
	for _, text := range append(texts(), shortTexts()...) {
		n := len(text)
		for _, at := range append(far(), -n-1, -n-2, n+1, n+2, 2*n+1) {
			holdOf(t, text, at, spot{}, false)
		}
	}
}

// Promise 4.1: each line and column, those that places have and those around them.
func TestAt(t *testing.T) {
	for _, text := range shortTexts() {
		places := map[spot]int{}
		for at, s := range spots(text) {
			places[s] = at
		}
		for line := -1; line <= len(text)+2; line++ {
			for column := -1; column <= len(text)+3; column++ {
				s := spot{line, column}
				at, there := places[s]
				holdAt(t, text, s, at, there)
			}
		}
	}
}

// Promise 4.1: the edges of each line: in the last one, behind its bytes, is the text's end.
func TestAtTheLinesEdges(t *testing.T) {
	for _, text := range texts() {
		from := 0
		lines := strings.Split(text, "\n")
		for i, s := range lines {
			line, n := i+1, len(s)
			holdAt(t, text, spot{line, 1}, from, true)
			holdAt(t, text, spot{line, n + 1}, from+n, true)
			for _, column := range append(far(), 0, n+2, n+3, 2*n+2) {
				holdAt(t, text, spot{line, column}, 0, false)
			}
			from += n + 1
		}
		for _, line := range append(far(), 0, len(lines)+1, len(lines)+2) {
			for _, column := range around(len(text)) {
				holdAt(t, text, spot{line, column}, 0, false)
			}
		}
	}
}

// Promise 4.2: there is one line more than bytes 10.
func TestLines(t *testing.T) {
	for text, want := range map[string]int{"": 1, "a": 1, "\n": 2, "\n\n\n": 4, "a\nb": 2, "a\nb\n": 3, "\r\r": 1, "\x0b\x0c\u0085\u2028": 1, "\xff\n\xff": 2} {
		if n := Lines(text); n != want {
			t.Errorf("Lines(%q): %d, want %d", text, n, want)
		}
	}
	for _, text := range append(texts(), shortTexts()...) {
		if n, want := Lines(text), strings.Count(text, "\n")+1; n != want {
			t.Errorf("Lines(%.40q): %d, want %d", text, n, want)
		}
	}
}

// Promise 4.2: written out, and of others there is nothing.
func TestLineWrittenOut(t *testing.T) {
	for text, want := range map[string][]string{
		"":             {""},
		"a":            {"a"},
		"\n":           {"", ""},
		"ab\n\nc":      {"ab", "", "c"},
		"ab\n\nc\n":    {"ab", "", "c", ""},
		"one\r\ntwo":   {"one\r", "two"},
		"ä\n\xff\n€\n": {"ä", "\xff", "€", ""},
		"\xc3\n\xa4":   {"\xc3", "\xa4"},
	} {
		for i, s := range want {
			holdLine(t, text, i+1, s, true)
		}
		holdLine(t, text, 0, "", false)
		holdLine(t, text, len(want)+1, "", false)
	}
}

// Promise 4.2: all lines of all texts, and what is none.
func TestLine(t *testing.T) {
	for _, text := range append(texts(), shortTexts()...) {
		lines := strings.Split(text, "\n")
		for i, s := range lines {
			holdLine(t, text, i+1, s, true)
		}
		for _, line := range append(far(), 0, len(lines)+1, len(lines)+2, 2*len(lines)+1) {
			holdLine(t, text, line, "", false)
		}
	}
}

// Promise 4.3: each place is got again of its line and column, and no two have the same.
func TestPlacesAreGotAgain(t *testing.T) {
	for _, text := range append(texts(), shortTexts()...) {
		seen := map[spot]int{}
		for at := range len(text) + 1 {
			line, column, ok := Of(text, at)
			if again, there := At(text, line, column); again != at || !ok || !there {
				t.Errorf("of %.40q: %d is %d, %d, which is %d, %v", text, at, line, column, again, there)
			}
			if other, twice := seen[spot{line, column}]; twice {
				t.Errorf("of %.40q: %d and %d are %d, %d", text, other, at, line, column)
			}
			seen[spot{line, column}] = at
		}
	}
}

// Promise 4.3: a line and column that has a place is got again of it.
func TestSpotsAreGotAgain(t *testing.T) {
	for _, text := range append(texts(), shortTexts()...) {
		for _, line := range around(Lines(text)) {
			for _, column := range around(len(text)) {
				if at, ok := At(text, line, column); ok {
					holdOf(t, text, at, spot{line, column}, true)
				}
			}
		}
	}
}

// Promise 4.3: lines, joined by bytes 10, are the text.
func TestLinesJoined(t *testing.T) {
	for _, text := range append(texts(), shortTexts()...) {
		var lines []string
		for i := range Lines(text) {
			s, ok := Line(text, i+1)
			if !ok || strings.Contains(s, "\n") {
				t.Errorf("Line(%.40q, %d): %q, %v", text, i+1, s, ok)
			}
			lines = append(lines, s)
		}
		if s := strings.Join(lines, "\n"); s != text {
			t.Errorf("joined: %.40q, want %.40q", s, text)
		}
	}
}

// P1: a long text, at its ends.
func TestLongText(t *testing.T) {
	const lines = 100000
	text := strings.Repeat("twelve bytes\n", lines)
	holdOf(t, text, len(text), spot{lines + 1, 1}, true)
	holdOf(t, text, len(text)-1, spot{lines, 13}, true)
	holdOf(t, text, len(text)+1, spot{}, false)
	holdAt(t, text, spot{lines + 1, 1}, len(text), true)
	holdAt(t, text, spot{lines + 1, 2}, 0, false)
	holdAt(t, text, spot{lines, 13}, len(text)-1, true)
	holdAt(t, text, spot{lines, 14}, 0, false)
	holdLine(t, text, lines, "twelve bytes", true)
	holdLine(t, text, lines+1, "", true)
	holdLine(t, text, lines+2, "", false)
	if n := Lines(text); n != lines+1 {
		t.Errorf("Lines: %d", n)
	}
}

// The chapter's example.
func ExampleOf() {
	fmt.Println(Of("a\nb", 2))
	// Output: 2 1 true
}
