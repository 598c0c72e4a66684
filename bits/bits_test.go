package bits

import (
	"fmt"
	"math"
	"slices"
	"testing"
)

const lastBit = 1 << 63

// widths are the widths that may be: the edges of words and of the layer, and ordinary ones.
func widths() []int {
	return []int{0, 1, 2, 10, 62, 63, 64, 65, 70, 127, 128, 129, 1000, maxWidth - 65, maxWidth - 64, maxWidth - 63, maxWidth - 1, maxWidth}
}

// notWidths are those that no set has.
func notWidths() []int {
	return []int{math.MinInt, math.MinInt + 1, -maxWidth, -65, -64, -63, -1, maxWidth + 1, maxWidth + 63, maxWidth + 64, 1 << 32, 1<<32 + 5, math.MaxInt - 63, math.MaxInt}
}

// wordsOf tells how many words a width needs, counted one by one.
func wordsOf(width int) int {
	n := 0
	for n*64 < width {
		n++
	}
	return n
}

// below lists the numbers below a width.
func below(width int) []int {
	var l []int
	for i := range width {
		l = append(l, i)
	}
	return l
}

// numbersOf reads a set's numbers by the chapter's words, without the layer's calls.
func numbersOf(s Set) []int {
	var l []int
	for w, word := range s {
		for b := range 64 {
			if word>>b%2 == 1 {
				l = append(l, 64*w+b)
			}
		}
	}
	return l
}

// pick lists the numbers of l that keep wants.
func pick(l []int, keep func(i int) bool) []int {
	var out []int
	for _, i := range l {
		if keep(i) {
			out = append(out, i)
		}
	}
	return out
}

// holdSet holds a set against how many words it must have, and which numbers.
func holdSet(t *testing.T, what string, s Set, words int, numbers []int) {
	t.Helper()
	if len(s) != words {
		t.Errorf("%s: %d words, want %d", what, len(s), words)
	}
	if got := numbersOf(s); !slices.Equal(got, numbers) {
		t.Errorf("%s: %d, want %d", what, got, numbers)
	}
}

// sets are sets of all lengths of up to three words, with numbers at words' edges and between them.
func sets() []Set {
	words := []uint64{0, 1, lastBit, lastBit | 1, 0xf0, 0xff00ff00ff00ff00, math.MaxUint64}
	out := []Set{nil, {}}
	for _, a := range words {
		out = append(out, Set{a})
		for _, b := range words {
			out = append(out, Set{a, b})
		}
	}
	for _, a := range words {
		out = append(out, Set{a, 0, 0}, Set{0, a, 0}, Set{0, 0, a}, Set{a, a, a})
	}
	return out
}

// wideSets are as wide as sets may be, and wider, with a few sets to hold them against.
func wideSets() []Set {
	wider := make(Set, 1100)
	wider[1099] = lastBit
	return []Set{nil, {lastBit}, make(Set, 1024), Full(maxWidth), Full(maxWidth - 1), wider}
}

// Promise 2.1.
func TestNewAndFull(t *testing.T) {
	for _, width := range widths() {
		holdSet(t, fmt.Sprintf("New(%d)", width), New(width), wordsOf(width), nil)
		holdSet(t, fmt.Sprintf("Full(%d)", width), Full(width), wordsOf(width), below(width))
	}
}

// Promise 2.1: beyond the edges of all widths there is nil, not an empty list.
func TestOtherWidthsHaveNoSet(t *testing.T) {
	for _, width := range notWidths() {
		if s := New(width); s != nil {
			t.Errorf("New(%d): %d words, want nil", width, len(s))
		}
		if s := Full(width); s != nil {
			t.Errorf("Full(%d): %d words, want nil", width, len(s))
		}
		for _, l := range [][]int{nil, {0}, {-1, 0, 1, 63, 64}, {math.MinInt, math.MaxInt, width, width - 1}} {
			if s := Of(width, l); s != nil {
				t.Errorf("Of(%d, %d): %d words, want nil", width, l, len(s))
			}
		}
	}
	for _, s := range []Set{New(0), Full(0), Of(0, nil)} {
		if s == nil {
			t.Error("the width 0 has a set of no words, not nil")
		}
	}
}

// Promise 2.1: each number of the edges at each width, alone and all together.
func TestOf(t *testing.T) {
	for _, width := range widths() {
		edges := []int{math.MinInt, -maxWidth, -64, -1, 0, 1, 62, 63, 64, 65, 127, 128, width - 1, width, width + 1, width | 63, width + 64, maxWidth - 1, maxWidth, math.MaxInt}
		inside := func(i int) bool { return 0 <= i && i < width }
		for _, i := range edges {
			holdSet(t, fmt.Sprintf("Of(%d, [%d])", width, i), Of(width, []int{i}), wordsOf(width), pick([]int{i}, inside))
		}
		want := pick(edges, inside)
		slices.Sort(want)
		want = slices.Compact(want)
		twice := append(slices.Clone(edges), edges...)
		holdSet(t, fmt.Sprintf("Of(%d, edges)", width), Of(width, edges), wordsOf(width), want)
		holdSet(t, fmt.Sprintf("Of(%d, edges twice)", width), Of(width, twice), wordsOf(width), want)
		holdSet(t, fmt.Sprintf("Of(%d, nil)", width), Of(width, nil), wordsOf(width), nil)
		holdSet(t, fmt.Sprintf("Of(%d, all)", width), Of(width, below(width+100)), wordsOf(width), below(width))
	}
}

func TestOfLeavesItsListAsItIs(t *testing.T) {
	l := []int{9, 3, 3, -1, 70, 1}
	Of(10, l)
	if !slices.Equal(l, []int{9, 3, 3, -1, 70, 1}) {
		t.Errorf("Of changed its list to %d", l)
	}
}

// Nothing is kept from call to call: what is told is one's own.
func TestEachSetIsItsOwn(t *testing.T) {
	for _, tell := range []func() Set{
		func() Set { return New(70) },
		func() Set { return Of(70, []int{3}) },
	} {
		a, b := tell(), tell()
		want := numbersOf(b)
		a.Put(5)
		holdSet(t, "a second set", b, 2, want)
		holdSet(t, "a third set", tell(), 2, want)
	}
	a := Full(70)
	a.Drop(5)
	holdSet(t, "a second full set", Full(70), 2, below(70))
}

// Promise 2.1: Right takes the words that the width needs, and no number from the width on.
func TestRight(t *testing.T) {
	for _, r := range []struct {
		s     Set
		width int
		want  bool
	}{
		{nil, 0, true},
		{Set{}, 0, true},
		{nil, 1, false},
		{Set{0}, 0, false},
		{Set{0}, 1, true},
		{Set{1}, 1, true},
		{Set{2}, 1, false},
		{Set{0, 0}, 1, false},
		{Set{lastBit - 1}, 63, true},
		{Set{lastBit}, 63, false},
		{Set{lastBit}, 64, true},
		{Set{math.MaxUint64}, 64, true},
		{Set{math.MaxUint64}, 63, false},
		{Set{math.MaxUint64, 0}, 64, false},
		{Set{math.MaxUint64}, 65, false},
		{Set{math.MaxUint64, 0}, 65, true},
		{Set{math.MaxUint64, 1}, 65, true},
		{Set{0, 2}, 65, false},
		{Set{0, lastBit}, 65, false},
		{Set{0, lastBit}, 128, true},
		{Set{0, 0, 0}, 128, false},
		{make(Set, 1023), maxWidth, false},
		{make(Set, 1024), maxWidth, true},
		{make(Set, 1025), maxWidth, false},
		{make(Set, 1025), maxWidth + 1, false},
		{make(Set, 1024), maxWidth + 1, false},
		{nil, -1, false},
		{Set{}, -63, false},
		{nil, -64, false},
		{Set{0}, -1, false},
		{nil, math.MinInt, false},
		{nil, math.MaxInt, false},
		{Set{0}, math.MaxInt, false},
	} {
		if got := Right(r.s, r.width); got != r.want {
			t.Errorf("Right(%d words with %d, %d): %v, want %v", len(r.s), numbersOf(r.s), r.width, got, r.want)
		}
	}
}

// Promise 2.1: what is told of a width may be of it, until something is there that may not.
func TestRightOfWhatIsTold(t *testing.T) {
	for _, width := range widths() {
		for _, s := range []Set{New(width), Full(width), Of(width, below(width+64))} {
			if !Right(s, width) {
				t.Errorf("width %d: %d words with %d may not be", width, len(s), numbersOf(s))
			}
			if Right(append(slices.Clone(s), 0), width) {
				t.Errorf("width %d: a word too many may be", width)
			}
			if len(s) > 0 && Right(s[:len(s)-1], width) {
				t.Errorf("width %d: a word too few may be", width)
			}
		}
		for i := width; i < 64*wordsOf(width); i++ {
			s := Full(width)
			s.Put(i)
			if Right(s, width) {
				t.Errorf("width %d: the number %d may be", width, i)
			}
		}
		if s := Full(width); Right(s, width+1) != (width%64 != 0) {
			t.Errorf("width %d: Right at one more: %v", width, Right(s, width+1))
		}
	}
}

// around lists each number at which a set of some words may be asked, and those that it has no bits for.
func around(words int) []int {
	l := []int{math.MinInt, math.MinInt + 63, -maxWidth, -65, -64, -63, -1}
	for i := range 64 * (words + 2) {
		l = append(l, i)
	}
	return append(l, maxWidth-1, maxWidth, 1<<32, math.MaxInt-63, math.MaxInt)
}

// Promise 2.2.
func TestHas(t *testing.T) {
	for _, s := range sets() {
		numbers, was := numbersOf(s), slices.Clone(s)
		for _, i := range around(len(s)) {
			if got, want := s.Has(i), slices.Contains(numbers, i); got != want {
				t.Fatalf("%d has %d: %v, want %v", numbers, i, got, want)
			}
		}
		if !slices.Equal(s, was) {
			t.Errorf("Has changed %x to %x", was, s)
		}
	}
}

// Promises 2.2 and 2.4: what is put is there, it is told whether that is a change, and nothing else has changed.
func TestPut(t *testing.T) {
	for _, was := range sets() {
		numbers := numbersOf(was)
		for _, i := range around(len(was)) {
			fits := 0 <= i && i < 64*len(was)
			want := numbers
			change := fits && !slices.Contains(numbers, i)
			if change {
				want = append(slices.Clone(numbers), i)
				slices.Sort(want)
			}
			s := slices.Clone(was)
			if got := s.Put(i); got != change {
				t.Fatalf("put %d into %d: %v, want %v", i, numbers, got, change)
			}
			holdSet(t, fmt.Sprintf("%d put into %d", i, numbers), s, len(was), want)
			if s.Has(i) != fits {
				t.Fatalf("%d put into %d: is there: %v", i, numbers, s.Has(i))
			}
			if s.Put(i) {
				t.Fatalf("%d put twice into %d: a change", i, numbers)
			}
			holdSet(t, fmt.Sprintf("%d put twice into %d", i, numbers), s, len(was), want)
		}
	}
}

// Promises 2.2 and 2.4: likewise of what is dropped.
func TestDrop(t *testing.T) {
	for _, was := range sets() {
		numbers := numbersOf(was)
		for _, i := range around(len(was)) {
			change := slices.Contains(numbers, i)
			want := pick(numbers, func(n int) bool { return n != i })
			s := slices.Clone(was)
			if got := s.Drop(i); got != change {
				t.Fatalf("drop %d from %d: %v, want %v", i, numbers, got, change)
			}
			holdSet(t, fmt.Sprintf("%d dropped from %d", i, numbers), s, len(was), want)
			if s.Has(i) {
				t.Fatalf("%d dropped from %d: is there", i, numbers)
			}
			if s.Drop(i) {
				t.Fatalf("%d dropped twice from %d: a change", i, numbers)
			}
			holdSet(t, fmt.Sprintf("%d dropped twice from %d", i, numbers), s, len(was), want)
		}
	}
}

// Promise 2.2: at the widest set's edges.
func TestWidestSet(t *testing.T) {
	s := New(maxWidth)
	for _, r := range []struct {
		i    int
		fits bool
	}{{0, true}, {63, true}, {64, true}, {maxWidth - 1, true}, {maxWidth, false}, {maxWidth + 63, false}} {
		if s.Put(r.i) != r.fits || s.Has(r.i) != r.fits || s.Drop(r.i) != r.fits || s.Has(r.i) {
			t.Errorf("%d doesn't come and go as it should", r.i)
		}
	}
	holdSet(t, "all dropped again", s, 1024, nil)
}

// Promise 2.2: a set doesn't know its width, so a number behind it may be put while the last word has a bit for it.
func TestPutBehindTheWidth(t *testing.T) {
	s := New(10)
	if !s.Put(63) || !s.Has(63) || s.Put(64) || Right(s, 10) {
		t.Errorf("63 and 64 put into a set of the width 10: %d", numbersOf(s))
	}
}

// Promise 2.2.
func TestListAndCount(t *testing.T) {
	for _, s := range append(sets(), wideSets()...) {
		was, want := slices.Clone(s), numbersOf(s)
		l := s.List()
		if !slices.Equal(l, want) {
			t.Errorf("List of %x: %d, want %d", s, l, want)
		}
		if s.Count() != len(want) {
			t.Errorf("Count of %x: %d, want %d", s, s.Count(), len(want))
		}
		for i := range l {
			l[i] = -1
		}
		if !slices.Equal(s, was) || !slices.Equal(s.List(), want) {
			t.Errorf("what was told of %x was not one's own", was)
		}
	}
}

type pair struct {
	name  string
	call  func(a, b Set) Set
	words func(a, b int) int
	keep  func(inA, inB bool) bool
}

func pairs() []pair {
	return []pair{
		{"Or", Or, func(a, b int) int { return max(a, b) }, func(inA, inB bool) bool { return inA || inB }},
		{"And", And, func(a, b int) int { return min(a, b) }, func(inA, inB bool) bool { return inA && inB }},
		{"Less", Less, func(a, _ int) int { return a }, func(inA, inB bool) bool { return inA && !inB }},
	}
}

// numberMap reads a set's numbers into a map.
func numberMap(s Set) map[int]bool {
	m := map[int]bool{}
	for _, i := range numbersOf(s) {
		m[i] = true
	}
	return m
}

// Promise 2.3, for all pairs of sets, of like and unlike numbers of words.
func TestOrAndLess(t *testing.T) {
	holdPairs(t, sets())
	holdPairs(t, wideSets())
}

// holdPairs holds each call of two sets against the numbers of both; none of the two changes.
func holdPairs(t *testing.T, l []Set) {
	t.Helper()
	for _, a := range l {
		for _, b := range l {
			wasA, wasB := slices.Clone(a), slices.Clone(b)
			inA, inB := numberMap(a), numberMap(b)
			for _, p := range pairs() {
				s := p.call(a, b)
				what := fmt.Sprintf("%s of %d and %d words", p.name, len(a), len(b))
				want := pick(below(64*max(len(a), len(b))), func(i int) bool { return p.keep(inA[i], inB[i]) })
				holdSet(t, what, s, p.words(len(a), len(b)), want)
				for w := range s {
					s[w] = ^s[w]
				}
				if !slices.Equal(a, wasA) || !slices.Equal(b, wasB) {
					t.Fatalf("%s: an argument changed", what)
				}
			}
		}
	}
}

// Promise 2.3: a set with itself is one's own answer, too.
func TestWithItself(t *testing.T) {
	s := Of(130, []int{0, 63, 64, 129})
	want := numbersOf(s)
	holdSet(t, "Or", Or(s, s), 3, want)
	holdSet(t, "And", And(s, s), 3, want)
	holdSet(t, "Less", Less(s, s), 3, nil)
	or, and := Or(s, s), And(s, s)
	or.Put(1)
	and.Drop(0)
	holdSet(t, "s", s, 3, want)
}

// Promise 2.3.
func TestSame(t *testing.T) {
	for _, r := range []struct {
		a, b Set
		want bool
	}{
		{nil, nil, true},
		{nil, Set{}, true},
		{nil, Set{0, 0, 0}, true},
		{nil, Set{1}, false},
		{nil, Set{0, 0, lastBit}, false},
		{Set{5}, Set{5}, true},
		{Set{5}, Set{4}, false},
		{Set{5}, Set{5, 0}, true},
		{Set{5}, Set{5, 1}, false},
		{Set{5}, Set{0, 5}, false},
		{Set{5, 0, 0}, Set{5, 0}, true},
		{Set{5, 0, lastBit}, Set{5, 0}, false},
		{Set{1, 2, 3}, Set{1, 2, 3}, true},
		{Set{1, 2, 3}, Set{0, 2, 3}, false},
		{Set{1, 2, 3}, Set{1, 0, 3}, false},
		{Set{1, 2, 3}, Set{1, 2, 0}, false},
		{Set{lastBit}, Set{0}, false},
		{New(9), New(900), true},
		{Full(64), Of(900, below(64)), true},
		{Full(64), Full(65), false},
		{Full(maxWidth), Full(maxWidth), true},
		{Full(maxWidth), Full(maxWidth - 1), false},
	} {
		if Same(r.a, r.b) != r.want || Same(r.b, r.a) != r.want {
			t.Errorf("Same of %d words with %d and %d words with %d, and the other way round: %v, %v, want %v",
				len(r.a), numbersOf(r.a), len(r.b), numbersOf(r.b), Same(r.a, r.b), Same(r.b, r.a), r.want)
		}
	}
	for _, a := range sets() {
		for _, b := range sets() {
			if got, want := Same(a, b), slices.Equal(numbersOf(a), numbersOf(b)); got != want {
				t.Fatalf("Same of %x and %x: %v, want %v", a, b, got, want)
			}
		}
	}
}

// Promise 2.4: what is in a is in just one of And(a, b) and Less(a, b).
func TestAndAndLessPart(t *testing.T) {
	for _, a := range sets() {
		for _, b := range sets() {
			and, less := And(a, b), Less(a, b)
			for _, i := range a.List() {
				if and.Has(i) == less.Has(i) {
					t.Fatalf("%d of %x, by %x: in And and in Less: %v", i, a, b, and.Has(i))
				}
			}
			if !Same(Or(and, less), a) || and.Count()+less.Count() != a.Count() {
				t.Fatalf("%x, by %x, is not And and Less together", a, b)
			}
		}
	}
}

// Promise 2.4: at each number of a wide set, put and dropped in turn.
func TestPutAndDropInTurn(t *testing.T) {
	const width = 200
	s := New(width)
	for i := range width {
		s.Put(i * 7 % width)
		if s.Count() != i+1 || !s.Has(i*7%width) {
			t.Fatalf("%d put: %d", i*7%width, s.List())
		}
	}
	if !Same(s, Full(width)) || !Right(s, width) {
		t.Fatalf("all put: %d", s.List())
	}
	for i := range width {
		s.Drop(i * 11 % width)
		if s.Count() != width-1-i || s.Has(i*11%width) {
			t.Fatalf("%d dropped: %d", i*11%width, s.List())
		}
	}
	if !Same(s, nil) {
		t.Errorf("all dropped: %d", s.List())
	}
}

// The chapter's example, and calls that promise P1 is broken by most easily.
func ExampleOf() {
	fmt.Println(Of(5, []int{3, 1, 9}).List())
	var none Set
	fmt.Println(none.Put(0), none.Drop(0), none.Has(-1), none.Count(), none.List())
	fmt.Println(Full(-5) == nil, Of(maxWidth+1, []int{0}) == nil, Right(nil, -5))
	fmt.Println(len(Or(nil, Set{0})), len(And(nil, Set{0})), len(Less(nil, Set{0})))
	// Output:
	// [1 3]
	// false false false 0 []
	// true true false
	// 1 0 0
}
