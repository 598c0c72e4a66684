package scope

import (
	"fmt"
	"math"
	"math/rand"
	"slices"
	"strings"
	"testing"
)

// seen is what Find tells of a name.
type seen struct {
	slot, kind int
	ok         bool
}

// unseen is what Find tells of a name that is not seen.
var unseen = seen{}

// noKinds are numbers that are no kind.
func noKinds() []int {
	return []int{0, 4, -1, -2, -3, 5, 26, 1 << 8, 1<<8 + 1, 1 << 16, 1<<16 + 2, 1 << 32, 1<<32 + 1, 1<<32 + 3, -1 << 32, math.MaxInt - 1, math.MaxInt, math.MinInt, math.MinInt + 1}
}

// oddNames are names that are told apart by little, and such as no text has.
func oddNames() []string {
	long := strings.Repeat("n", 1<<16)
	return []string{"", "a", "A", "aa", "aaa", "b", "ab", "ba", " ", "  ", "a ", " a", "0", "1", "\x00", "\x00\x00", "a\x00", "\x00a", "\xff", "\xfe", "é", "e\u0301", "fn", "var", "nil", "Depth", long[:31], long[:32], long[:33], long, long + "n", long + "m", "m" + long}
}

// notGiven are the scopes that New did not give.
func notGiven() map[string]*Scopes {
	return map[string]*Scopes{"nil": nil, "new(Scopes)": new(Scopes), "&Scopes{}": {}}
}

// declare declares a name that may be declared, and holds its slot.
func declare(t *testing.T, s *Scopes, name string, kind, want int) {
	t.Helper()
	if slot, ok := s.Declare(name, kind); slot != want || !ok {
		t.Fatalf("Declare(%.40q, %d): %d, %v, want %d, true", name, kind, slot, ok, want)
	}
}

// refuse declares what may not be declared, and holds that nothing but 0 and false is told.
func refuse(t *testing.T, s *Scopes, name string, kind int) {
	t.Helper()
	if slot, ok := s.Declare(name, kind); slot != 0 || ok {
		t.Fatalf("Declare(%.40q, %d): %d, %v, want 0, false", name, kind, slot, ok)
	}
}

// end ends the innermost block, which is not the only one.
func end(t *testing.T, s *Scopes) {
	t.Helper()
	if !s.Close() {
		t.Fatalf("Close of %d blocks: false", s.Depth())
	}
}

// find tells all that Find tells.
func find(s *Scopes, name string) seen {
	slot, kind, ok := s.Find(name)
	return seen{slot, kind, ok}
}

// holdFind holds what is told of a name.
func holdFind(t *testing.T, s *Scopes, name string, want seen) {
	t.Helper()
	if got := find(s, name); got != want {
		t.Fatalf("Find(%.40q): %v, want %v", name, got, want)
	}
}

// holdState holds how many blocks are open, and the kinds of all slots.
func holdState(t *testing.T, s *Scopes, depth int, kinds ...int) {
	t.Helper()
	if s.Depth() != depth {
		t.Fatalf("Depth: %d, want %d", s.Depth(), depth)
	}
	if l := s.Kinds(); !slices.Equal(l, kinds) {
		t.Fatalf("Kinds: %d, want %d", l, kinds)
	}
}

// Promise 10.1: one block is open, and no name is seen.
func TestNew(t *testing.T) {
	s := New()
	if s == nil {
		t.Fatal("New: nil")
	}
	holdState(t, s, 1)
	for _, name := range oddNames() {
		holdFind(t, s, name, unseen)
	}
	declare(t, s, "a", 1, 0)
}

// Promise 10.1: one block more, one less, back to one, and again.
func TestOpenAndClose(t *testing.T) {
	s := New()
	for range 3 {
		for depth := 1; depth < 1000; depth++ {
			holdState(t, s, depth)
			s.Open()
		}
		for depth := 1000; depth > 1; depth-- {
			holdState(t, s, depth)
			end(t, s)
		}
		holdState(t, s, 1)
		if s.Close() {
			t.Fatal("Close of one block: true")
		}
		holdState(t, s, 1)
	}
}

// Promise 10.1: the only block does not end, and neither do its names, whether it was always the only one or not.
func TestCloseOfTheOnlyBlock(t *testing.T) {
	s := New()
	for round := range 3 {
		kinds := []int{2, 3, 1}[:round+1]
		declare(t, s, fmt.Sprint(round), kinds[round], round)
		for range 3 {
			if s.Close() {
				t.Fatal("Close of one block: true")
			}
			holdState(t, s, 1, kinds...)
			for slot, kind := range kinds {
				holdFind(t, s, fmt.Sprint(slot), seen{slot, kind, true})
				refuse(t, s, fmt.Sprint(slot), 1)
			}
		}
		s.Open()
		end(t, s)
	}
}

// Promise 10.1: just the innermost block ends, of two and of many.
func TestCloseEndsTheInnermost(t *testing.T) {
	for _, most := range []int{2, 3, 4, 50} {
		s := New()
		var kinds []int
		for i := range most {
			if i > 0 {
				s.Open()
			}
			kinds = append(kinds, i%3+1)
			declare(t, s, fmt.Sprint(i), kinds[i], i)
		}
		for open := most; open >= 1; open-- {
			holdState(t, s, open, kinds...)
			for i := range most {
				want := seen{i, kinds[i], true}
				if i >= open {
					want = unseen
				}
				holdFind(t, s, fmt.Sprint(i), want)
			}
			if s.Close() != (open > 1) {
				t.Fatalf("Close of %d blocks: %v", open, open <= 1)
			}
		}
	}
}

// Promise 10.1: a block without names ends without a change.
func TestBlocksWithoutNames(t *testing.T) {
	s := New()
	declare(t, s, "a", 3, 0)
	s.Open()
	s.Open()
	holdFind(t, s, "a", seen{0, 3, true})
	declare(t, s, "a", 1, 1)
	s.Open()
	s.Open()
	holdFind(t, s, "a", seen{1, 1, true})
	end(t, s)
	end(t, s)
	holdFind(t, s, "a", seen{1, 1, true})
	refuse(t, s, "a", 2)
	end(t, s)
	holdFind(t, s, "a", seen{0, 3, true})
	declare(t, s, "a", 2, 2)
	end(t, s)
	holdFind(t, s, "a", seen{0, 3, true})
	holdState(t, s, 1, 3, 1, 2)
}

// Promise 10.2: each kind may be declared, and is found.
func TestDeclare(t *testing.T) {
	s := New()
	for slot, kind := range []int{1, 2, 3, 3, 2, 1, 1} {
		name := fmt.Sprint("v", slot)
		holdFind(t, s, name, unseen)
		declare(t, s, name, kind, slot)
		holdFind(t, s, name, seen{slot, kind, true})
	}
	holdState(t, s, 1, 1, 2, 3, 3, 2, 1, 1)
}

// Promise 10.2: a name of the block may not be declared again, of the same kind or another, and nothing changes.
func TestDeclareTwice(t *testing.T) {
	s := New()
	for depth := 1; depth <= 3; depth++ {
		at := 2 * (depth - 1)
		declare(t, s, "a", depth, at)
		declare(t, s, "b", 1, at+1)
		kinds := s.Kinds()
		for _, kind := range append([]int{1, 2, 3}, noKinds()...) {
			refuse(t, s, "a", kind)
			refuse(t, s, "b", kind)
			holdState(t, s, depth, kinds...)
			holdFind(t, s, "a", seen{at, depth, true})
			holdFind(t, s, "b", seen{at + 1, 1, true})
		}
		s.Open()
	}
	declare(t, s, "c", 2, 6)
}

// Promise 10.2: of what is no kind nothing is declared, be the name new, of the block or of one around it.
func TestKindsThatAreNone(t *testing.T) {
	for _, kind := range noKinds() {
		s := New()
		refuse(t, s, "a", kind)
		holdState(t, s, 1)
		holdFind(t, s, "a", unseen)
		declare(t, s, "a", 2, 0)
		refuse(t, s, "a", kind)
		s.Open()
		refuse(t, s, "a", kind)
		refuse(t, s, "b", kind)
		holdFind(t, s, "a", seen{0, 2, true})
		holdFind(t, s, "b", unseen)
		holdState(t, s, 2, 2)
		declare(t, s, "a", 3, 1)
		declare(t, s, "b", 1, 2)
		end(t, s)
		holdFind(t, s, "a", seen{0, 2, true})
		holdState(t, s, 1, 2, 3, 1)
	}
}

// Promises 10.2 and 10.3: a name of a block around may be declared within, has a slot of its own there, and again behind that block's end.
func TestDeclareWithin(t *testing.T) {
	s := New()
	declare(t, s, "a", 1, 0)
	for slot := 1; slot < 9; slot += 2 {
		s.Open()
		holdFind(t, s, "a", seen{0, 1, true})
		declare(t, s, "a", 2, slot)
		holdFind(t, s, "a", seen{slot, 2, true})
		refuse(t, s, "a", 2)
		declare(t, s, "b", 3, slot+1)
		holdFind(t, s, "b", seen{slot + 1, 3, true})
		end(t, s)
		holdFind(t, s, "a", seen{0, 1, true})
		holdFind(t, s, "b", unseen)
		refuse(t, s, "a", 3)
	}
	declare(t, s, "b", 2, 9)
	holdState(t, s, 1, 1, 2, 3, 2, 3, 2, 3, 2, 3, 2)
}

// Promise 10.2: the innermost block's is meant, else the one of the next block around that has the name.
func TestFindGoesOutward(t *testing.T) {
	s := New()
	for block, names := range []string{"abcd", "ab", "", "ac", "d"} {
		if block > 0 {
			s.Open()
		}
		for _, name := range strings.Split(names, "") {
			s.Declare(name, block%3+1)
		}
	}
	// Slots: a0 b1 c2 d3, a4 b5, none, a6 c7, d8.
	for _, want := range []map[string]seen{
		{"a": {6, 1, true}, "b": {5, 2, true}, "c": {7, 1, true}, "d": {8, 2, true}},
		{"a": {6, 1, true}, "b": {5, 2, true}, "c": {7, 1, true}, "d": {3, 1, true}},
		{"a": {4, 2, true}, "b": {5, 2, true}, "c": {2, 1, true}, "d": {3, 1, true}},
		{"a": {4, 2, true}, "b": {5, 2, true}, "c": {2, 1, true}, "d": {3, 1, true}},
		{"a": {0, 1, true}, "b": {1, 1, true}, "c": {2, 1, true}, "d": {3, 1, true}},
	} {
		for name, v := range want {
			holdFind(t, s, name, v)
		}
		holdFind(t, s, "e", unseen)
		s.Close()
	}
}

// Promise 10.2: any text is a name, and another text is another one.
func TestOddNames(t *testing.T) {
	s := New()
	names := oddNames()
	for slot, name := range names {
		for _, later := range names[slot:] {
			holdFind(t, s, later, unseen)
		}
		declare(t, s, name, slot%3+1, slot)
		refuse(t, s, name, 1)
	}
	s.Open()
	for slot, name := range names {
		holdFind(t, s, name, seen{slot, slot%3 + 1, true})
		declare(t, s, name, 2, len(names)+slot)
		holdFind(t, s, name, seen{len(names) + slot, 2, true})
	}
	end(t, s)
	for slot, name := range names {
		holdFind(t, s, name, seen{slot, slot%3 + 1, true})
	}
}

// Promise 10.2: kinds stand by slots, of blocks that are ended, too.
func TestKinds(t *testing.T) {
	s := New()
	declare(t, s, "a", 3, 0)
	s.Open()
	declare(t, s, "a", 1, 1)
	declare(t, s, "b", 2, 2)
	holdState(t, s, 2, 3, 1, 2)
	end(t, s)
	holdState(t, s, 1, 3, 1, 2)
	s.Open()
	holdState(t, s, 2, 3, 1, 2)
	declare(t, s, "b", 3, 3)
	s.Open()
	declare(t, s, "c", 2, 4)
	end(t, s)
	declare(t, s, "c", 1, 5)
	end(t, s)
	declare(t, s, "c", 2, 6)
	holdState(t, s, 1, 3, 1, 2, 3, 2, 1, 2)
}

// Promise 10.2: what Kinds told is one's own: who changes it changes no scopes and no other list, and what is declared later does not change it.
func TestKindsAreOnesOwn(t *testing.T) {
	s := New()
	var want []int
	for slot := range 40 {
		a, b := s.Kinds(), s.Kinds()
		for i := range a {
			a[i] = -1
		}
		a = append(a, -1, -1)
		if !slices.Equal(b, want) {
			t.Fatalf("Kinds of %d slots: %d, want %d, another list being changed", slot, b, want)
		}
		b = append(b, -2)
		if a[slot] != -1 {
			t.Fatalf("Kinds of %d slots: two lists share what is behind them", slot)
		}
		name := fmt.Sprint(slot)
		declare(t, s, name, slot%3+1, slot)
		want = append(want, slot%3+1)
		if a[slot] != -1 || b[slot] != -2 {
			t.Fatalf("Kinds of %d slots: changed by a declaration", slot)
		}
		holdFind(t, s, name, seen{slot, slot%3 + 1, true})
		holdState(t, s, 1, want...)
	}
}

// Promise 10.2 and P1: of scopes that New did not give there is nothing, whatever is called, and in whatever order.
func TestScopesNotGiven(t *testing.T) {
	for what, s := range notGiven() {
		for range 3 {
			s.Open()
			if s.Depth() != 0 || len(s.Kinds()) != 0 {
				t.Errorf("%s: Depth %d, Kinds %d", what, s.Depth(), s.Kinds())
			}
			for _, name := range oddNames() {
				for _, kind := range append([]int{1, 2, 3}, noKinds()...) {
					refuse(t, s, name, kind)
				}
				holdFind(t, s, name, unseen)
			}
			if s.Close() {
				t.Errorf("%s: Close: true", what)
			}
			if s.Depth() != 0 || len(s.Kinds()) != 0 {
				t.Errorf("%s: Depth %d, Kinds %d", what, s.Depth(), s.Kinds())
			}
		}
	}
}

// Promises 10.1 and 10.2: two Scopes share nothing.
func TestScopesOfTheirOwn(t *testing.T) {
	a, b := New(), New()
	declare(t, a, "x", 1, 0)
	holdState(t, b, 1)
	holdFind(t, b, "x", unseen)
	b.Open()
	holdState(t, a, 1, 1)
	declare(t, b, "y", 2, 0)
	declare(t, b, "x", 3, 1)
	declare(t, a, "y", 3, 1)
	holdFind(t, a, "x", seen{0, 1, true})
	holdFind(t, a, "y", seen{1, 3, true})
	holdFind(t, b, "x", seen{1, 3, true})
	holdFind(t, b, "y", seen{0, 2, true})
	end(t, b)
	if a.Close() {
		t.Fatal("Close of one block: true, another Scopes having had two")
	}
	holdFind(t, a, "x", seen{0, 1, true})
	holdFind(t, b, "x", unseen)
	holdState(t, a, 1, 1, 3)
	holdState(t, b, 1, 2, 3)
	holdFind(t, New(), "x", unseen)
}

// Promise 10.3: blocks one in another, as deep as nesting goes, each with the same name and one of its own.
func TestManyDeep(t *testing.T) {
	const deep = 1 << 16
	s := New()
	for i := range deep {
		if i > 0 {
			s.Open()
		}
		declare(t, s, "same", i%3+1, 2*i)
		declare(t, s, fmt.Sprint(i), 2, 2*i+1)
	}
	if s.Depth() != deep || len(s.Kinds()) != 2*deep {
		t.Fatalf("Depth %d, %d kinds, want %d and %d", s.Depth(), len(s.Kinds()), deep, 2*deep)
	}
	holdFind(t, s, "0", seen{1, 2, true})
	for i := deep - 1; i > 0; i-- {
		holdFind(t, s, "same", seen{2 * i, i%3 + 1, true})
		holdFind(t, s, fmt.Sprint(i), seen{2*i + 1, 2, true})
		end(t, s)
		holdFind(t, s, fmt.Sprint(i), unseen)
	}
	holdFind(t, s, "same", seen{0, 1, true})
	declare(t, s, "other", 3, 2*deep)
}

// Promise 10.3: many names in one block, one block behind the other.
func TestManyNames(t *testing.T) {
	const many = 5000
	s := New()
	slot := 0
	for block := range 4 {
		s.Open()
		for i := range many {
			declare(t, s, fmt.Sprint("n", i), (i+block)%3+1, slot)
			slot++
		}
		for i := range many {
			holdFind(t, s, fmt.Sprint("n", i), seen{slot - many + i, (i+block)%3 + 1, true})
		}
		end(t, s)
		for i := range many {
			holdFind(t, s, fmt.Sprint("n", i), unseen)
		}
	}
}

// Words: behind a block nothing of it is kept but its slots' kinds, however many blocks there were.
func TestEndedBlocksAreNotKept(t *testing.T) {
	s := New()
	declare(t, s, "a", 1, 0)
	for i := range 1000 {
		s.Open()
		s.Declare("a", 2)
		s.Declare(fmt.Sprint(i), 3)
		end(t, s)
	}
	if len(s.seen) != 1 || len(s.blocks) != 1 || len(s.blocks[0]) != 1 {
		t.Errorf("kept: %d names, %d blocks, %d names of the first", len(s.seen), len(s.blocks), len(s.blocks[0]))
	}
	for _, l := range s.blocks[1:cap(s.blocks)] {
		if len(l) != 0 {
			t.Errorf("kept behind the blocks: %d names", len(l))
		}
	}
}

// variables are scopes told more plainly: what is in open blocks, in the order
// in which it was declared, the kinds of all slots, and how many blocks are open.
type variables struct {
	open  []oldVariable
	kinds []int
	depth int
}

// oldVariable is one that is in an open block, which is a number from 1 on.
type oldVariable struct {
	name              string
	slot, kind, block int
}

// find goes over all that is in open blocks, from the last one back.
func (v *variables) find(name string) (oldVariable, bool) {
	for i := len(v.open) - 1; i >= 0; i-- {
		if v.open[i].name == name {
			return v.open[i], true
		}
	}
	return oldVariable{}, false
}

// close takes out all that is of the innermost block.
func (v *variables) close() bool {
	if v.depth == 1 {
		return false
	}
	v.open = slices.DeleteFunc(v.open, func(o oldVariable) bool { return o.block == v.depth })
	v.depth--
	return true
}

// declare goes over all of the innermost block, and then puts one behind it.
func (v *variables) declare(name string, kind int) (int, bool) {
	if slices.ContainsFunc(v.open, func(o oldVariable) bool { return o.block == v.depth && o.name == name }) {
		return 0, false
	}
	if !slices.Contains([]int{1, 2, 3}, kind) {
		return 0, false
	}
	v.open = append(v.open, oldVariable{name, len(v.kinds), kind, v.depth})
	v.kinds = append(v.kinds, kind)
	return len(v.kinds) - 1, true
}

// holdSame holds all that is told against the variables.
func holdSame(t *testing.T, what string, s *Scopes, v *variables, names []string) {
	t.Helper()
	if s.Depth() != v.depth || !slices.Equal(s.Kinds(), v.kinds) {
		t.Fatalf("%s: Depth %d, Kinds %d, want %d, %d", what, s.Depth(), s.Kinds(), v.depth, v.kinds)
	}
	for _, name := range names {
		o, ok := v.find(name)
		if got, want := find(s, name), (seen{o.slot, o.kind, ok}); got != want {
			t.Fatalf("%s: Find(%q): %v, want %v", what, name, got, want)
		}
	}
}

// holdCall makes one call on both, and holds what both tell.
func holdCall(t *testing.T, what string, s *Scopes, v *variables, call int, name string, kind int) {
	t.Helper()
	switch call {
	case 0:
		s.Open()
		v.depth++
	case 1:
		if got, want := s.Close(), v.close(); got != want {
			t.Fatalf("%s: Close: %v, want %v", what, got, want)
		}
	default:
		slot, ok := s.Declare(name, kind)
		if n, want := v.declare(name, kind); slot != n || ok != want {
			t.Fatalf("%s: Declare(%q, %d): %d, %v, want %d, %v", what, name, kind, slot, ok, n, want)
		}
	}
}

// Promises 10.1 to 10.3: all rows of seven calls, of Open, Close and declarations of two names.
func TestAllShortRows(t *testing.T) {
	const calls, choices = 7, 6
	names := []string{"a", "b", "c"}
	rows := 1
	for range calls {
		rows *= choices
	}
	for row := range rows {
		s, v := New(), &variables{depth: 1}
		what := ""
		for rest, n := row, 0; n < calls; rest, n = rest/choices, n+1 {
			call := rest % choices
			what += fmt.Sprint(call)
			name, kind := names[max(0, call-2)%2], n%3+1
			if call == 4 {
				name, kind = "", 3
			}
			if call == 5 {
				name, kind = "a", 0
			}
			holdCall(t, what, s, v, min(call, 2), name, kind)
		}
		holdSame(t, what, s, v, append(names, ""))
	}
}

// Promises 10.1 to 10.3: long rows of mixed calls.
func TestLongRows(t *testing.T) {
	names := []string{"", "a", "b", "c", "d", "e", "f", "g"}
	for seed := range int64(60) {
		random := rand.New(rand.NewSource(seed))
		s, v := New(), &variables{depth: 1}
		deep := 1 + random.Intn(12)
		for n := range 400 {
			call := random.Intn(8)
			if call == 0 && v.depth > deep {
				call = 1
			}
			what := fmt.Sprintf("seed %d, call %d", seed, n)
			holdCall(t, what, s, v, call, names[random.Intn(len(names))], random.Intn(5))
			holdSame(t, what, s, v, names)
		}
	}
}

// within opens a block, does things at random in it, blocks among them, ends
// it, and holds that all is seen as ahead of it; slots has what was given.
func within(t *testing.T, s *Scopes, random *rand.Rand, names []string, deep int, slots map[int]bool) {
	t.Helper()
	var before []seen
	for _, name := range names {
		before = append(before, find(s, name))
	}
	depth := s.Depth()
	s.Open()
	for range random.Intn(6) {
		if deep > 0 && random.Intn(3) == 0 {
			within(t, s, random, names, deep-1, slots)
		}
		slot, ok := s.Declare(names[random.Intn(len(names))], random.Intn(5))
		if ok && (slots[slot] || slot != len(slots)) {
			t.Fatalf("slot %d, behind %d others", slot, len(slots))
		}
		if ok {
			slots[slot] = true
		}
	}
	end(t, s)
	if s.Depth() != depth || len(s.Kinds()) != len(slots) {
		t.Fatalf("Depth %d, %d kinds, want %d, %d", s.Depth(), len(s.Kinds()), depth, len(slots))
	}
	for i, name := range names {
		holdFind(t, s, name, before[i])
	}
}

// Promise 10.3: behind a block all is seen as it was ahead of it, whatever is done within, and no slot is given twice.
func TestBehindABlock(t *testing.T) {
	names := []string{"", "a", "b", "c", "d", "e"}
	for seed := range int64(300) {
		random := rand.New(rand.NewSource(seed))
		s, slots := New(), map[int]bool{}
		for _, name := range names[:random.Intn(len(names))] {
			slot, ok := s.Declare(name, 1+random.Intn(3))
			slots[slot] = ok
		}
		for range 5 {
			within(t, s, random, names, 5, slots)
		}
		if s.Depth() != 1 {
			t.Fatalf("Depth: %d", s.Depth())
		}
	}
}

// P1: Scopes that are copied as a value go on with what they share; no call panics.
func TestCopiesDoNotPanic(t *testing.T) {
	for seed := range int64(100) {
		random := rand.New(rand.NewSource(seed))
		all := []*Scopes{New()}
		for range 200 {
			s := all[random.Intn(len(all))]
			name := fmt.Sprint(random.Intn(4))
			switch random.Intn(6) {
			case 0:
				s.Open()
			case 1:
				s.Close()
			case 2:
				if c := *s; len(all) < 4 {
					all = append(all, &c)
				}
			default:
				s.Declare(name, random.Intn(5))
			}
			s.Find(name)
			s.Kinds()
			if s.Depth() < 1 {
				t.Fatalf("seed %d: Depth: %d", seed, s.Depth())
			}
		}
	}
}

// The chapter's example.
func ExampleScopes() {
	s := New()
	s.Declare("a", 1)
	s.Open()
	s.Declare("a", 2)
	fmt.Println(s.Find("a"))
	fmt.Println(s.Close())
	fmt.Println(s.Find("a"))
	// Output:
	// 1 2 true
	// true
	// 0 1 true
}
