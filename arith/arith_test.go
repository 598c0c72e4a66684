package arith

import (
	"fmt"
	"math/big"
	"slices"
	"testing"
)

const (
	least    = -1 << 63
	greatest = 1<<63 - 1
	root     = 3037000499 // the greatest number whose square is an int
)

type binary func(a, b int) (int, bool)

type answer struct {
	n  int
	ok bool
}

func got(n int, ok bool) answer { return answer{n, ok} }

// told is what the chapter asks for, of a number reckoned without limits.
func told(n *big.Int) answer {
	if !n.IsInt64() {
		return answer{}
	}
	return answer{int(n.Int64()), true}
}

func whole(n int) *big.Int { return big.NewInt(int64(n)) }

// numbers are the edges of all of the layer's calls, each with its
// neighbours and opposites, and ordinary numbers.
func numbers() []int {
	var l []int
	around := func(n int) {
		for _, d := range []int{-2, -1, 0, 1, 2} {
			l = append(l, n+d, -n+d) // n + d goes round here: the other end is an edge, too
		}
	}
	for _, n := range []int{0, 7, 10, 1000, root, 1 << 31, 1 << 32, 1 << 62, greatest, greatest / 2, greatest / 3, greatest / 7} {
		around(n)
	}
	slices.Sort(l)
	return slices.Compact(l)
}

type row struct {
	a, b int
	want answer
}

func holdRows(t *testing.T, name string, f binary, rows []row) {
	t.Helper()
	for _, r := range rows {
		if g := got(f(r.a, r.b)); g != r.want {
			t.Errorf("%s(%d, %d): %v, want %v", name, r.a, r.b, g, r.want)
		}
	}
}

// holdAll holds a call against numbers without limits, for all pairs of edges.
func holdAll(t *testing.T, name string, f binary, want func(a, b int) answer) {
	t.Helper()
	l := numbers()
	for _, a := range l {
		for _, b := range l {
			if g, w := got(f(a, b)), want(a, b); g != w {
				t.Fatalf("%s(%d, %d): %v, want %v", name, a, b, g, w)
			}
		}
	}
}

// Promise 1.1.
func TestAdd(t *testing.T) {
	holdRows(t, "Add", Add, []row{
		{2, 3, answer{5, true}},
		{2, -3, answer{-1, true}},
		{0, 0, answer{0, true}},
		{greatest, 0, answer{greatest, true}},
		{greatest - 1, 1, answer{greatest, true}},
		{greatest, 1, answer{}},
		{1, greatest, answer{}},
		{greatest, greatest, answer{}},
		{least, 0, answer{least, true}},
		{least + 1, -1, answer{least, true}},
		{least, -1, answer{}},
		{-1, least, answer{}},
		{least, least, answer{}},
		{least, greatest, answer{-1, true}},
	})
	holdAll(t, "Add", Add, func(a, b int) answer {
		return told(new(big.Int).Add(whole(a), whole(b)))
	})
}

// Promise 1.1.
func TestSub(t *testing.T) {
	holdRows(t, "Sub", Sub, []row{
		{2, 3, answer{-1, true}},
		{2, -3, answer{5, true}},
		{0, 0, answer{0, true}},
		{greatest - 1, -1, answer{greatest, true}},
		{greatest, -1, answer{}},
		{least + 1, 1, answer{least, true}},
		{least, 1, answer{}},
		{0, greatest, answer{least + 1, true}},
		{-1, greatest, answer{least, true}},
		{-2, greatest, answer{}},
		{0, least, answer{}},
		{-1, least, answer{greatest, true}},
		{least, least, answer{0, true}},
		{greatest, greatest, answer{0, true}},
		{greatest, least, answer{}},
		{least, greatest, answer{}},
	})
	holdAll(t, "Sub", Sub, func(a, b int) answer {
		return told(new(big.Int).Sub(whole(a), whole(b)))
	})
}

// Promise 1.1.
func TestMul(t *testing.T) {
	holdRows(t, "Mul", Mul, []row{
		{6, 7, answer{42, true}},
		{-6, 7, answer{-42, true}},
		{6, -7, answer{-42, true}},
		{-6, -7, answer{42, true}},
		{0, least, answer{0, true}},
		{least, 0, answer{0, true}},
		{1, least, answer{least, true}},
		{least, 1, answer{least, true}},
		{-1, least, answer{}},
		{least, -1, answer{}},
		{-1, greatest, answer{least + 1, true}},
		{greatest, -1, answer{least + 1, true}},
		{root, root, answer{9223372030926249001, true}},
		{root + 1, root + 1, answer{}},
		{-root - 1, root + 1, answer{}},
		{1 << 31, 1 << 32, answer{}},
		{-1 << 31, 1 << 32, answer{least, true}},
		{1 << 31, -1 << 32, answer{least, true}},
		{-1 << 31, -1 << 32, answer{}},
		{1 << 32, 1 << 32, answer{}}, // goes round to 0
		{greatest / 7, 7, answer{greatest, true}},
		{greatest/7 + 1, 7, answer{}},
		{least, least, answer{}},
		{greatest, greatest, answer{}}, // goes round to 1
	})
	holdAll(t, "Mul", Mul, func(a, b int) answer {
		return told(new(big.Int).Mul(whole(a), whole(b)))
	})
}

// Promise 1.1.
func TestNeg(t *testing.T) {
	for _, r := range []struct {
		a    int
		want answer
	}{
		{0, answer{0, true}},
		{5, answer{-5, true}},
		{-5, answer{5, true}},
		{greatest, answer{least + 1, true}},
		{least + 1, answer{greatest, true}},
		{least, answer{}},
	} {
		if g := got(Neg(r.a)); g != r.want {
			t.Errorf("Neg(%d): %v, want %v", r.a, g, r.want)
		}
	}
	for _, a := range numbers() {
		if g, w := got(Neg(a)), told(new(big.Int).Neg(whole(a))); g != w {
			t.Errorf("Neg(%d): %v, want %v", a, g, w)
		}
	}
}

// quotient is what of Div and Mod the chapter asks for: big's Quo and Rem go toward 0, too.
func quotient(part func(a, b *big.Int) *big.Int) func(a, b int) answer {
	return func(a, b int) answer {
		if b == 0 || a == least && b == -1 {
			return answer{}
		}
		return told(part(whole(a), whole(b)))
	}
}

// Promise 1.2.
func TestDiv(t *testing.T) {
	holdRows(t, "Div", Div, []row{
		{7, 2, answer{3, true}},
		{-7, 2, answer{-3, true}},
		{7, -2, answer{-3, true}},
		{-7, -2, answer{3, true}},
		{1, 2, answer{0, true}},
		{-1, 2, answer{0, true}},
		{0, 5, answer{0, true}},
		{0, 0, answer{}},
		{7, 0, answer{}},
		{least, 0, answer{}},
		{greatest, 0, answer{}},
		{least, -1, answer{}},
		{least, 1, answer{least, true}},
		{least + 1, -1, answer{greatest, true}},
		{greatest, -1, answer{least + 1, true}},
		{least, 2, answer{-1 << 62, true}},
		{least, least, answer{1, true}},
		{greatest, least, answer{0, true}},
		{least, greatest, answer{-1, true}},
	})
	holdAll(t, "Div", Div, quotient(func(a, b *big.Int) *big.Int { return new(big.Int).Quo(a, b) }))
}

// Promise 1.2.
func TestMod(t *testing.T) {
	holdRows(t, "Mod", Mod, []row{
		{7, 2, answer{1, true}},
		{-7, 2, answer{-1, true}},
		{7, -2, answer{1, true}},
		{-7, -2, answer{-1, true}},
		{6, 3, answer{0, true}},
		{0, 5, answer{0, true}},
		{0, 0, answer{}},
		{7, 0, answer{}},
		{least, 0, answer{}},
		{least, -1, answer{}},
		{least, 1, answer{0, true}},
		{least + 1, -1, answer{0, true}},
		{greatest, least, answer{greatest, true}},
		{least, greatest, answer{-1, true}},
		{least, least, answer{0, true}},
	})
	holdAll(t, "Mod", Mod, quotient(func(a, b *big.Int) *big.Int { return new(big.Int).Rem(a, b) }))
}

// Promise 1.3.
func TestSum(t *testing.T) {
	for _, r := range []struct {
		l    []int
		want answer
	}{
		{nil, answer{0, true}},
		{[]int{}, answer{0, true}},
		{[]int{0}, answer{0, true}},
		{[]int{5}, answer{5, true}},
		{[]int{least}, answer{least, true}},
		{[]int{greatest}, answer{greatest, true}},
		{[]int{1, 2, 3, -10}, answer{-4, true}},
		{[]int{greatest, 1}, answer{}},
		{[]int{least, -1}, answer{}},
		{[]int{greatest, least}, answer{-1, true}},
		// Sums on the way that don't fit, while the whole does.
		{[]int{greatest, 1, -1}, answer{greatest, true}},
		{[]int{least, -1, 1}, answer{least, true}},
		{[]int{greatest, greatest, least, least}, answer{-2, true}},
		{[]int{least, least, greatest, greatest, 2}, answer{0, true}},
		{[]int{greatest, greatest, greatest, greatest, least, least, least, least, 4}, answer{0, true}},
		// The whole doesn't fit, though what goes round ends at a small number.
		{[]int{greatest, greatest, 2}, answer{}},
		{[]int{least, least}, answer{}},
		{[]int{least, least, least, least}, answer{}},
		// Each sum on the way fits but the last one.
		{[]int{greatest - 2, 1, 1, 1}, answer{}},
		{[]int{least + 2, -1, -1, -1}, answer{}},
		{[]int{1, -1, greatest, 0, 1}, answer{}},
	} {
		if g := got(Sum(r.l...)); g != r.want {
			t.Errorf("Sum(%d): %v, want %v", r.l, g, r.want)
		}
	}
}

// holdSum holds Sum against numbers without limits.
func holdSum(t *testing.T, l []int) {
	t.Helper()
	s := new(big.Int)
	for _, n := range l {
		s.Add(s, whole(n))
	}
	if g, w := got(Sum(l...)), told(s); g != w {
		t.Fatalf("Sum(%d): %v, want %v", l, g, w)
	}
}

// Promise 1.3: all lists of up to five edges.
func TestSumOfEdges(t *testing.T) {
	edges := []int{least, least + 1, -1, 0, 1, greatest - 1, greatest}
	lists := [][]int{nil}
	for range 6 {
		var longer [][]int
		for _, l := range lists {
			holdSum(t, l)
			for _, e := range edges {
				longer = append(longer, append(slices.Clone(l), e))
			}
		}
		lists = longer
	}
}

// Promise 1.3: goes round often, and comes back, or one short of that.
func TestSumOfMany(t *testing.T) {
	var l []int
	for range 3000 {
		l = append(l, greatest, greatest, 2)
	}
	for range 5999 {
		l = append(l, least)
	}
	holdSum(t, l)
	holdSum(t, append(slices.Clone(l), least))
	holdSum(t, append(slices.Clone(l), -1))
	slices.Reverse(l)
	holdSum(t, l)
	holdSum(t, append(slices.Clone(l), least))
	holdSum(t, append(slices.Clone(l), greatest))
}

func TestSumLeavesItsListAsItIs(t *testing.T) {
	l := []int{greatest, 1, -1}
	Sum(l...)
	if !slices.Equal(l, []int{greatest, 1, -1}) {
		t.Errorf("Sum changed its list to %d", l)
	}
}

// Promise 1.4: beside true stands what Go's own operators tell.
func TestAsOperators(t *testing.T) {
	calls := []struct {
		name     string
		f        binary
		operator func(a, b int) int
	}{
		{"Add", Add, func(a, b int) int { return a + b }},
		{"Sub", Sub, func(a, b int) int { return a - b }},
		{"Mul", Mul, func(a, b int) int { return a * b }},
		{"Div", Div, func(a, b int) int { return a / b }},
		{"Mod", Mod, func(a, b int) int { return a % b }},
		{"Sum", func(a, b int) (int, bool) { return Sum(a, b) }, func(a, b int) int { return a + b }},
		{"Neg", func(a, _ int) (int, bool) { return Neg(a) }, func(a, _ int) int { return -a }},
	}
	for _, c := range calls {
		trues := 0
		for _, a := range numbers() {
			for _, b := range numbers() {
				n, ok := c.f(a, b)
				if ok {
					trues++
				}
				if ok && n != c.operator(a, b) || !ok && n != 0 {
					t.Fatalf("%s(%d, %d): %d, %v", c.name, a, b, n, ok)
				}
			}
		}
		if trues == 0 {
			t.Errorf("%s: never true", c.name)
		}
	}
}

// Promise 1.4: what is taken away again is as it was.
func TestTakenAwayAgain(t *testing.T) {
	for _, a := range numbers() {
		if n, ok := Neg(a); ok && got(Neg(n)) != got(a, true) {
			t.Errorf("Neg(Neg(%d)): %v", a, got(Neg(n)))
		}
		for _, b := range numbers() {
			if s, ok := Add(a, b); ok && got(Sub(s, b)) != got(a, true) {
				t.Fatalf("%d, %d more and less: %v", a, b, got(Sub(s, b)))
			}
			if d, ok := Sub(a, b); ok && got(Add(d, b)) != got(a, true) {
				t.Fatalf("%d, %d less and more: %v", a, b, got(Add(d, b)))
			}
			if n, ok := Neg(b); ok && got(Sum(a, b, n)) != got(a, true) {
				t.Fatalf("Sum(%d, %d, %d): %v", a, b, n, got(Sum(a, b, n)))
			}
		}
	}
}

// Promise 1.4: a number is b times the quotient, and what is left.
func TestQuotientAndWhatIsLeft(t *testing.T) {
	for _, a := range numbers() {
		for _, b := range numbers() {
			q, ok := Div(a, b)
			r, left := Mod(a, b)
			if ok != left {
				t.Fatalf("Div(%d, %d): %v, Mod: %v", a, b, ok, left)
			}
			if !ok {
				continue
			}
			p, fits := Mul(b, q)
			if !fits || got(Add(p, r)) != got(a, true) {
				t.Fatalf("%d by %d: %d, and %d is left", a, b, q, r)
			}
		}
	}
}

// The chapter's examples, and those calls that promise P1 is broken by most easily.
func ExampleSum() {
	fmt.Println(Add(greatest, 1))
	fmt.Println(Div(-7, 2))
	fmt.Println(Mod(-7, 2))
	fmt.Println(Sum(greatest, 1, -1))
	fmt.Println(Div(1, 0))
	fmt.Println(Mod(least, -1))
	// Output:
	// 0 false
	// -3 true
	// -1 true
	// 9223372036854775807 true
	// 0 false
	// 0 false
}
