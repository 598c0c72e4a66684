package queue

import (
	"fmt"
	"math"
	"slices"
	"testing"
)

// greatest is the chapter's limit, written out once more, so that the layer's own is held against it.
const greatest = 65536

// sizes are those that a queue may have: the layer's edges, and ordinary ones.
func sizes() []int {
	return []int{0, 1, 2, 3, 10, 64, 1000, greatest - 1, greatest}
}

// notSizes are those that no queue has.
func notSizes() []int {
	return []int{math.MinInt, math.MinInt + 1, -1 << 32, -greatest, -2, -1, greatest + 1, greatest + 2, 2 * greatest, 1 << 32, 1<<32 + 5, math.MaxInt - 1, math.MaxInt}
}

// around are the edges of the numbers of a queue of n, and what lies beyond them.
func around(n int) []int {
	return []int{math.MinInt, -1 << 32, -n - 1, -n, -2, -1, 0, 1, n / 2, n - 2, n - 1, n, n + 1, 2 * n, greatest - 1, greatest, 1 << 32, math.MaxInt}
}

// notGiven are the queues that New did not give.
func notGiven() map[string]*Queue {
	return map[string]*Queue{"nil": nil, "New(-1)": New(-1), "new(Queue)": new(Queue), "&Queue{}": {}}
}

// filled is a queue of n in which those of l wait.
func filled(t *testing.T, n int, l ...int) *Queue {
	t.Helper()
	q := New(n)
	if q == nil {
		t.Fatalf("New(%d): nil", n)
	}
	for _, i := range l {
		if !q.Put(i) {
			t.Fatalf("of %d: Put(%d) of %d: false", n, i, l)
		}
	}
	return q
}

// holdTake takes one, and holds it against the one that waits longest of a list.
func holdTake(t *testing.T, what string, q *Queue, waiting []int) {
	t.Helper()
	want, there := 0, len(waiting) > 0
	if there {
		want = waiting[0]
	}
	if i, ok := q.Take(); i != want || ok != there {
		t.Fatalf("%s: Take of %d: %d, %v, want %d, %v", what, waiting, i, ok, want, there)
	}
}

// holdWaiting holds how many wait, and which, against a list, without a change.
func holdWaiting(t *testing.T, what string, q *Queue, n int, waiting []int) {
	t.Helper()
	if q.Len() != len(waiting) {
		t.Fatalf("%s: Len: %d, want %d", what, q.Len(), len(waiting))
	}
	in := map[int]bool{}
	for _, i := range waiting {
		in[i] = true
	}
	for _, i := range append(around(n), waiting...) {
		if q.Has(i) != in[i] {
			t.Fatalf("%s: Has(%d): %v, want %v", what, i, q.Has(i), in[i])
		}
	}
	if q.Len() != len(waiting) {
		t.Fatalf("%s: Has or Len changed Len to %d", what, q.Len())
	}
}

// mixed lists the numbers below n, each once: the odd ones falling, then the even ones rising.
func mixed(n int) []int {
	var l []int
	for i := n - 1; i > 0; i-- {
		if i%2 == 1 {
			l = append(l, i)
		}
	}
	for i := 0; i < n; i += 2 {
		l = append(l, i)
	}
	return l
}

// Promise 3.1.
func TestNew(t *testing.T) {
	for _, n := range sizes() {
		what := fmt.Sprintf("New(%d)", n)
		q := filled(t, n)
		holdWaiting(t, what, q, n, nil)
		holdTake(t, what, q, nil)
		if l := q.Drain(math.MaxInt); len(l) != 0 {
			t.Errorf("%s: Drain: %d", what, l)
		}
	}
}

// Promise 3.1: of another n there is nil.
func TestOtherSizesHaveNoQueue(t *testing.T) {
	for _, n := range notSizes() {
		if New(n) != nil {
			t.Errorf("New(%d): not nil", n)
		}
	}
}

// Promise 3.1: just the queue's numbers may be put; another one is none, and nothing changes.
func TestPutAtTheEdges(t *testing.T) {
	for _, n := range sizes() {
		for _, i := range around(n) {
			what := fmt.Sprintf("of %d: Put(%d)", n, i)
			q, fits := filled(t, n), 0 <= i && i < n
			var waiting []int
			if fits {
				waiting = []int{i}
			}
			if q.Put(i) != fits {
				t.Fatalf("%s: %v, want %v", what, !fits, fits)
			}
			holdWaiting(t, what, q, n, waiting)
			if q.Put(i) {
				t.Fatalf("%s twice: true", what)
			}
			holdWaiting(t, what+" twice", q, n, waiting)
			holdTake(t, what, q, waiting)
			holdWaiting(t, what+", and taken", q, n, nil)
		}
	}
}

// Promise 3.1: who waits already stays where it is, and those behind it, too.
func TestPutWhoWaits(t *testing.T) {
	for _, again := range []int{4, 0, 3} {
		q := filled(t, 5, 4, 0, 3)
		if q.Put(again) {
			t.Errorf("Put(%d), which waits: true", again)
		}
		holdWaiting(t, "put again", q, 5, []int{4, 0, 3})
		if l := q.Drain(9); !slices.Equal(l, []int{4, 0, 3}) {
			t.Errorf("Put(%d), which waits: %d, want 4, 0, 3", again, l)
		}
	}
}

// Promise 3.1: a full queue takes no more, and is not held up by it.
func TestPutIntoFull(t *testing.T) {
	for _, n := range sizes() {
		q := filled(t, n, mixed(n)...)
		for _, i := range around(n) {
			if q.Put(i) {
				t.Fatalf("of %d, full: Put(%d): true", n, i)
			}
		}
		holdWaiting(t, "full", q, n, mixed(n))
	}
}

// Promise 3.2: one by one, in the order in which they came; behind the last one there is 0 and false.
func TestTake(t *testing.T) {
	for _, n := range sizes() {
		l := mixed(n)
		q := filled(t, n, l...)
		for len(l) > 0 {
			first := l[0]
			holdTake(t, "one by one", q, l)
			l = l[1:]
			if q.Has(first) || q.Len() != len(l) {
				t.Fatalf("of %d: %d was taken: waits %v, Len %d, want %d", n, first, q.Has(first), q.Len(), len(l))
			}
		}
		holdTake(t, "none waits", q, nil)
		holdTake(t, "none waits still", q, nil)
		holdWaiting(t, "none waits", q, n, nil)
	}
}

// Promise 3.2: of fewer than wait, as many, more, none and less than none.
func TestDrain(t *testing.T) {
	for _, n := range sizes() {
		for _, most := range []int{math.MinInt, -n, -1, 0, 1, 2, n / 2, n - 1, n, n + 1, 2 * n, greatest, greatest + 1, 1 << 32, math.MaxInt} {
			what := fmt.Sprintf("of %d: Drain(%d)", n, most)
			waiting := mixed(n)
			q := filled(t, n, waiting...)
			k := max(0, min(most, n))
			if l := q.Drain(most); !slices.Equal(l, waiting[:k]) {
				t.Fatalf("%s: %d numbers, not the first %d", what, len(l), k)
			}
			holdWaiting(t, what, q, n, waiting[k:])
			for _, i := range waiting[:k] {
				if q.Has(i) {
					t.Fatalf("%s: %d waits still", what, i)
				}
			}
			holdTake(t, what, q, waiting[k:])
		}
	}
}

// Promise 3.2: of a queue in which few of its numbers wait.
func TestDrainOfFew(t *testing.T) {
	for most, want := range [][]int{{}, {7}, {7, 2}, {7, 2, 5}, {7, 2, 5}, {7, 2, 5}} {
		q := filled(t, 9, 7, 2, 5)
		if l := q.Drain(most); !slices.Equal(l, want) {
			t.Errorf("Drain(%d) of 7, 2, 5: %d, want %d", most, l, want)
		}
		if l := q.Drain(3); !slices.Equal(l, []int{7, 2, 5}[len(want):]) {
			t.Errorf("Drain(%d) of 7, 2, 5, and then the rest: %d", most, l)
		}
	}
}

// Promise 3.2: what was told is one's own.
func TestDrainTellsOnesOwn(t *testing.T) {
	q := filled(t, 6, 5, 1, 3, 0)
	a := q.Drain(2)
	a[0], a[1] = -1, -1
	a = append(a, -1, -1)
	b := q.Drain(1)
	if q.Put(5); !slices.Equal(b, []int{3}) || !slices.Equal(a, []int{-1, -1, -1, -1}) {
		t.Errorf("drained: %d, %d", a, b)
	}
	b[0] = 2
	holdWaiting(t, "lists changed", q, 6, []int{0, 5})
	if l := q.Drain(9); !slices.Equal(l, []int{0, 5}) {
		t.Errorf("lists changed: %d, want 0, 5", l)
	}
}

// Promise 3.2 and P1: of a nil queue, and of one that New did not give, there is nothing, and nobody is held up.
func TestQueuesNotGiven(t *testing.T) {
	for name, q := range notGiven() {
		for range 2 {
			for _, i := range append(around(0), around(8)...) {
				if q.Put(i) || q.Has(i) {
					t.Errorf("%s: %d may be put, or waits", name, i)
				}
				if l := q.Drain(i); len(l) != 0 {
					t.Errorf("%s: Drain(%d): %d", name, i, l)
				}
			}
			holdTake(t, name, q, nil)
			if q.Len() != 0 {
				t.Errorf("%s: Len: %d", name, q.Len())
			}
		}
	}
}

// Promise 3.3: who was taken, by Take or by Drain, may be put again, and waits behind the others.
func TestPutAgain(t *testing.T) {
	q := filled(t, 4, 3, 1, 2)
	holdTake(t, "the first time", q, []int{3})
	if !q.Put(3) || q.Put(3) {
		t.Fatal("3 was taken: may not be put, or twice")
	}
	holdWaiting(t, "put again", q, 4, []int{1, 2, 3})
	if l := q.Drain(2); !slices.Equal(l, []int{1, 2}) {
		t.Fatalf("Drain(2): %d, want 1, 2", l)
	}
	if !q.Put(2) || !q.Put(1) || q.Put(3) {
		t.Fatal("1 and 2 were taken, 3 waits: told otherwise")
	}
	if l := q.Drain(4); !slices.Equal(l, []int{3, 2, 1}) {
		t.Errorf("Drain(4): %d, want 3, 2, 1", l)
	}
}

// Promise 3.3: a queue can be filled and emptied time and again.
func TestFilledAndEmptied(t *testing.T) {
	for _, n := range sizes() {
		q, l := filled(t, n), mixed(n)
		for round := range 4 {
			for _, i := range l {
				if !q.Put(i) {
					t.Fatalf("of %d, round %d: Put(%d): false", n, round, i)
				}
			}
			if q.Len() != n {
				t.Fatalf("of %d, round %d: Len: %d", n, round, q.Len())
			}
			taken := q.Drain(n / 2)
			for i, ok := q.Take(); ok; i, ok = q.Take() {
				taken = append(taken, i)
			}
			if !slices.Equal(taken, l) {
				t.Fatalf("of %d, round %d: not taken in order", n, round)
			}
			holdWaiting(t, "emptied", q, n, nil)
			slices.Reverse(l)
		}
	}
}

// Promise 3.3: one queue knows nothing of another.
func TestQueuesOfTheirOwn(t *testing.T) {
	a, b := filled(t, 3, 2, 0), filled(t, 3, 1)
	holdWaiting(t, "a", a, 3, []int{2, 0})
	holdWaiting(t, "b", b, 3, []int{1})
	holdTake(t, "b", b, []int{1})
	holdTake(t, "b", b, nil)
	holdWaiting(t, "a", a, 3, []int{2, 0})
}

// holdCall makes one of the calls, by a number, on a queue of n and on the
// list of those that wait, holds both against each other, and tells the list.
func holdCall(t *testing.T, q *Queue, n, call int, waiting []int) []int {
	t.Helper()
	i := call%(n+2) - 1
	switch call / (n + 2) % 3 {
	case 0:
		fits := 0 <= i && i < n && !slices.Contains(waiting, i)
		if q.Put(i) != fits {
			t.Fatalf("Put(%d) of %d: %v", i, waiting, !fits)
		}
		if fits {
			waiting = append(slices.Clone(waiting), i)
		}
	case 1:
		holdTake(t, "among others", q, waiting)
		waiting = waiting[min(1, len(waiting)):]
	case 2:
		k := max(0, min(i, len(waiting)))
		if l := q.Drain(i); !slices.Equal(l, waiting[:k]) {
			t.Fatalf("Drain(%d) of %d: %d", i, waiting, l)
		}
		waiting = waiting[k:]
	}
	holdWaiting(t, "among others", q, n, waiting)
	return waiting
}

// Promises 3.1 to 3.3: all rows of five calls, on queues of up to two.
func TestAllShortRows(t *testing.T) {
	const calls = 5
	for n := range 3 {
		kinds := 3 * (n + 2)
		rows := 1
		for range calls {
			rows *= kinds
		}
		for row := range rows {
			q := filled(t, n)
			var waiting []int
			for range calls {
				waiting = holdCall(t, q, n, row%kinds, waiting)
				row /= kinds
			}
		}
	}
}

// Promises 3.1 to 3.3: long rows of mixed calls, of which most put.
func TestLongRows(t *testing.T) {
	for _, n := range []int{1, 2, 3, 7, 40} {
		q := filled(t, n)
		var waiting []int
		state := uint32(n)
		for range 20000 {
			state = state*1664525 + 1013904223
			call := int(state >> 8)
			if state>>30 != 0 {
				call %= n + 2
			}
			waiting = holdCall(t, q, n, call, waiting)
		}
	}
}

// The chapter's example.
func ExampleQueue() {
	q := New(3)
	fmt.Println(q.Put(2), q.Put(0), q.Put(2))
	fmt.Println(q.Take())
	fmt.Println(q.Take())
	fmt.Println(q.Take())
	// Output:
	// true true false
	// 2 true
	// 0 true
	// 0 false
}
