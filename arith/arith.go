// Package arith is layer 1: numbers that don't go round. See shared/doc/01-arith.md.
package arith

import "math"

// Add tells a + b, and whether it is an int.
func Add(a, b int) (int, bool) {
	s := a + b
	// A sum that went round lies on the wrong side of a.
	if (s < a) != (b < 0) {
		return 0, false
	}
	return s, true
}

// Sub tells a - b, and whether it is an int.
func Sub(a, b int) (int, bool) {
	d := a - b
	// Likewise; Add(a, -b) would fail where b has no opposite.
	if (d > a) != (b < 0) {
		return 0, false
	}
	return d, true
}

// Mul tells a * b, and whether it is an int.
func Mul(a, b int) (int, bool) {
	if a == 0 {
		return 0, true
	}
	p := a * b
	// A product that went round gives another quotient, but for
	// -1 * -2^63, whose quotient goes round in turn and looks right.
	if a == -1 && b == math.MinInt || p/a != b {
		return 0, false
	}
	return p, true
}

// Neg tells -a, and whether it is an int.
func Neg(a int) (int, bool) {
	return Sub(0, a)
}

// Div tells a / b, toward 0, and whether there is such an int.
func Div(a, b int) (int, bool) {
	if !divides(a, b) {
		return 0, false
	}
	return a / b, true
}

// Mod tells what Div leaves of a, and whether there is a quotient.
func Mod(a, b int) (int, bool) {
	// -2^63 by -1 would leave 0, but has no quotient to leave it.
	if !divides(a, b) {
		return 0, false
	}
	return a % b, true
}

// divides tells whether a by b has a quotient that is an int.
func divides(a, b int) bool {
	return b != 0 && (a != math.MinInt || b != -1)
}

// Sum tells all of l added, and whether that is an int.
func Sum(l ...int) (int, bool) {
	// The whole is s + rounds * 2^64: sums on the way may go round,
	// as long as they come back as often.
	s, rounds := 0, 0
	for _, n := range l {
		if _, fits := Add(s, n); !fits {
			rounds += sign(n)
		}
		s += n
	}
	if rounds != 0 {
		return 0, false
	}
	return s, true
}

// sign tells on which side a number that made a sum go round lies.
func sign(n int) int {
	if n < 0 {
		return -1
	}
	return 1
}
