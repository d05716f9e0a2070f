package impl

import "math/bits"

// Limits of numbers.
const (
	One   = 4096
	Far   = 1 << 30
	Whole = 1 << 62
)

const maxShares = 100

// Floor returns the greatest whole number that is not above a quotient.
func Floor(a int, b int) int {
	if !divides(a, b) {
		return 0
	}
	quotient := a / b
	// Go's division drops what is left, which is a step too high below 0.
	if quotient*b != a && (a < 0) != (b < 0) {
		quotient--
	}
	return quotient
}

// Ceil returns the least whole number that is not below a quotient.
func Ceil(a int, b int) int {
	if !divides(a, b) {
		return 0
	}
	quotient := a / b
	// Go's division drops what is left, which is a step too low above 0.
	if quotient*b != a && (a < 0) == (b < 0) {
		quotient++
	}
	return quotient
}

// Rest returns what a quotient leaves.
func Rest(a int, b int) int {
	if !divides(a, b) {
		return 0
	}
	rest := a % b
	// Go's rest has the sign of a, that of Floor has the sign of b.
	if rest != 0 && (rest < 0) != (b < 0) {
		rest += b
	}
	return rest
}

// Root returns the greatest whole number the square of which is not above a number, or -1.
func Root(n int) int {
	if !within(n, 0, Whole) {
		return -1
	}
	if n == 0 {
		return 0
	}
	// Newton's steps only fall, and stop at the root, if they start at or above it.
	root := 1 << ((bits.Len(uint(n)) + 1) / 2)
	// Quotients are compared in place of squares, since the first square may not fit.
	for quotient := n / root; root > quotient; quotient = n / root {
		root = (root + quotient) / 2
	}
	return root
}

// RootUp returns the least whole number the square of which is not below a number, or -1.
func RootUp(n int) int {
	root := Root(n)
	if root >= 0 && root*root < n {
		root++
	}
	return root
}

// Bound returns a number within two others.
func Bound(n int, low int, high int) int {
	// low comes last, so that it wins where the bounds are the wrong way round.
	return max(min(n, high), low)
}

// Mix returns a number between two others.
func Mix(a int, b int, w int) int {
	if !within(a, -Far, Far) || !within(b, -Far, Far) || !within(w, 0, One) {
		return 0
	}
	return a + Floor(w*(b-a), One)
}

// Shares returns a number in as equal shares as may be.
func Shares(n int, many int) []int {
	if !within(n, 0, Far) || !within(many, 1, maxShares) {
		return nil
	}
	shares := make([]int, many)
	for i := range shares {
		// What the rounded up shares ahead leave comes to one less for each of them.
		shares[i] = (n - i + many - 1) / many
	}
	return shares
}

// Common returns the greatest common divisor of two numbers.
func Common(a int, b int) int {
	if !within(a, -Whole, Whole) || !within(b, -Whole, Whole) {
		return 0
	}
	for b != 0 {
		a, b = b, a%b
	}
	return max(a, -a)
}

// divides reports whether two numbers have a quotient that is reckoned.
func divides(a int, b int) bool {
	return b != 0 && within(a, -Whole, Whole) && within(b, -Whole, Whole)
}

// within reports whether a number is from another one to a third one.
func within(n int, low int, high int) bool {
	return low <= n && n <= high
}
