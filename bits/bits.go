// Package bits tells what the bits of floats say, and finds their neighbours.
package bits

import (
	"cmp"
	"math"

	"plumb/api"
)

// The classes, numbered as api numbers them.
const (
	zero = iota
	subnormal
	normal
	infinite
	none
)

// sign is the int whose sign bit alone is set: the pattern of -0.
const sign = math.MinInt

// Class tells what a binary64 is: one of api's classes.
func Class(b int) int { return binary64.class(b) }

// Parts tells a finite binary64's sign, and its value as a whole number times a power of 2; false: it is not finite.
func Parts(b int) (neg bool, mag, exp int, ok bool) {
	mag, exp, ok = binary64.parts(b)
	return ok && b < 0, mag, exp, ok
}

// Join tells the binary64 whose value is just mag times 2^exp; false: there is none.
func Join(neg bool, mag, exp int) (int, bool) {
	b, ok := binary64.join(mag, exp)
	if ok && neg {
		b |= sign
	}
	return b, ok
}

// Next tells the next greater binary64.
func Next(b int) int {
	switch {
	case Class(b) == none:
		return api.NaN
	case b == api.Inf:
		return b
	case b == sign: // a step within the patterns of its sign would go down
		return 1
	case b < 0: // patterns below 0 grow with how far they are from 0
		return b - 1
	}
	return b + 1
}

// Prev tells the next lesser binary64.
func Prev(b int) int { return Neg(Next(Neg(b))) }

// Ulp tells what a binary64's last bit is worth.
func Ulp(b int) int {
	_, _, exp, ok := Parts(b)
	if !ok {
		return Abs(b)
	}
	u, _ := Join(false, 1, exp)
	return u
}

// Neg turns the sign.
func Neg(b int) int {
	if Class(b) == none {
		return api.NaN
	}
	return b ^ sign
}

// Abs leaves the sign away.
func Abs(b int) int {
	if Class(b) == none {
		return api.NaN
	}
	return b &^ sign
}

// Canon tells the one pattern of 0, and of what is no number.
func Canon(b int) int {
	switch Class(b) {
	case zero:
		return 0
	case none:
		return api.NaN
	}
	return b
}

// Less tells whether one value is less than another one.
func Less(a, b int) bool { return Float(a) < Float(b) }

// Same tells whether two values are one.
func Same(a, b int) bool { return Float(a) == Float(b) }

// Order tells the order of all patterns: -1, 0, 1.
func Order(a, b int) int { return cmp.Compare(rank(a), rank(b)) }

// rank tells a pattern's place among all: ints are ordered as the patterns' values are, if those with a sign are counted downwards from -1.
func rank(b int) int {
	switch {
	case Class(b) == none:
		return math.MaxInt
	case b < 0:
		return ^(b &^ sign)
	}
	return b
}

// Float tells the float with a pattern.
func Float(b int) float64 { return math.Float64frombits(uint64(b)) }

// Of tells a float's pattern.
func Of(f float64) int {
	if f != f {
		return api.NaN
	}
	return int(math.Float64bits(f))
}
