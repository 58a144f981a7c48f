package nat

import (
	"slices"

	"plumb/digits"
)

// divisor is the greatest common divisor by Lehmer's way: many of Euclid's steps are made on the highest 60 bits alone, and then at once on the whole.
func divisor(a, b []int) []int {
	if digits.Compare(a, b) < 0 {
		a, b = b, a
	}
	for len(b) > 2 {
		s := simulate(heads(a, b))
		if s.fromB == 0 { // the highest bits can't tell a single step
			_, r := digits.Divide(a, b)
			a, b = b, r
			continue
		}
		a, b = s.apply(a, b)
	}
	if len(b) == 0 {
		return slices.Clone(a)
	}
	_, r := digits.Divide(a, b)
	x, y := digits.Small(b), digits.Small(r)
	for y != 0 {
		x, y = y, x%y
	}
	return digits.Of(x)
}

// heads are the highest 60 bits of a, and the bits of b that stand beside them.
func heads(a, b []int) (int, int) {
	shift := digits.Bits(a) - 2*digitBits
	return digits.Small(digits.Lower(a, shift)), digits.Small(digits.Lower(b, shift))
}

// steps are Euclid's, put together: a becomes fromA a - fromB b, b becomes nextB b - nextA a; or, if odd is set, each of these with the other sign.
type steps struct {
	fromA, fromB, nextA, nextB int
	odd                        bool
}

// simulate makes as many of Euclid's steps on the heads as are surely those of the whole numbers (Collins' condition). What it tells stays below 2^30.
func simulate(x, y int) steps {
	sure := steps{fromA: 1, nextB: 1}
	for y != 0 {
		q := x / y
		x, y = y, x%y
		more := steps{sure.nextA, sure.nextB, sure.fromA + q*sure.nextA, sure.fromB + q*sure.nextB, !sure.odd}
		if y < more.nextB || x-y < more.nextB+more.fromB {
			break
		}
		sure = more
	}
	return sure
}

// apply makes the steps on the whole numbers.
func (s steps) apply(a, b []int) ([]int, []int) {
	sign := 1
	if s.odd {
		sign = -1
	}
	return combine(a, b, sign*s.fromA, -sign*s.fromB), combine(a, b, -sign*s.nextA, sign*s.nextB)
}

// combine is byA a + byB b, which is not below 0, where a is no shorter than b.
func combine(a, b []int, byA, byB int) []int {
	n := make([]int, len(a))
	carry := 0
	for i := range len(a) {
		carry += byA * a[i]
		if i < len(b) {
			carry += byB * b[i]
		}
		n[i] = carry & mask
		carry >>= digitBits
	}
	return digits.Trim(n)
}
