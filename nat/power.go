package nat

import (
	mathbits "math/bits"

	"plumb/digits"
)

// power is a to the k-th: the squares go from the highest bit of k down, so that nothing longer than the power comes on the way.
func power(a []int, k int) []int {
	p, bit := []int{1}, mathbits.Len(uint(k))
square:
	if bit == 0 {
		return p
	}
	bit--
	p = digits.Product(p, p)
	if k>>bit&1 == 1 {
		p = digits.Product(p, a)
	}
	goto square
}

// root is the square root, cut. Newton's steps from above fall until they are there.
func root(a []int) []int {
	if len(a) == 0 {
		return nil
	}
	s := digits.Raise([]int{1}, (digits.Bits(a)+1)/2)
	for {
		q, _ := digits.Divide(a, s)
		next := digits.Lower(digits.Sum(s, q), 1)
		if digits.Compare(next, s) >= 0 {
			return s
		}
		s = next
	}
}
