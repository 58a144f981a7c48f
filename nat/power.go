package nat

import mathbits "math/bits"

// power is a to the k-th: the squares go from the highest bit of k down, so that nothing longer than the power comes on the way.
func power(a []int, k int) []int {
	p, bit := []int{1}, mathbits.Len(uint(k))
square:
	if bit == 0 {
		return p
	}
	bit--
	p = product(p, p)
	if k>>bit&1 == 1 {
		p = product(p, a)
	}
	goto square
}

// root is the square root, cut. Newton's steps from above fall until they are there.
func root(a []int) []int {
	if len(a) == 0 {
		return nil
	}
	s := raise([]int{1}, (bitLength(a)+1)/2)
	for {
		q, _ := divide(a, s)
		next := lower(sum(s, q), 1)
		if compare(next, s) >= 0 {
			return s
		}
		s = next
	}
}
