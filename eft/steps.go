package eft

// splitter has as its product with a float of 53 bits one whose last 27 are cut off it again.
const splitter = 1<<27 + 1

// sum is a sum and what it lost, whichever of the two is greater.
func sum(a, b float64) (h, l float64) {
	h = a + b
	v := h - a
	return h, (a - (h - v)) + (b - v)
}

// fastSum is a sum and what it lost, if the first one is not less, signs aside.
func fastSum(a, b float64) (h, l float64) {
	h = a + b
	return h, b - (h - a)
}

// split is a float's upper half and its lower one. (Here and below a conversion bars that a product is fused with a sum.)
func split(a float64) (h, l float64) {
	c := float64(splitter * a)
	h = c - (c - a)
	return h, a - h
}

// product is a product and what it lost, which the products of halves tell, as these have no bits to lose.
func product(a, b float64) (h, l float64) {
	h = float64(a * b)
	p, q := split(a)
	r, s := split(b)
	return h, float64(q*s) - (((h - float64(p*r)) - float64(q*r)) - float64(p*s))
}
