// Package apart tells how far apart two coordinates lie, in the kinds of numbers with which the stages of a sign reckon. It takes on trust that they are finite, and, for Near, Floats and Expansion, tame.
package apart

import (
	"plumb/api"
	"plumb/bits"
	"plumb/dyadic"
	"plumb/eft"
	"plumb/span"
)

// Near is the difference of two coordinates by a single operation.
func Near(p, q int) float64 { return bits.Float(p) - bits.Float(q) }

// Floats are the float nearest to the difference of two coordinates, and what that one lost. Of tame ones the two are the exact difference, as these lie far from the ends of the floats' range.
func Floats(p, q int) (head, tail float64) {
	h, l, _ := eft.TwoDiff(p, q)
	return bits.Float(h), bits.Float(l)
}

// Expansion is the difference of two coordinates as the sum of floats that don't overlap.
func Expansion(p, q int) []int { return Parts(Floats(p, q)) }

// Parts are the floats of a difference that are not 0, the lesser one first.
func Parts(head, tail float64) []int {
	var l []int
	for _, f := range [2]float64{tail, head} {
		if f != 0 {
			l = append(l, bits.Of(f))
		}
	}
	return l
}

// Exact is the difference of two coordinates.
func Exact(p, q int) api.Num {
	x, _ := dyadic.Of(p)
	y, _ := dyadic.Of(q)
	n, _ := dyadic.Sub(x, y)
	return n
}

// Span is the interval around the difference of two coordinates.
func Span(p, q int) api.Span {
	x, _ := span.Of(p)
	y, _ := span.Of(q)
	s, _ := span.Sub(x, y)
	return s
}
