// Package apart tells how far apart two coordinates lie, in the kinds of numbers with which the stages of a sign reckon. It takes on trust that they are finite, and, for Floats, tame.
package apart

import (
	"plumb/api"
	"plumb/bits"
	"plumb/dyadic"
	"plumb/eft"
	"plumb/span"
)

// Floats are the float nearest to the difference of two coordinates, and what that one lost. Of tame ones the two are the exact difference, as these lie far from the ends of the floats' range.
func Floats(p, q int) (head, tail float64) {
	h, l, _ := eft.TwoDiff(p, q)
	return bits.Float(h), bits.Float(l)
}

// Exact is the difference of two coordinates.
func Exact(p, q int) api.Num {
	x, _ := dyadic.Of(p)
	y, _ := dyadic.Of(q)
	n, _ := dyadic.Sub(x, y)
	return n
}

// Span is the interval around the difference of two coordinates.
func Span(p, q int) api.Span {
	x, _ := span.Of(p)
	y, _ := span.Of(q)
	s, _ := span.Sub(x, y)
	return s
}
