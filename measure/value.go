package measure

import (
	"plumb/apart"
	"plumb/api"
	"plumb/dyadic"
	"plumb/expansion"
	"plumb/span"
)

// kind is a kind of numbers, by how it takes the difference of two coordinates and goes on from there.
type kind[N any] struct {
	apart         func(p, q int) N
	add, sub, mul func(x, y N) (N, api.Errno)
}

func expansions() kind[[]int] {
	return kind[[]int]{apart.Expansion, expansion.Sum, expansion.Diff, expansion.Product}
}

func spans() kind[api.Span] { return kind[api.Span]{apart.Span, span.Add, span.Sub, span.Mul} }

func exactNumbers() kind[api.Num] {
	return kind[api.Num]{apart.Exact, dyadic.Add, dyadic.Sub, dyadic.Mul}
}

// dot is the product of the ways from b to a and from b to c.
func (k kind[N]) dot(a, b, c api.Point) N {
	x := sure(k.mul(k.apart(a.X, b.X), k.apart(c.X, b.X)))
	y := sure(k.mul(k.apart(a.Y, b.Y), k.apart(c.Y, b.Y)))
	return sure(k.add(x, y))
}

// farther is the square of the distance from a to b less that from c to d. (Of a span too a product with itself is the square, as that of a difference has no ends of unlike signs.)
func (k kind[N]) farther(a, b, c, d api.Point) N {
	return sure(k.sub(k.dot(a, b, a), k.dot(c, d, c)))
}

// sure is what a step answered: none is refused here, as tame differences and their products stay far from the ends of the floats' range, every span is an interval, and exact differences of coordinates have some 2,100 bits at most.
func sure[N any](x N, _ api.Errno) N { return x }

// productsNear are the products of which dot is the sum, by single operations. (The conversions bar that they are fused with a sum.)
func productsNear(a, b, c api.Point) (x, y float64) {
	x = float64(apart.Near(a.X, b.X) * apart.Near(c.X, b.X))
	y = float64(apart.Near(a.Y, b.Y) * apart.Near(c.Y, b.Y))
	return x, y
}

// squareNear is the square of the distance from a to b by single operations.
func squareNear(a, b api.Point) float64 {
	x, y := productsNear(a, b, a)
	return x + y
}
