package orient

import (
	"cmp"
	"math"

	"plumb/apart"
	"plumb/api"
	"plumb/bits"
	"plumb/eft"
	"plumb/expansion"
	"plumb/sums"
)

// What the stages' values may be off, as parts of the products' sizes, and of the value of the heads: a value that is not less has the exact sign.
const (
	filterBound = (3 + 0x1p-49) * 0x1p-53
	headsBound  = (2 + 3*0x1p-51) * 0x1p-53
	tailsBound  = (9 + 0x1p-47) * 0x1p-106
	againBound  = (3 + 0x1p-50) * 0x1p-53
)

// tameVerdict tells the sign of tame points: each stage takes more of what the one ahead of it lost. (Here and below a conversion bars that a product is fused with a sum.)
func tameVerdict(a, b, c api.Point) api.Verdict {
	var f frame
	var heads float64
	ax, ay, bx, by, cx, cy := bits.Float(a.X), bits.Float(a.Y), bits.Float(b.X), bits.Float(b.Y), bits.Float(c.X), bits.Float(c.Y)
	left, right := float64((ax-cx)*(by-cy)), float64((ay-cy)*(bx-cx))
	size := math.Abs(left) + math.Abs(right)
	value, stage := left-right, api.StageFilter
	if math.Abs(value) >= float64(filterBound*size) { // where one product is 0, or they have unlike signs, the value is as great as the size
		goto decided
	}
	f = frameOf(a, b, c)
	heads = f.heads(left, right)
	value, stage = heads, api.StageHeads
	if f.exact() || math.Abs(value) >= float64(headsBound*size) {
		goto decided
	}
	value, stage = heads+f.tails(), api.StageTails
	if math.Abs(value) >= float64(tailsBound*size)+float64(againBound*math.Abs(heads)) {
		goto decided
	}
	value, stage = f.all(), api.StageExpansion
decided:
	return api.Verdict{Sign: cmp.Compare(value, 0), Stage: stage}
}

// difference is the float nearest to a difference of coordinates, and what that one lost.
type difference struct{ head, tail float64 }

func minus(p, q int) difference {
	head, tail := apart.Floats(p, q)
	return difference{head, tail}
}

func (d difference) parts() []int { return apart.Parts(d.head, d.tail) }

// frame has the differences of two points to the third one.
type frame struct{ u1, v1, u2, v2 difference }

func frameOf(a, b, c api.Point) frame {
	return frame{minus(a.X, c.X), minus(a.Y, c.Y), minus(b.X, c.X), minus(b.Y, c.Y)}
}

// exact tells whether no difference lost anything.
func (f frame) exact() bool {
	return f.u1.tail == 0 && f.v1.tail == 0 && f.u2.tail == 0 && f.v2.tail == 0
}

// heads is the float nearest to the value of the rounded differences, by their products' floats. Where these are one, what they lost makes the whole value, and a single difference rounds it.
func (f frame) heads(left, right float64) float64 {
	u1, v1, u2, v2 := f.u1.head, f.v1.head, f.u2.head, f.v2.head
	if left == right {
		return lost(u1, v2) - lost(v1, u2)
	}
	near, _ := sums.Dot([]int{bits.Of(u1), bits.Of(-v1)}, []int{bits.Of(v2), bits.Of(u2)}, api.Near)
	return bits.Float(near)
}

// lost is what the float of a product lacks.
func lost(p, q float64) float64 {
	_, l, _ := eft.TwoProd(bits.Of(p), bits.Of(q))
	return bits.Float(l)
}

// tails is what the heads' value lacks, at first order: the products of a head and a tail.
func (f frame) tails() float64 {
	left := float64(f.u1.head*f.v2.tail) + float64(f.v2.head*f.u1.tail)
	right := float64(f.v1.head*f.u2.tail) + float64(f.u2.head*f.v1.tail)
	return left - right
}

// all has the sign of the exact value.
func (f frame) all() float64 {
	left, _ := expansion.Product(f.u1.parts(), f.v2.parts())
	right, _ := expansion.Product(f.v1.parts(), f.u2.parts())
	whole, _ := expansion.Diff(left, right)
	sign, _ := expansion.Sign(whole)
	return float64(sign)
}
