package circle

import (
	"cmp"
	"math"

	"plumb/apart"
	"plumb/api"
	"plumb/bits"
	"plumb/dyadic"
	"plumb/round"
)

// What the stages' values may be off, as parts of the terms' sizes, and of the value of the heads: a value that is greater (behind the filter: not less) has the exact sign.
const (
	filterBound = (10 + 3*0x1p-48) * 0x1p-53
	headsBound  = (4 + 3*0x1p-49) * 0x1p-53
	tailsBound  = (44 + 9*0x1p-47) * 0x1p-106
	againBound  = (3 + 0x1p-50) * 0x1p-53
)

// tameVerdict tells the sign of tame points: each stage takes more of what the one ahead of it lost. (Here and below a conversion bars that a product is fused with a sum.)
func tameVerdict(p four) api.Verdict {
	f := frameOf(p)
	value, size := f.filter()
	if math.Abs(value) > float64(filterBound*size) {
		return told(value, api.StageFilter)
	}
	heads := f.heads(value)
	f.lose(p)
	if math.Abs(heads) >= float64(headsBound*size) || f.exact() {
		return told(heads, api.StageHeads)
	}
	value = heads + f.tails()
	if math.Abs(value) >= float64(tailsBound*size)+float64(againBound*math.Abs(heads)) {
		return told(value, api.StageTails)
	}
	return exactVerdict(p, api.StageExpansion)
}

func told(value float64, stage int) api.Verdict {
	return api.Verdict{Sign: cmp.Compare(value, 0), Stage: stage}
}

// leg is the way from the last point to another one: its rounded differences, the float near the square of its length by them, and, where a stage asks for it, what they lost.
type leg struct{ x, y, square, lostX, lostY float64 }

// frame has the ways from the last point to the others.
type frame [3]leg

func frameOf(p four) frame {
	var f frame
	fromX, fromY := bits.Float(p[3].X), bits.Float(p[3].Y)
	for i := range 3 {
		x, y := bits.Float(p[i].X)-fromX, bits.Float(p[i].Y)-fromY
		f[i] = leg{x: x, y: y, square: float64(x*x) + float64(y*y)}
	}
	return f
}

// lose looks up what the differences lost.
func (f *frame) lose(p four) {
	for i := range 3 {
		_, f[i].lostX = apart.Floats(p[i].X, p[3].X)
		_, f[i].lostY = apart.Floats(p[i].Y, p[3].Y)
	}
}

// around are a leg and the two behind it, coming round.
func (f *frame) around(i int) (p, q, r *leg) { return &f[i], &f[(i+1)%3], &f[(i+2)%3] }

// filter is the value by single operations alone, and the size of its terms.
func (f *frame) filter() (value, size float64) {
	for i := range 3 {
		p, q, r := f.around(i)
		left, right := float64(q.x*r.y), float64(r.x*q.y)
		value += float64(p.square * (left - right))
		size += float64((math.Abs(left) + math.Abs(right)) * p.square)
	}
	return value, size
}

// exact tells whether no difference lost anything.
func (f *frame) exact() bool {
	for _, l := range f {
		if l.lostX != 0 || l.lostY != 0 {
			return false
		}
	}
	return true
}

// heads is the float nearest to the value of the rounded differences, of which the filter's value is given.
func (f *frame) heads(near float64) float64 {
	if f.short() {
		return near
	}
	n := exactNumbers().value(func(i int) (x, y api.Num) { return number(f[i].x), number(f[i].y) })
	b, _, _ := round.To(n, api.Near)
	return bits.Float(b)
}

// short tells whether all rounded differences are whole multiples, less than 2^12 of them, of one power of 2: then no single operation of the filter has lost anything, as no number on the way has more than 53 bits. Sites on a grid are so, and many of these lie on one circle.
func (f *frame) short() bool {
	var most float64
	for _, l := range f {
		most = max(most, math.Abs(l.x), math.Abs(l.y))
	}
	_, exp := math.Frexp(most)
	unit := math.Ldexp(1, exp-12)
	for _, l := range f {
		if l.x/unit != math.Trunc(l.x/unit) || l.y/unit != math.Trunc(l.y/unit) {
			return false
		}
	}
	return true
}

// number is the exact number of a float.
func number(f float64) api.Num {
	n, _ := dyadic.Of(bits.Of(f))
	return n
}

// tails is what the heads' value lacks, at first order: what the minors lack, and what the squares lack.
func (f *frame) tails() float64 {
	var sum float64
	for i := range 3 {
		p, q, r := f.around(i)
		minor := (float64(q.x*r.lostY) + float64(r.y*q.lostX)) - (float64(q.y*r.lostX) + float64(r.x*q.lostY))
		square := 2 * (float64(p.x*p.lostX) + float64(p.y*p.lostY))
		sum += float64(p.square*minor) + float64(square*(float64(q.x*r.y)-float64(q.y*r.x)))
	}
	return sum
}
