package span

import (
	"math"

	"plumb/api"
	"plumb/bits"
	"plumb/round"
)

// interval is an interval by the values of its ends.
type interval struct{ lo, hi float64 }

func read(s api.Span) interval { return interval{bits.Float(s.Lo), bits.Float(s.Hi)} }

func told(s interval) api.Span {
	return api.Span{Lo: bits.Canon(bits.Of(s.lo)), Hi: bits.Canon(bits.Of(s.hi))}
}

func (s interval) valid() bool {
	return s.lo <= s.hi && !math.IsInf(s.lo, 1) && !math.IsInf(s.hi, -1)
}

func (s interval) turned() interval { return interval{-s.hi, -s.lo} }

func (s interval) plus(t interval) interval { return interval{sum(s.lo, t.lo).lo, sum(s.hi, t.hi).hi} }

func (s interval) minus(t interval) interval { return s.plus(t.turned()) }

// times joins the intervals around the four products: rounding keeps their order.
func (s interval) times(t interval) interval {
	ends := [4]interval{product(s.lo, t.lo), product(s.lo, t.hi), product(s.hi, t.lo), product(s.hi, t.hi)}
	all := ends[0]
	for _, p := range ends[1:] {
		all = all.joined(p)
	}
	return all
}

func (s interval) squared() interval {
	all := product(s.lo, s.lo).joined(product(s.hi, s.hi))
	if s.lo <= 0 && s.hi >= 0 {
		all.lo = 0
	}
	return all
}

func (s interval) joined(t interval) interval { return interval{min(s.lo, t.lo), max(s.hi, t.hi)} }

// beside is the least interval around an exact number, by the nearest float and the sign of what that one lost. Of a number beyond all finite floats the nearest is infinite, and what it lost is infinite with the other sign, so that the greatest finite one is an end.
func beside(near, lost float64) interval {
	switch {
	case lost < 0:
		return interval{math.Nextafter(near, math.Inf(-1)), near}
	case lost > 0:
		return interval{near, math.Nextafter(near, math.Inf(1))}
	}
	return interval{near, near}
}

// sum is the least interval around the sum of two ends; of an infinite one it is that one alone. With the greater one ahead, signs aside, the three operations lose nothing, and leave what is finite only if the sum does.
func sum(a, b float64) interval {
	if math.Abs(a) < math.Abs(b) {
		a, b = b, a
	}
	near := a + b
	return beside(near, b-(near-a))
}

// deep: a product that is not less, signs aside, has no bit that is worth less than the least float, as two floats' product has 106 bits at most. Below it, what was lost may itself be rounded to 0.
const deep = 0x1p-960

// product is the least interval around the product of two ends; of an infinite one and another one than 0 it is infinite.
func product(a, b float64) interval {
	near := float64(a * b)
	switch {
	case a == 0 || b == 0:
		return interval{}
	case math.Abs(near) < deep:
		return deepProduct(bits.Of(a), bits.Of(b))
	}
	return beside(near, math.FMA(a, b, -near))
}

// deepProduct is the same by exact numbers.
func deepProduct(a, b int) interval {
	lo, _ := round.Mul(a, b, api.Down)
	hi, _ := round.Mul(a, b, api.Up)
	return interval{bits.Float(lo), bits.Float(hi)}
}
