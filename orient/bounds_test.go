package orient

import (
	"math"
	"math/rand/v2"
)

// atBounds are points whose values lie at the stages' bounds, or a step beside them.
func atBounds() []three {
	l := append(aroundProducts(), aroundTails()...)
	r := seeded(77)
	for range 20000 {
		if t, ok := cancelled(r); ok {
			l = append(l, t)
		}
	}
	return append(l, lastBits()...)
}

// aroundProducts are points whose products are whole numbers beside each other, so that their difference is a few of the steps of which the bounds of filter and heads are 3 and 2: without tails, and with ones that change neither.
func aroundProducts() []three {
	var l []three
	for _, whole := range []int{1 << 52, 1 << 53, 3 << 52, 5 << 51} {
		for s := -40; s <= 40; s++ {
			for d := -8; d <= 8; d++ {
				if (s+d)%2 != 0 {
					continue
				}
				b := at(float64((whole+s-d)/2), float64((whole+s+d)/2))
				for _, far := range []float64{0, 0x1p-100, -0x1p-149} {
					l = append(l, three{at(1, 1), b, at(far, far)}, three{at(1, 1), b, at(far, 0)}, three{at(-1, -1), b, at(0, far)})
				}
			}
		}
	}
	return l
}

// aroundTails are points whose heads' value is 0 and whose tails' value lies within a few steps of the bound.
func aroundTails() []three {
	var l []three
	for _, v := range []float64{2, 3, 5, 9, 1025} {
		bound := (9 + 0x1p-47) * 0x1p-106 * 2 * v
		for n := -12; n <= 12; n++ {
			tail := math.Float64frombits(math.Float64bits(bound/(v-1)) + uint64(n))
			l = append(l, three{at(1, 1), at(v, v), at(0, -tail)}, three{at(1, 1), at(v, v), at(-tail, 0)}, three{at(-1, -1), at(v, v), at(tail, 0)})
		}
	}
	return l
}

// cancelled are points whose heads and tails have values that leave just about the bound of tails of each other; false: a tail would be too great. Many of the floats are nearly the next power of 2, so that the heads' value has more bits than a float.
func cancelled(r *rand.Rand) (three, bool) {
	const step, long = 0x1p-52, 0x1p-42 // of floats from 1 on, and from 1024 on
	near := []float64{1, 0x1p-5, 0x1p-5}[r.IntN(3)]
	part := func() float64 { return 1 - near*r.Float64() }
	u1, v1, u2 := 1+part(), 1+part(), 1024+1024*part()
	v2 := float64(u2*v1/u1) + long*float64(r.IntN(3)-1)
	left, right := float64(u1*v2), float64(v1*u2)
	h := (left - right) + (math.FMA(u1, v2, -left) - math.FMA(v1, u2, -right))
	rest := (9*0x1p-106*(left+right) + 3*0x1p-53*math.Abs(h)) * (1 + 0.3*(r.Float64()-0.5)) * float64(1-2*r.IntN(2))
	steps := func() float64 { return math.Copysign(step*float64(r.IntN(500)), h) } // a tail of the long floats, and none of the short ones
	x, y, t := steps(), -steps(), math.Copysign(step/2*r.Float64(), h)
	s := (rest - h - u1*(y+t) + v1*x + u2*t) / (v2 - v1)
	return three{at(u1-x, v1-y), at(u2, v2), at(-x-s, -y-t)}, math.Abs(s) < step/2
}

// lastBits are points where the last bits of K, or a product that is fused with a sum, would turn the bound of tails around their value.
func lastBits() []three {
	a, b, c, d, e := 0x1.0f007328f6cd2p0, 0x1.2c55cee3c2bb2p0, 0x1.18d338318925cp0, 0x1.10b8426091411p0, 0x1.2789c7a2484a7p0
	return []three{
		{at(a, a), at(0x1.c4105252169cap2, 0x1.c4105252169cbp2), at(0x1.e6260f4054d8cp-54, -0x1.d7ddf598ea91p-55)},
		{at(a, a), at(0x1.c4105252169cbp2, 0x1.c4105252169ccp2), at(0x1.d8ab3dc751e62p-54, -0x1.f2d3988af075ep-55)},
		{at(b, b), at(0x1.f08f09e0ec4bp2, 0x1.f08f09e0ec4b1p2), at(0x1.e26474aa2174cp-54, -0x1.ee94f0d482c38p-55)},
		{at(c, c), at(0x1.e52018c7e07a7p2, 0x1.e52018c7e07a8p2), at(0x1.d1b428e34f4b2p-54, -0x1.c6b7af2b2500cp-55)},
		{at(d, d), at(0x1.f6145f85eaa0cp2, 0x1.f6145f85eaa0dp2), at(0x1.d6a7b96566e07p-54, -0x1.59ec47ba52d34p-55)},
		{at(e, e), at(0x1.fa00eeabd84f1p2, 0x1.fa00eeabd84f2p2), at(0x1.fef7dc65500eep-54, -0x1.7abf58f132e14p-55)},
	}
}
