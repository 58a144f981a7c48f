package circle

import (
	"math"
	"math/rand/v2"
	"sync"

	"plumb/api"
)

// bounds are the points of atBounds, found once for all tests.
var bounds = sync.OnceValue(atBounds)

// atBounds are points whose values lie at the stages' bounds, or a step beside them.
func atBounds() []four {
	l := aroundProducts()
	r := seeded(77)
	for range 150 {
		l = append(l, around0(aroundBlock(r))...)
		l = append(l, around0(uprightBlock(r))...)
	}
	for range 3000 {
		l = append(l, cancelled(r))
	}
	return append(l, lastBits()...)
}

// aroundProducts are points of which one lies so far away that its term alone counts, and the products of the other two are whole numbers beside each other: their difference is a few of the steps of which the bounds of filter and heads are 10 and 4. Without tails, and with ones that change neither.
func aroundProducts() []four {
	var l []four
	for _, whole := range []int{1 << 53, 1 << 52, 3 << 51, 5 << 51, 1 << 51} {
		for s := -24; s <= 4; s += 2 {
			for d := -11; d <= 11; d++ {
				n := whole + s + d&1
				near := at(float64((n-d)/2)*0x1p-52, float64((n+d)/2)*0x1p-52)
				for i, far := range []api.Point{at(0x1p140, 0), at(0x1.3c7p139, 0x1.d3bp138)} {
					p := [3]api.Point{far, at(1, 1), near}
					k := (d + 11 + i) % 3
					for _, low := range []float64{0, 0x1p-140} {
						l = append(l, four{p[k], p[(k+1)%3], p[(k+2)%3], at(low, low)})
					}
				}
			}
		}
	}
	return l
}

// block are three corners of a rectangle whose fourth one is at 0, and a way to go from there.
type block struct {
	a, b, c api.Point
	x, y    float64
}

// gone has as its last point one that far from 0.
func (b block) gone(far float64) four { return four{b.a, b.b, b.c, at(far*b.x, far*b.y)} }

// aroundBlock is a slanted rectangle on whole numbers: all that its heads leave is 0.
func aroundBlock(r *rand.Rand) block {
	whole := func() float64 { return float64(1<<20+r.IntN(1<<24)) * float64(1-2*r.IntN(2)) }
	p, q, k := whole(), whole(), float64(1+r.IntN(1<<10))
	return block{at(p, q), at(p-k*q, q+k*p), at(-k*q, k*p), mixed(r, 0, 0), mixed(r, 0, 0)}
}

// uprightBlock is one along the axes, so that half of the differences from a point near 0 lose nothing.
func uprightBlock(r *rand.Rand) block {
	x, y := mixed(r, 20, 30), mixed(r, 20, 30)
	return block{at(x, 0), at(x, y), at(0, y), mixed(r, 0, 0), mixed(r, 0, 0)}
}

// around0 are points that go from a corner of a rectangle just as far as tails decide, or a step less or more.
func around0(b block) []four {
	decided := func(far int) bool {
		v, _ := sign(b.gone(value(far)))
		return v.Stage == api.StageTails
	}
	low, high := of(0x1p-145), of(0x1p-38)
	if !decided(high) {
		return nil
	}
	for high-low > 1 {
		if middle := low + (high-low)/2; decided(middle) {
			high = middle
		} else {
			low = middle
		}
	}
	var l []four
	for far := low - 2; far <= high+2; far++ {
		l = append(l, b.gone(value(far)))
	}
	return l
}

// cancelled are points whose heads and tails have values that leave just about the bound of tails of each other: corners of a rectangle of 53 bits, one of them moved by a few steps, and a fourth point so far from 0 that this makes good for it.
func cancelled(r *rand.Rand) four {
	whole := func() float64 { return float64(1<<51+r.IntN(1<<51)) * float64(1-2*r.IntN(2)) }
	step := func() float64 { return float64(r.IntN(5) - 2) }
	p, q := whole(), whole()
	b := block{at(p, q), at(p-q, p+q), at(-q+step(), p+step()), r.Float64(), r.Float64()}
	value := func(far float64) (heads, tails float64) {
		f := b.gone(far)
		x, y, z := rowOf(f[0], f[3]), rowOf(f[1], f[3]), rowOf(f[2], f[3])
		heads, _ = headsOf(x, y, z).Float64()
		tails, _ = add(add(tailOf(x, y, z), tailOf(y, z, x)), tailOf(z, x, y)).Float64()
		return heads, tails
	}
	heads, _ := value(0)
	_, tails := value(0x1p-4)
	far := -heads / tails * 0x1p-4 * (1 + 0x1p-44*(2*r.Float64()-1))
	if math.Abs(far) > 0.5 || tails == 0 {
		far = r.Float64()
	}
	return b.gone(far)
}

// lastBits are points where the last bits of K would turn the bound of tails around their value.
func lastBits() []four {
	var l []four
	for _, x := range [][4]float64{
		{0x1.05e949affd54ap0, 0x1.b57eaab2e68f7p2, 0x1.ba20b5f5fb9dcp-55, -0x1.f3dd0189ff089p-54},
		{0x1.1899832b878cap0, 0x1.ec1fcf06cc664p2, 0x1.63eb9189b4a1ep-55, -0x1.f6f7ba3e58f5bp-54},
		{0x1.032f78c39418ap0, 0x1.ba478be5f28acp2, 0x1.a93d5b88e77c2p-55, -0x1.ea793acc4b7aep-54},
		{0x1.0e2596f3bd29ep0, 0x1.ffd768ef239aep2, 0x1.9b58dd2af459cp-55, -0x1.a0f0c1ee1d863p-54},
		{0x1.186354139bf9ep0, 0x1.c2030ff9072fep2, 0x1.f478d68d4c902p-55, -0x1.f98146f60adb2p-54},
		{0x1.01f0e43e73e1ep0, 0x1.bc7f5bebc72c9p2, 0x1.d446adbca333cp-55, -0x1.ccec30a3f7da7p-54},
	} {
		l = append(l, four{at(0x1p140, 0), at(x[0], x[0]), at(x[1], x[1]+0x1p-50), at(x[2], x[3])})
	}
	return l
}
