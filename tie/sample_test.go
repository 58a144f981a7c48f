package tie

import (
	"math"
	"math/big"
	"math/rand/v2"

	"plumb/api"
)

func seeded(n uint64) *rand.Rand { return rand.New(rand.NewPCG(n, 14)) }

// good tells whether all four are points.
func good(f four) bool {
	for _, b := range coordinates(f) {
		if b&api.Inf == api.Inf {
			return false
		}
	}
	return true
}

// scaled are the points with all coordinates times 2^k; false: that loses something.
func scaled(f four, k int) (four, bool) {
	kept := true
	c := coordinates(f)
	for i, b := range c {
		g, lies := new(big.Float).SetMantExp(big.NewFloat(value(b)), k).Float64()
		kept = kept && lies == big.Exact
		c[i] = of(g)
	}
	return fromCoordinates(c), kept
}

// shifted are the points with one number added to all x, another to all y; false: that loses something.
func shifted(f four, x, y float64) (four, bool) {
	kept := true
	c := coordinates(f)
	for i, b := range c {
		sum := new(big.Float).SetPrec(2200)
		g, lies := sum.Add(sum.SetFloat64(value(b)), big.NewFloat([2]float64{x, y}[i%2])).Float64()
		kept = kept && lies == big.Exact
		c[i] = of(g)
	}
	return fromCoordinates(c), kept
}

// mixed is a float with an exponent between two, of mixed bits or of few.
func mixed(r *rand.Rand, low, high int) float64 {
	m := 1<<52 | r.IntN(1<<52)
	if r.IntN(3) == 0 {
		m = m >> 44 << 44
	}
	return math.Ldexp(float64(m), low+r.IntN(high-low+1)-52) * float64(1-2*r.IntN(2))
}

// drawn are four points with exponents between two.
func drawn(r *rand.Rand, low, high int) four {
	p := func() api.Point { return at(mixed(r, low, high), mixed(r, low, high)) }
	return four{p(), p(), p(), p()}
}

// moved are the points with each coordinate moved by a step or not.
func moved(r *rand.Rand, f four) four {
	c := coordinates(f)
	for i := range c {
		c[i] += r.IntN(3) - 1
	}
	return fromCoordinates(c)
}

// nearly are four points that lie on one circle but for their rounding.
func nearly(r *rand.Rand, low, high int) four {
	k := low + r.IntN(high-low+1)
	x, y, radius := r.Float64()*2-1, r.Float64()*2-1, r.Float64()
	p := func() api.Point {
		s, c := math.Sincos(r.Float64() * 2 * math.Pi)
		return at(math.Ldexp(x+radius*c, k), math.Ldexp(y+radius*s, k))
	}
	return four{p(), p(), p(), p()}
}

// upright are the corners of a rectangle along the axes: they lie on one circle, whatever the sides are.
func upright(r *rand.Rand, low, high int) four {
	x, y, z, w := mixed(r, low, high), mixed(r, low, high), mixed(r, low, high), mixed(r, low, high)
	return four{at(x, y), at(z, y), at(z, w), at(x, w)}
}

// onLine are four points of which many lie on one line, and some are one place.
func onLine(r *rand.Rand, low, high int) four {
	x, y := mixed(r, low, low), mixed(r, low, low)
	p := func() api.Point {
		k := float64(r.IntN(13) - 6)
		return at(math.Ldexp(k*x, high-low), math.Ldexp(k*y, high-low))
	}
	return four{p(), p(), p(), p()}
}

// twin are four points of which two are one place, told with noughts of either sign.
func twin(r *rand.Rand, low, high int) four {
	f := drawn(r, low, high)
	if r.IntN(2) == 0 {
		f[1].X = 0
	}
	f[0] = f[1]
	if value(f[0].X) == 0 && r.IntN(2) == 0 {
		f[0].X = minus0
	}
	return f
}

// slanted are the corners of a rectangle on whole numbers of so many bits; one of them may lie a step beside it.
func slanted(r *rand.Rand, size int) four {
	whole := func() float64 { return float64(r.IntN(1<<size) - 1<<size/2) }
	x, y, p, q, k := whole(), whole(), whole(), whole(), float64(1+r.IntN(3))
	beside := float64(r.IntN(3) / 2)
	return four{at(x, y), at(x+p, y+q), at(x+p-k*q, y+q+k*p), at(x-k*q+beside, y+k*p)}
}

// trapezoid are the corners of one with equal legs, on whole numbers, upright or level: they lie on one circle, and the least and the greatest one may lie next to each other.
func trapezoid(r *rand.Rand, size int) four {
	p, q, h := float64(1+r.IntN(1<<size)), float64(1+r.IntN(1<<size)), float64(1+r.IntN(1<<size))
	if r.IntN(2) == 0 {
		return four{at(-p, 0), at(p, 0), at(q, h), at(-q, h)}
	}
	return four{at(0, -p), at(0, p), at(h, q), at(h, -q)}
}

// samples are points of all stages, most of them on one circle or near it, tame and wild, in all orders.
func samples(seed uint64) []four {
	r := seeded(seed)
	all := orders()
	var l []four
	put := func(f four) {
		if good(f) {
			l = append(l, all[r.IntN(len(all))].of(f))
		}
	}
	for _, e := range [][2]int{{0, 0}, {-2, 2}, {-30, 30}, {-149, 149}, {-149, -145}, {145, 149}, {-160, -140}, {140, 160}, {-1074, 1023}, {-1074, -1000}, {1000, 1023}} {
		for range 12 {
			for _, make := range []func(r *rand.Rand, low, high int) four{drawn, nearly, upright, onLine, twin} {
				f := make(r, e[0], e[1])
				put(f)
				put(moved(r, f))
				put(make(r, e[0], e[0]))
			}
		}
	}
	for size := 2; size < 40; size++ {
		for range 20 {
			for _, f := range []four{slanted(r, size), trapezoid(r, size)} {
				put(f)
				if f, ok := scaled(f, r.IntN(1800)-900); ok {
					put(f)
				}
			}
		}
	}
	for range 150 { // next to a tie, by less than what the stages of single operations see
		put(four{at(1, 1), at(0, 2), at(-1, 1), at(0, mixed(r, -120, -95))})
	}
	ends := []float64{0, tiny, 0x1p-1022, math.Nextafter(0x1p-150, 0), 0x1p-150, 1, 1 + 0x1p-52, 3, math.Nextafter(0x1p150, 0), 0x1p150, 0x1p1023, top}
	one := func() float64 { return ends[r.IntN(len(ends))] * float64(1-2*r.IntN(2)) }
	for range 500 {
		x, y, z, w := one(), one(), one(), one()
		put(four{at(x, y), at(z, y), at(z, w), at(x, w)})
		put(four{at(one(), one()), at(one(), one()), at(one(), one()), at(one(), one())})
		put(four{at(x, 3), at(y, 3), at(z, 3), at(w, 3)})
		put(four{at(x, x), at(y, y), at(z, z), at(w, w)})
	}
	for range 300 {
		p := func() api.Point { return at(0.1*float64(r.IntN(5)), 0.1*float64(r.IntN(5))) }
		put(four{p(), p(), p(), p()})
	}
	return l
}
