package solid

import (
	"math"
	"math/big"
	"math/rand/v2"
	"slices"

	"plumb/api"
)

const (
	minus0 = math.MinInt
	top    = math.MaxFloat64
)

func of(f float64) int           { return int(math.Float64bits(f)) }
func value(b int) float64        { return math.Float64frombits(uint64(b)) }
func seeded(n uint64) *rand.Rand { return rand.New(rand.NewPCG(n, 12)) }

func at(x, y, z float64) api.Space { return api.Space{X: of(x), Y: of(y), Z: of(z)} }

// places are those that a call takes.
type places []api.Space

// flat are all coordinates, the first place's first.
func (l places) flat() []int {
	var c []int
	for _, p := range l {
		c = append(c, p.X, p.Y, p.Z)
	}
	return c
}

func fromFlat(c []int) places {
	var l places
	for c := range slices.Chunk(c, 3) {
		l = append(l, api.Space{X: c[0], Y: c[1], Z: c[2]})
	}
	return l
}

// finite tells whether all are places.
func (l places) finite() bool {
	return !slices.ContainsFunc(l.flat(), func(b int) bool { return b&api.Inf == api.Inf })
}

// moved are the places with each coordinate moved by a few of the least steps.
func (l places) moved(r *rand.Rand, steps int) places {
	c := l.flat()
	for i := range c {
		c[i] += r.IntN(2*steps+1) - steps
	}
	return fromFlat(c)
}

// scaled are the places with all coordinates times 2^k; false: that loses something.
func (l places) scaled(k int) (places, bool) {
	kept := true
	c := l.flat()
	for i, b := range c {
		g, lies := new(big.Float).SetMantExp(big.NewFloat(value(b)), k).Float64()
		kept = kept && lies == big.Exact
		c[i] = of(g)
	}
	return fromFlat(c), kept
}

// order is one of the orders of so many places, and the sign that exchanges up to it make of 1.
type order struct {
	at   []int
	sign int
}

func (o order) of(l places) places {
	var m places
	for _, i := range o.at {
		m = append(m, l[i])
	}
	return m
}

// orders are all of them: the last place is put ahead of each number of the others, and each such step back is an exchange.
func orders(count int) []order {
	if count == 0 {
		return []order{{nil, 1}}
	}
	var l []order
	for _, o := range orders(count - 1) {
		sign := o.sign
		for i := count - 1; i >= 0; i-- {
			l = append(l, order{slices.Insert(slices.Clone(o.at), i, count-1), sign})
			sign = -sign
		}
	}
	return l
}

// edges are coordinates at the edges of what is finite and of what is tame, and ordinary ones, with both signs.
func edges() []float64 {
	l := []float64{0, 0x1p-1074, 0x1p-1022, 0x1p-600, math.Nextafter(0x1p-150, 0), 0x1p-150, math.Nextafter(0x1p-150, 1), 0.5, 1, 1 + 0x1p-52, 2, 3, math.Nextafter(0x1p150, 0), 0x1p150, 0x1p600, 0x1p1023, top}
	for _, f := range slices.Clone(l) {
		l = append(l, -f)
	}
	return l
}

// tameEdges are those among them that are tame.
func tameEdges() []float64 {
	return slices.DeleteFunc(edges(), func(f float64) bool { return !isTame(of(f)) })
}

// mixed is a float with an exponent between two, of mixed bits or of few.
func mixed(r *rand.Rand, low, high int) float64 {
	m := 1<<52 | r.IntN(1<<52)
	if r.IntN(3) == 0 {
		m = m >> 44 << 44
	}
	return math.Ldexp(float64(m), low+r.IntN(high-low+1)-52) * float64(1-2*r.IntN(2))
}

// some are so many places of a kind.
func some(count int, p func() api.Space) places {
	var l places
	for range count {
		l = append(l, p())
	}
	return l
}

// drawn are places with exponents between two.
func drawn(r *rand.Rand, count, low, high int) places {
	return some(count, func() api.Space { return at(mixed(r, low, high), mixed(r, low, high), mixed(r, low, high)) })
}

// onPlane are places on one plane, or on one line, but for their rounding.
func onPlane(r *rand.Rand, count, low, high int) places {
	k := low + r.IntN(high-low+1)
	f := drawn(r, 3, 0, 3).flat()
	steps := func() float64 { return float64(r.IntN(9) - 4) }
	if r.IntN(2) == 0 {
		steps = func() float64 { return 2*r.Float64() - 1 }
	}
	return some(count, func() api.Space {
		s, t := steps(), steps()
		if r.IntN(4) == 0 {
			t = 0
		}
		c := func(i int) float64 {
			return math.Ldexp(value(f[i])+float64(s*value(f[i+3]))+float64(t*value(f[i+6])), k-4)
		}
		return at(c(0), c(1), c(2))
	})
}

// onSphere are places on one sphere but for their rounding.
func onSphere(r *rand.Rand, count, low, high int) places {
	k := low + r.IntN(high-low+1)
	x, y, z, radius := r.Float64()*2-1, r.Float64()*2-1, r.Float64()*2-1, r.Float64()
	if r.IntN(2) == 0 {
		x, y, z = 0, 0, 0
	}
	return some(count, func() api.Space {
		s, c := math.Sincos(r.Float64() * 2 * math.Pi)
		h := r.Float64()*2 - 1
		w := radius * math.Sqrt(1-float64(h*h))
		return at(math.Ldexp(x+float64(w*c), k), math.Ldexp(y+float64(w*s), k), math.Ldexp(z+float64(radius*h), k))
	})
}

// corners are those of a box along the axes: they lie on one sphere, whatever the sides are, and many four of them on one plane.
func corners(r *rand.Rand, count, low, high int) places {
	var x [3][2]float64
	for i := range x {
		x[i] = [2]float64{mixed(r, low, high), mixed(r, low, high)}
	}
	l := some(8, func() api.Space { return api.Space{} })
	for i := range l {
		l[i] = at(x[0][i&1], x[1][i>>1&1], x[2][i>>2])
	}
	r.Shuffle(len(l), func(i, k int) { l[i], l[k] = l[k], l[i] })
	return l[:count]
}

// twice are places of which two are one.
func twice(r *rand.Rand, count, low, high int) places {
	l := drawn(r, count, low, high)
	i := r.IntN(count)
	l[i] = l[(i+1+r.IntN(count-1))%count]
	return l
}

// ranges are the least and the greatest exponents of coordinates: of ordinary ones, of tame ones up to the ends, and of wild ones.
func ranges() [][2]int {
	return [][2]int{{0, 0}, {-2, 2}, {-30, 30}, {-149, 149}, {-149, -145}, {145, 149}, {-160, -140}, {140, 160}, {-1074, 1023}, {-1074, -1000}, {1000, 1023}, {-230, -190}, {190, 210}}
}

// samples are places of all stages, so many at a time: far from planes and spheres, on them and near them, tame and wild, and of the edges.
func samples(seed uint64, a asked) []places {
	r := seeded(seed)
	all := orders(a.count)
	var l []places
	put := func(p places) {
		if p.finite() {
			l = append(l, all[r.IntN(len(all))].of(p))
		}
	}
	for _, e := range ranges() {
		for range 10 {
			for _, make := range []func(r *rand.Rand, count, low, high int) places{drawn, onPlane, onSphere, corners, twice} {
				p := make(r, a.count, e[0], e[1])
				put(p)
				put(p.moved(r, 1))
				put(p.moved(r, 1000))
				put(make(r, a.count, e[0], e[0]))
			}
		}
	}
	for i, ends := range [][]float64{edges(), tameEdges(), {0, 0x1p-150, -0x1p-150, 0x1.8p-150, 0x1p-149}} {
		one := func() float64 { return ends[r.IntN(len(ends))] }
		for range 500 * (i%2 + 1) {
			put(some(a.count, func() api.Space { return at(one(), one(), one()) }))
		}
	}
	for _, grid := range []float64{1, 0.1, 0x1p40 + 1, 0x1.3c7ap-150} {
		one := func() float64 { return grid * float64(r.IntN(5)-2) }
		for range 150 {
			put(some(a.count, func() api.Space { return at(one(), one(), one()) }))
		}
	}
	return append(l, a.bounds()...)
}
