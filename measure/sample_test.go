package measure

import (
	"math"
	"math/big"
	"math/rand/v2"
	"slices"

	"plumb/api"
)

const (
	minus0 = math.MinInt
	top    = math.MaxFloat64
)

type rng = rand.Rand

func of(f float64) int     { return int(math.Float64bits(f)) }
func value(b int) float64  { return math.Float64frombits(uint64(b)) }
func seeded(n uint64) *rng { return rand.New(rand.NewPCG(n, 13)) }

func at(x, y float64) api.Point { return api.Point{X: of(x), Y: of(y)} }

// points are those that a call takes.
type points []api.Point

// flat are all coordinates, the first point's first.
func (l points) flat() []int {
	var c []int
	for _, p := range l {
		c = append(c, p.X, p.Y)
	}
	return c
}

func fromFlat(c []int) points {
	var l points
	for c := range slices.Chunk(c, 2) {
		l = append(l, api.Point{X: c[0], Y: c[1]})
	}
	return l
}

// finite tells whether all are points.
func (l points) finite() bool {
	return !slices.ContainsFunc(l.flat(), func(b int) bool { return b&api.Inf == api.Inf })
}

// moved are the points with each coordinate moved by a few of the least steps.
func (l points) moved(r *rng, steps int) points {
	c := l.flat()
	for i := range c {
		c[i] += r.IntN(2*steps+1) - steps
	}
	return fromFlat(c)
}

// scaled are the points with all coordinates times 2^k; false: that loses something.
func (l points) scaled(k int) (points, bool) {
	kept := true
	c := l.flat()
	for i, b := range c {
		g, lies := new(big.Float).SetMantExp(big.NewFloat(value(b)), k).Float64()
		kept = kept && lies == big.Exact
		c[i] = of(g)
	}
	return fromFlat(c), kept && fromFlat(c).finite()
}

// edges are coordinates at the edges of what is finite and of what is tame, and ordinary ones, with both signs.
func edges() []float64 {
	l := []float64{0, 0x1p-1074, 0x1p-1022, 0x1p-600, math.Nextafter(0x1p-150, 0), 0x1p-150, math.Nextafter(0x1p-150, 1), 0.5, 1, 1 + 0x1p-52, 2, 3, math.Nextafter(0x1p150, 0), 0x1p150, 0x1p600, 0x1p1023, top}
	for _, f := range slices.Clone(l) {
		l = append(l, -f)
	}
	return l
}

// tameEdges are those among them that are tame.
func tameEdges() []float64 {
	return slices.DeleteFunc(edges(), func(f float64) bool { return !isTame(of(f)) })
}

// mixed is a float with an exponent between two, of mixed bits or of few.
func mixed(r *rng, low, high int) float64 {
	m := 1<<52 | r.IntN(1<<52)
	if r.IntN(3) == 0 {
		m = m >> 44 << 44
	}
	return math.Ldexp(float64(m), low+r.IntN(high-low+1)-52) * float64(1-2*r.IntN(2))
}

// drawn are points with exponents between two.
func drawn(r *rng, count, low, high int) points {
	var l points
	for range count {
		l = append(l, at(mixed(r, low, high), mixed(r, low, high)))
	}
	return l
}

// twice are points of which two are one.
func twice(r *rng, count, low, high int) points {
	l := drawn(r, count, low, high)
	i := r.IntN(count)
	l[i] = l[(i+1+r.IntN(count-1))%count]
	return l
}

// once are points that are all one.
func once(r *rng, count, low, high int) points {
	return slices.Repeat(drawn(r, 1, low, high), count)
}

// turned is a way in the plane as far as another one: mirrored and with its axes exchanged, which loses nothing, as 5 is as far as 3 and 4, or turned by any angle.
func turned(r *rng, x, y float64) (float64, float64) {
	side := func() float64 { return float64(1 - 2*r.IntN(2)) }
	switch r.IntN(4) {
	case 0:
		return x * side(), y * side()
	case 1:
		return y * side(), x * side()
	case 2:
		return 0.6*x + 0.8*y, 0.8*x - 0.6*y
	}
	s, c := math.Sincos(r.Float64() * 2 * math.Pi)
	return float64(c*x) - float64(s*y), float64(s*x) + float64(c*y)
}

// from is the place that lies so far from another one, but for rounding.
func from(p api.Point, x, y float64) api.Point { return at(value(p.X)+x, value(p.Y)+y) }

// start is the place from which a way goes: mostly not the origin, so that rounding has its part.
func start(r *rng, low, high int) api.Point {
	if r.IntN(3) == 0 {
		return at(0, 0)
	}
	return drawn(r, 1, low, high)[0]
}

// equalWays are two equal distances.
func equalWays(r *rng, low, high int) points {
	x, y := mixed(r, low, high), mixed(r, low, high)
	if r.IntN(4) == 0 { // so that distances can be equal exactly
		unit := math.Ldexp(float64(r.IntN(1000)+1), low)
		x, y = 5*unit*float64(r.IntN(9)), 5*unit*float64(r.IntN(9))
	}
	z, w := turned(r, x, y)
	a, c := start(r, low, high), start(r, low, high)
	l := points{a, from(a, x, y), c, from(c, z, w)}
	if r.IntN(2) == 0 {
		l[0], l[1] = l[1], l[0]
	}
	if r.IntN(2) == 0 {
		l = points{l[2], l[3], l[0], l[1]}
	}
	return l
}

// rightAngle are points with a right angle at the second one.
func rightAngle(r *rng, low, high int) points {
	x, y := mixed(r, low, high), mixed(r, low, high)
	k := []float64{1, 2, -1, 0.25, -3, r.Float64(), 0x1p-40}[r.IntN(7)]
	b := start(r, low, high)
	return points{from(b, x, y), b, from(b, -k*y, k*x)}
}

// ranges are the least and the greatest exponents of coordinates: of ordinary ones, of tame ones up to the ends, and of wild ones.
func ranges() [][2]int {
	return [][2]int{{0, 0}, {-2, 2}, {-30, 30}, {-149, 149}, {-149, -145}, {145, 148}, {-160, -140}, {140, 160}, {-1074, 1023}, {-1074, -1000}, {1000, 1022}, {-560, -500}, {480, 520}}
}

// samples are points of all stages: the value far from 0, near it and 0, tame and wild, and of the edges.
func samples(seed uint64, a asked) []points {
	r := seeded(seed)
	var l []points
	put := func(p points) {
		if p.finite() {
			l = append(l, p)
		}
	}
	for _, e := range ranges() {
		for range 100 {
			put(drawn(r, a.count, e[0], e[1]))
			put(twice(r, a.count, e[0], e[1]))
			put(once(r, a.count, e[0], e[1]))
			for _, high := range e {
				p := a.level(r, e[0], high)
				put(p)
				for _, steps := range []int{1, 8, 40} {
					put(p.moved(r, steps))
				}
			}
		}
	}
	for _, ends := range [][]float64{edges(), tameEdges(), {0, 0x1p-150, -0x1p-150, 0x1.8p-150, 0x1p-149}} {
		one := func() float64 { return ends[r.IntN(len(ends))] }
		for range 1500 {
			put(gridded(a.count, one))
		}
	}
	for _, grid := range []float64{1, 0.1, 0x1p40 + 1, 0x1.3c7ap-150} {
		one := func() float64 { return grid * float64(r.IntN(11)-5) }
		for range 500 {
			put(gridded(a.count, one))
		}
	}
	return append(l, a.bounds(r)...)
}

// gridded are points whose coordinates are told one by one.
func gridded(count int, one func() float64) points {
	var l points
	for range count {
		l = append(l, at(one(), one()))
	}
	return l
}

// bounds are points whose values lie about the filter's bound: one coordinate goes up step by step until the filter decides, by the chapter's words alone, and a few steps on.
func (a asked) bounds(r *rng) []points {
	var l []points
	for range 300 {
		low := []int{0, 0, 100, -149}[r.IntN(4)]
		c := a.level(r, low, low).flat()
		i, behind := r.IntN(len(c)), 0
		for range 200 {
			p := fromFlat(slices.Clone(c))
			l = append(l, p)
			if D, S := a.filter(p); abs(D).Cmp(mul(constant(0x1p-49), S)) > 0 {
				behind++
			}
			if behind == 4 {
				break
			}
			c[i]++
		}
	}
	return slices.DeleteFunc(l, func(p points) bool { return !p.finite() })
}
