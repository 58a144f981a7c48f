package circle

import (
	"math"
	"math/big"
	"math/rand/v2"

	"plumb/api"
)

const (
	minus0 = math.MinInt
	top    = math.MaxFloat64
)

func of(f float64) int           { return int(math.Float64bits(f)) }
func value(b int) float64        { return math.Float64frombits(uint64(b)) }
func seeded(n uint64) *rand.Rand { return rand.New(rand.NewPCG(n, 11)) }

func at(x, y float64) api.Point { return api.Point{X: of(x), Y: of(y)} }

func sign(f four) (api.Verdict, api.Errno) { return Sign(f[0], f[1], f[2], f[3]) }

func exactOf(f four) (api.Num, api.Errno) { return Exact(f[0], f[1], f[2], f[3]) }

// coordinates are the eight of them, a's first.
func coordinates(f four) [8]int {
	return [8]int{f[0].X, f[0].Y, f[1].X, f[1].Y, f[2].X, f[2].Y, f[3].X, f[3].Y}
}

func fromCoordinates(c [8]int) four {
	return four{{X: c[0], Y: c[1]}, {X: c[2], Y: c[3]}, {X: c[4], Y: c[5]}, {X: c[6], Y: c[7]}}
}

// exactly is P1101's number, by whole numbers in units of 2^-4296 read from the bits: no float is looked at.
func exactly(f four) *big.Int {
	less := func(p, q int) *big.Int { return new(big.Int).Sub(units(p), units(q)) }
	times := func(p, q *big.Int) *big.Int { return new(big.Int).Mul(p, q) }
	var x, y, lift [3]*big.Int
	for i := range 3 {
		x[i], y[i] = less(f[i].X, f[3].X), less(f[i].Y, f[3].Y)
		lift[i] = new(big.Int).Add(times(x[i], x[i]), times(y[i], y[i]))
	}
	minor := func(i, k int) *big.Int { return new(big.Int).Sub(times(x[i], y[k]), times(x[k], y[i])) }
	n := times(lift[0], minor(1, 2))
	n.Add(n, times(lift[1], minor(2, 0)))
	return n.Add(n, times(lift[2], minor(0, 1)))
}

// units is the value of bits in units of 2^-1074.
func units(b int) *big.Int {
	mag, exp := b&(1<<52-1), b>>52&0x7FF
	if exp > 0 {
		mag |= 1 << 52
		exp--
	}
	n := new(big.Int).Lsh(big.NewInt(int64(mag)), uint(exp))
	if b < 0 {
		n.Neg(n)
	}
	return n
}

// num is the Num of a whole number of units of 2^-4296.
func num(n *big.Int) api.Num {
	if n.Sign() == 0 {
		return api.Num{}
	}
	low := n.TrailingZeroBits()
	x := api.Num{Neg: n.Sign() < 0, Exp: int(low) - 4296}
	m := new(big.Int).Abs(n)
	for m.Rsh(m, low); m.Sign() > 0; m.Rsh(m, 30) {
		x.Mag = append(x.Mag, int(m.Uint64()&(1<<30-1)))
	}
	return x
}

// order is one of the 24 orders of four points, and the sign that exchanges up to it make of 1.
type order struct {
	at   [4]int
	sign int
}

func (o order) of(f four) four { return four{f[o.at[0]], f[o.at[1]], f[o.at[2]], f[o.at[3]]} }

func orders() []order {
	var l []order
	for n := range 256 {
		o := order{[4]int{n & 3, n >> 2 & 3, n >> 4 & 3, n >> 6}, 1}
		for i := range 4 {
			for k := range i {
				switch {
				case o.at[i] == o.at[k]:
					o.sign = 0
				case o.at[i] < o.at[k]:
					o.sign = -o.sign
				}
			}
		}
		if o.sign != 0 {
			l = append(l, o)
		}
	}
	return l
}

// good tells whether all four are points.
func good(f four) bool {
	for _, b := range coordinates(f) {
		if b&api.Inf == api.Inf {
			return false
		}
	}
	return true
}

// scaled are the points with all coordinates times 2^k; false: that loses something.
func scaled(f four, k int) (four, bool) {
	kept := true
	c := coordinates(f)
	for i, b := range c {
		g, lies := new(big.Float).SetMantExp(big.NewFloat(value(b)), k).Float64()
		kept = kept && lies == big.Exact
		c[i] = of(g)
	}
	return fromCoordinates(c), kept
}

// edges are coordinates at the edges of what is finite and of what is tame, and ordinary ones, with both signs.
func edges() []float64 {
	l := []float64{0, 0x1p-1074, 0x1p-1022, 0x1p-600, math.Nextafter(0x1p-150, 0), 0x1p-150, math.Nextafter(0x1p-150, 1), 0.5, 1, 1 + 0x1p-52, 2, 3, math.Nextafter(0x1p150, 0), 0x1p150, 0x1p600, 0x1p1023, top}
	for _, f := range l[:len(l):len(l)] {
		l = append(l, -f)
	}
	return l
}

// mixed is a float with an exponent between two, of mixed bits or of few.
func mixed(r *rand.Rand, low, high int) float64 {
	m := 1<<52 | r.IntN(1<<52)
	if r.IntN(3) == 0 {
		m = m >> 44 << 44
	}
	return math.Ldexp(float64(m), low+r.IntN(high-low+1)-52) * float64(1-2*r.IntN(2))
}

// drawn are four points with exponents between two.
func drawn(r *rand.Rand, low, high int) four {
	p := func() api.Point { return at(mixed(r, low, high), mixed(r, low, high)) }
	return four{p(), p(), p(), p()}
}

// moved are the points with each coordinate moved by a few of the least steps.
func moved(r *rand.Rand, f four, steps int) four {
	c := coordinates(f)
	for i := range c {
		c[i] += r.IntN(2*steps+1) - steps
	}
	return fromCoordinates(c)
}

// nearly are four points that lie on one circle but for their rounding.
func nearly(r *rand.Rand, low, high int) four {
	k := low + r.IntN(high-low+1)
	x, y, radius := r.Float64()*2-1, r.Float64()*2-1, r.Float64()
	if r.IntN(2) == 0 {
		x, y = 0, 0
	}
	p := func() api.Point {
		s, c := math.Sincos(r.Float64() * 2 * math.Pi)
		return at(math.Ldexp(x+radius*c, k), math.Ldexp(y+radius*s, k))
	}
	return four{p(), p(), p(), p()}
}

// upright are the corners of a rectangle along the axes: they lie on one circle, whatever the sides are.
func upright(r *rand.Rand, low, high int) four {
	x, y, z, w := mixed(r, low, high), mixed(r, low, high), mixed(r, low, high), mixed(r, low, high)
	return four{at(x, y), at(z, y), at(z, w), at(x, w)}
}

// slanted are the corners of a rectangle on whole numbers of so many bits; one of them may lie a step beside it.
func slanted(r *rand.Rand, size int) four {
	whole := func() float64 { return float64(r.IntN(1<<size) - 1<<size/2) }
	x, y, p, q, k := whole(), whole(), whole(), whole(), float64(1+r.IntN(3))
	beside := float64(r.IntN(3) - 1)
	return four{at(x, y), at(x+p, y+q), at(x+p-k*q, y+q+k*p), at(x-k*q+beside, y+k*p)}
}

// tall are the corners of a trapezoid on whole numbers, of few bits in one direction and of many in the other: they lie on one circle.
func tall(r *rand.Rand, size int) four {
	p, q, h := float64(1+r.IntN(40)), float64(1+r.IntN(40)), float64(1+r.IntN(1<<size))
	f := four{at(-p, 0), at(p, 0), at(q, h), at(-q, h)}
	if r.IntN(2) == 0 {
		return exchanged(f)
	}
	return f
}

// exchanged are the points with x for y.
func exchanged(f four) four {
	for i, p := range f {
		f[i] = api.Point{X: p.Y, Y: p.X}
	}
	return f
}

// onLine are four points of which many lie on one line.
func onLine(r *rand.Rand, low, high int) four {
	x, y := mixed(r, low, low), mixed(r, low, low)
	p := func() api.Point {
		k := float64(r.IntN(9) - 4)
		return at(math.Ldexp(k*x, high-low), math.Ldexp(k*y, high-low))
	}
	return four{p(), p(), p(), p()}
}

// ranges are the least and the greatest exponents of coordinates: of ordinary ones, of tame ones up to the ends, and of wild ones.
func ranges() [][2]int {
	return [][2]int{{0, 0}, {-2, 2}, {-30, 30}, {-149, 149}, {-149, -145}, {145, 149}, {-160, -140}, {140, 160}, {-1074, 1023}, {-1074, -1000}, {1000, 1023}, {-300, -250}, {240, 270}}
}

// samples are points of all stages: far from a circle and near it, tame and wild, and of the edges.
func samples(seed uint64) []four {
	r := seeded(seed)
	all := orders()
	var l []four
	put := func(f four) {
		if good(f) {
			l = append(l, all[r.IntN(len(all))].of(f))
		}
	}
	for _, e := range ranges() {
		for range 40 {
			put(drawn(r, e[0], e[1]))
			for _, make := range []func(r *rand.Rand, low, high int) four{nearly, upright, onLine} {
				f := make(r, e[0], e[1])
				put(f)
				put(moved(r, f, 1))
				put(moved(r, f, 1000))
				put(make(r, e[0], e[0]))
			}
		}
	}
	for size := 2; size < 40; size++ {
		for range 30 {
			put(slanted(r, size))
			put(tall(r, size))
		}
	}
	ends := edges()
	one := func() float64 { return ends[r.IntN(len(ends))] }
	for range 3000 {
		put(four{at(one(), one()), at(one(), one()), at(one(), one()), at(one(), one())})
	}
	for range 500 {
		p := func() api.Point { return at(0.1*float64(r.IntN(5)), 0.1*float64(r.IntN(5))) }
		put(four{p(), p(), p(), p()})
	}
	return append(l, bounds()...)
}
