package orient

import (
	"math"
	"math/big"
	"math/rand/v2"

	"plumb/api"
)

const (
	minus0 = math.MinInt
	top    = math.MaxFloat64
)

func of(f float64) int           { return int(math.Float64bits(f)) }
func value(b int) float64        { return math.Float64frombits(uint64(b)) }
func seeded(n uint64) *rand.Rand { return rand.New(rand.NewPCG(n, 10)) }

func at(x, y float64) api.Point { return api.Point{X: of(x), Y: of(y)} }

// three are the points that a call takes.
type three struct{ a, b, c api.Point }

// coordinates are the six of them, a's first.
func (t three) coordinates() [6]int { return [6]int{t.a.X, t.a.Y, t.b.X, t.b.Y, t.c.X, t.c.Y} }

// exactly is P1001's number, by whole numbers in units of 2^-2148 read from the bits: no float is looked at.
func exactly(t three) *big.Int {
	minus := func(p, q int) *big.Int { return new(big.Int).Sub(units(p), units(q)) }
	left := new(big.Int).Mul(minus(t.a.X, t.c.X), minus(t.b.Y, t.c.Y))
	right := new(big.Int).Mul(minus(t.a.Y, t.c.Y), minus(t.b.X, t.c.X))
	return left.Sub(left, right)
}

// units is the value of bits in units of 2^-1074.
func units(b int) *big.Int {
	mag, exp := b&(1<<52-1), b>>52&0x7FF
	if exp > 0 {
		mag |= 1 << 52
		exp--
	}
	n := new(big.Int).Lsh(big.NewInt(int64(mag)), uint(exp))
	if b < 0 {
		n.Neg(n)
	}
	return n
}

// num is the Num of a whole number of units of 2^-2148.
func num(n *big.Int) api.Num {
	if n.Sign() == 0 {
		return api.Num{}
	}
	low := n.TrailingZeroBits()
	x := api.Num{Neg: n.Sign() < 0, Exp: int(low) - 2148}
	m := new(big.Int).Abs(n)
	for m.Rsh(m, low); m.Sign() > 0; m.Rsh(m, 30) {
		x.Mag = append(x.Mag, int(m.Uint64()&(1<<30-1)))
	}
	return x
}

// edges are coordinates at the edges of what is finite and of what is tame, and ordinary ones, with both signs.
func edges() []float64 {
	l := []float64{0, 0x1p-1074, 0x1p-1022, 0x1p-600, math.Nextafter(0x1p-150, 0), 0x1p-150, math.Nextafter(0x1p-150, 1), 0.5, 1, 1 + 0x1p-52, 2, 3, math.Nextafter(0x1p150, 0), 0x1p150, 0x1p600, 0x1p1023, top}
	for _, f := range l[:len(l):len(l)] {
		l = append(l, -f)
	}
	return l
}

// mixed is a float with an exponent between two, of mixed bits or of few.
func mixed(r *rand.Rand, low, high int) float64 {
	m := 1<<52 | r.IntN(1<<52)
	if r.IntN(3) == 0 {
		m = m >> 44 << 44
	}
	return math.Ldexp(float64(m), low+r.IntN(high-low+1)-52) * float64(1-2*r.IntN(2))
}

// drawn are three points with exponents between two.
func drawn(r *rand.Rand, low, high int) three {
	p := func() api.Point { return at(mixed(r, low, high), mixed(r, low, high)) }
	return three{p(), p(), p()}
}

// nearly are three points that lie on one line or a little beside it: b between a and c, or beyond them, rounded, and moved by a few of the least steps.
func nearly(r *rand.Rand, low, high, steps int) three {
	t := drawn(r, low, high)
	k := []float64{0.5, 0.25, 1, 0, 2, -1, 3, r.Float64(), 4 * r.Float64(), r.Float64() * 0x1p-20}[r.IntN(10)]
	move := func(p, q int) int {
		b := of(value(p) + float64(k*(value(q)-value(p))))
		return b + r.IntN(2*steps+1) - steps
	}
	t.b = api.Point{X: move(t.a.X, t.c.X), Y: move(t.a.Y, t.c.Y)}
	return t.turned(r.IntN(6))
}

// turned are the same points in one of their six orders.
func (t three) turned(n int) three {
	return [6]three{t, {t.b, t.c, t.a}, {t.c, t.a, t.b}, {t.b, t.a, t.c}, {t.a, t.c, t.b}, {t.c, t.b, t.a}}[n]
}

// good tells whether all three are points.
func (t three) good() bool {
	for _, b := range t.coordinates() {
		if b&api.Inf == api.Inf {
			return false
		}
	}
	return true
}

// samples are points of all stages: far from a line and near it, tame and wild, and of the edges.
func samples(seed uint64) []three {
	r := seeded(seed)
	var l []three
	put := func(t three) {
		if t.good() {
			l = append(l, t)
		}
	}
	for _, e := range [][2]int{{0, 0}, {-2, 2}, {-30, 30}, {-149, 149}, {-149, -145}, {145, 149}, {-160, -140}, {140, 160}, {-1074, 1023}, {-1074, -1000}, {1000, 1023}, {-560, -500}, {480, 540}} {
		for range 300 {
			put(drawn(r, e[0], e[1]))
			for _, steps := range []int{0, 1, 4, 1000} {
				put(nearly(r, e[0], e[1], steps))
				put(nearly(r, e[0], e[0], steps))
			}
		}
	}
	all := edges()
	one := func() float64 { return all[r.IntN(len(all))] }
	for range 6000 {
		put(three{at(one(), one()), at(one(), one()), at(one(), one())})
	}
	for range 3000 { // lines through a grid: many on one line, differences exact
		p := func() api.Point { return at(float64(r.IntN(5)-2), float64(r.IntN(5)-2)) }
		q := func() api.Point { return at(0.1*float64(r.IntN(6)), 0.1*float64(r.IntN(6))) }
		put(three{p(), p(), p()})
		put(three{q(), q(), q()})
	}
	return append(l, atBounds()...)
}
