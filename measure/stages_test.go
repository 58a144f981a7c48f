package measure

import (
	"math"
	"math/big"

	"plumb/api"
)

// asked is one of the two signs: its call, and what that must tell by the chapter's words.
type asked struct {
	name    string
	promise string
	count   int // of points
	sign    func(l points) (api.Verdict, api.Errno)
	exactly func(l points) *big.Int          // in units of 2^-2148
	filter  func(l points) (D, S *big.Float) // S: what the bound is taken of
	span    func(l points) ends
	level   func(r *rng, low, high int) points // of which the value is 0, but for rounding
}

func fartherAsked() asked {
	return asked{
		name: "Farther", promise: "P1302", count: 4,
		sign: func(l points) (api.Verdict, api.Errno) { return Farther(l[0], l[1], l[2], l[3]) },
		exactly: func(l points) *big.Int {
			return less(squareExactly(l[0], l[1]), squareExactly(l[2], l[3]))
		},
		filter: func(l points) (D, S *big.Float) {
			u1, u2, v1, v2 := apartBy(l[0].X, l[1].X), apartBy(l[0].Y, l[1].Y), apartBy(l[2].X, l[3].X), apartBy(l[2].Y, l[3].Y)
			Q, R := add(mul(u1, u1), mul(u2, u2)), add(mul(v1, v1), mul(v2, v2))
			return sub(Q, R), add(Q, R)
		},
		span: func(l points) ends {
			square := func(a, b api.Point) ends {
				return only(a.X).minus(only(b.X)).square().plus(only(a.Y).minus(only(b.Y)).square())
			}
			return square(l[0], l[1]).minus(square(l[2], l[3]))
		},
		level: equalWays,
	}
}

func angleAsked() asked {
	return asked{
		name: "Angle", promise: "P1303", count: 3,
		sign:    func(l points) (api.Verdict, api.Errno) { return Angle(l[0], l[1], l[2]) },
		exactly: func(l points) *big.Int { return dotExactly(l[0], l[1], l[2]) },
		filter: func(l points) (D, S *big.Float) {
			u1, u2, v1, v2 := apartBy(l[0].X, l[1].X), apartBy(l[0].Y, l[1].Y), apartBy(l[2].X, l[1].X), apartBy(l[2].Y, l[1].Y)
			P, Q := mul(u1, v1), mul(u2, v2)
			return add(P, Q), add(abs(P), abs(Q))
		},
		span: func(l points) ends {
			x := only(l[0].X).minus(only(l[1].X)).times(only(l[2].X).minus(only(l[1].X)))
			y := only(l[0].Y).minus(only(l[1].Y)).times(only(l[2].Y).minus(only(l[1].Y)))
			return x.plus(y)
		},
		level: rightAngle,
	}
}

func both() []asked { return []asked{fartherAsked(), angleAsked()} }

// isTame is the word of the document.
func isTame(b int) bool {
	f := math.Abs(value(b))
	return f == 0 || f >= 0x1p-150 && f < 0x1p150
}

// wanted is the verdict by the words of P1302 and P1303.
func (a asked) wanted(l points) api.Verdict {
	exact := a.exactly(l).Sign()
	for _, b := range l.flat() {
		if !isTame(b) {
			if sign, known := a.span(l).sign(); known {
				return api.Verdict{Sign: sign, Stage: api.StageSpan}
			}
			return api.Verdict{Sign: exact, Stage: api.StageDyadic}
		}
	}
	D, S := a.filter(l)
	if abs(D).Cmp(mul(constant(0x1p-49), S)) > 0 {
		return api.Verdict{Sign: D.Sign(), Stage: api.StageFilter}
	}
	return api.Verdict{Sign: exact, Stage: api.StageExpansion}
}

// single rounds to 53 bits, to the nearest, of two the even one: what a single operation of tame numbers does, by the library.
func single() *big.Float { return new(big.Float).SetPrec(53) }

func add(x, y *big.Float) *big.Float { return single().Add(x, y) }
func sub(x, y *big.Float) *big.Float { return single().Sub(x, y) }
func mul(x, y *big.Float) *big.Float { return single().Mul(x, y) }
func abs(x *big.Float) *big.Float    { return single().Abs(x) }
func constant(f float64) *big.Float  { return single().SetFloat64(f) }
func apartBy(p, q int) *big.Float    { return sub(constant(value(p)), constant(value(q))) }

// ends are an interval.
type ends struct{ lo, hi float64 }

func only(b int) ends { return ends{value(b), value(b)} }

// wide has room for all bits of a sum or product of two floats.
func wide() *big.Float         { return new(big.Float).SetPrec(2200) }
func end(f float64) *big.Float { return wide().SetFloat64(f) }

// around is the least interval around two numbers, rounded outward.
func around(lo, hi *big.Float) ends {
	low, lies := lo.Float64()
	if lies == big.Above {
		low = math.Nextafter(low, math.Inf(-1))
	}
	high, lies := hi.Float64()
	if lies == big.Below {
		high = math.Nextafter(high, math.Inf(1))
	}
	return ends{low, high}
}

func (s ends) plus(t ends) ends {
	return around(wide().Add(end(s.lo), end(t.lo)), wide().Add(end(s.hi), end(t.hi)))
}

func (s ends) minus(t ends) ends { return s.plus(ends{-t.hi, -t.lo}) }

// times is Mul of chapter 8: 0 times infinity is 0.
func (s ends) times(t ends) ends {
	var lo, hi *big.Float
	for _, x := range []float64{s.lo, s.hi} {
		for _, y := range []float64{t.lo, t.hi} {
			p := wide()
			if x != 0 && y != 0 {
				p.Mul(end(x), end(y))
			}
			if lo == nil || p.Cmp(lo) < 0 {
				lo = p
			}
			if hi == nil || p.Cmp(hi) > 0 {
				hi = p
			}
		}
	}
	return around(lo, hi)
}

// square is Square of chapter 8.
func (s ends) square() ends {
	least, most := min(math.Abs(s.lo), math.Abs(s.hi)), max(math.Abs(s.lo), math.Abs(s.hi))
	if s.lo <= 0 && s.hi >= 0 {
		least = 0
	}
	return around(wide().Mul(end(least), end(least)), wide().Mul(end(most), end(most)))
}

func (s ends) sign() (sign int, known bool) {
	switch {
	case s.lo > 0:
		return 1, true
	case s.hi < 0:
		return -1, true
	}
	return 0, s.lo == 0 && s.hi == 0
}

// units is the value of bits in units of 2^-1074, read from the bits: no float is looked at.
func units(b int) *big.Int {
	mag, exp := b&(1<<52-1), b>>52&0x7FF
	if exp > 0 {
		mag |= 1 << 52
		exp--
	}
	n := new(big.Int).Lsh(big.NewInt(int64(mag)), uint(exp))
	if b < 0 {
		n.Neg(n)
	}
	return n
}

func plus(x, y *big.Int) *big.Int  { return new(big.Int).Add(x, y) }
func less(x, y *big.Int) *big.Int  { return new(big.Int).Sub(x, y) }
func times(x, y *big.Int) *big.Int { return new(big.Int).Mul(x, y) }

// way is the one from p to q, exactly.
func way(p, q api.Point) (x, y *big.Int) {
	return less(units(q.X), units(p.X)), less(units(q.Y), units(p.Y))
}

// squareExactly is P1301's number of Square, in units of 2^-2148.
func squareExactly(a, b api.Point) *big.Int {
	x, y := way(b, a)
	return plus(times(x, x), times(y, y))
}

// dotExactly is that of Dot.
func dotExactly(a, b, c api.Point) *big.Int {
	x, y := way(b, a)
	z, w := way(b, c)
	return plus(times(x, z), times(y, w))
}

// liesBetween is P1304's answer: b is a's place, moved along the whole way to c by a part of it.
func liesBetween(a, b, c api.Point) bool {
	x, y := way(a, c)
	z, w := way(a, b)
	part := func(z, x *big.Int) bool { // of 0 to 1
		return z.Sign() == 0 || z.Sign() == x.Sign() && z.CmpAbs(x) <= 0
	}
	return part(z, x) && part(w, y) && times(x, w).Cmp(times(y, z)) == 0
}

// num is the Num of a whole number of units of 2^-2148.
func num(n *big.Int) api.Num {
	if n.Sign() == 0 {
		return api.Num{}
	}
	low := n.TrailingZeroBits()
	x := api.Num{Neg: n.Sign() < 0, Exp: int(low) - 2148}
	m := new(big.Int).Abs(n)
	for m.Rsh(m, low); m.Sign() > 0; m.Rsh(m, 30) {
		x.Mag = append(x.Mag, int(m.Uint64()&(1<<30-1)))
	}
	return x
}
