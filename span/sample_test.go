package span

import (
	"math"
	"math/big"
	"math/rand/v2"
	"slices"

	"plumb/api"
)

const (
	minus0   = math.MinInt
	top      = 0x7FEFFFFFFFFFFFFF
	minusInf = api.Inf | math.MinInt
)

func of(f float64) int           { return int(math.Float64bits(f)) }
func value(b int) float64        { return math.Float64frombits(uint64(b)) }
func seeded(n uint64) *rand.Rand { return rand.New(rand.NewPCG(n, 8)) }

// s is an interval by its ends' values.
func s(lo, hi float64) api.Span { return api.Span{Lo: of(lo), Hi: of(hi)} }

// wide is a float, infinite ones too, with room for all bits of every sum and product.
func wide(b int) *big.Float { return room().SetFloat64(value(b)) }

func room() *big.Float { return new(big.Float).SetPrec(9000) }

// rounded is the binary64 that Down or Up asks for, by the library, with 0 for -0.
func rounded(x *big.Float, way int) int {
	f, lies := x.Float64()
	switch {
	case way == api.Down && lies == big.Above:
		f = math.Nextafter(f, math.Inf(-1))
	case way == api.Up && lies == big.Below:
		f = math.Nextafter(f, math.Inf(1))
	}
	return of(f + 0) // -0 + 0 is 0
}

// outward is the interval whose ends are the least and the greatest of a list, rounded outward.
func outward(l ...*big.Float) api.Span {
	least, greatest := slices.MinFunc(l, (*big.Float).Cmp), slices.MaxFunc(l, (*big.Float).Cmp)
	return api.Span{Lo: rounded(least, api.Down), Hi: rounded(greatest, api.Up)}
}

// times is a product of ends: 0 times infinity is 0.
func times(a, b int) *big.Float {
	if value(a) == 0 || value(b) == 0 {
		return room()
	}
	return room().Mul(wide(a), wide(b))
}

func plus(a, b int) *big.Float { return room().Add(wide(a), wide(b)) }

// valid is P801's words.
func valid(x api.Span) bool {
	lo, hi := value(x.Lo), value(x.Hi)
	return !math.IsNaN(lo) && !math.IsNaN(hi) && !(lo > hi) && lo != math.Inf(1) && hi != math.Inf(-1)
}

func wantNeg(x api.Span) api.Span { return s(-value(x.Hi)+0, -value(x.Lo)+0) }

func wantAdd(x, y api.Span) api.Span {
	return api.Span{Lo: rounded(plus(x.Lo, y.Lo), api.Down), Hi: rounded(plus(x.Hi, y.Hi), api.Up)}
}

func wantMul(x, y api.Span) api.Span {
	return outward(times(x.Lo, y.Lo), times(x.Lo, y.Hi), times(x.Hi, y.Lo), times(x.Hi, y.Hi))
}

func wantSquare(x api.Span) api.Span {
	l := []*big.Float{times(x.Lo, x.Lo), times(x.Hi, x.Hi)}
	if value(x.Lo) <= 0 && value(x.Hi) >= 0 {
		l = append(l, room())
	}
	return outward(l...)
}

func wantJoin(x, y api.Span) api.Span {
	return outward(wide(x.Lo), wide(x.Hi), wide(y.Lo), wide(y.Hi))
}

// call is one that answers an interval, by two intervals; one that takes a single interval takes the first.
type call struct {
	name string
	got  func(x, y api.Span) (api.Span, api.Errno)
	want func(x, y api.Span) api.Span
	one  bool
}

func first[A any](f func(x api.Span) A) func(x, y api.Span) A {
	return func(x, _ api.Span) A { return f(x) }
}

func firstOf(f func(x api.Span) (api.Span, api.Errno)) func(x, y api.Span) (api.Span, api.Errno) {
	return func(x, _ api.Span) (api.Span, api.Errno) { return f(x) }
}

func calls() []call {
	return []call{
		{"P803: Neg", firstOf(Neg), first(wantNeg), true},
		{"P803: Add", Add, wantAdd, false},
		{"P803: Sub", Sub, func(x, y api.Span) api.Span { return wantAdd(x, wantNeg(y)) }, false},
		{"P804: Mul", Mul, wantMul, false},
		{"P804: Square", firstOf(Square), first(wantSquare), true},
		{"P805: Join", Join, wantJoin, false},
	}
}

// edges are ends at the edges of what floats tell, and of where products lose bits, with both signs.
func edges() []int {
	l := []int{0, 1, 2, 3, 1<<52 - 1, 1 << 52, of(0x1p-600), of(0x1p-537), of(0x1p-484) + 1, of(0x1p-480), of(0x1p-60), of(0.5), of(1), of(1) + 1, of(2), of(3), of(0x1p53), of(0x1p512), of(0x1p600), of(0x1p970), of(0x1p1023), top - 1, top, api.Inf}
	for _, b := range l[:len(l):len(l)] {
		l = append(l, b|minus0)
	}
	return l
}

// ordered is the interval between two ends; false: there is none.
func ordered(a, b int) (api.Span, bool) {
	x := api.Span{Lo: a, Hi: b}
	if value(a) > value(b) {
		x = api.Span{Lo: b, Hi: a}
	}
	return x, valid(x)
}

// mixed is a float with an exponent between two, of mixed bits or of few.
func mixed(r *rand.Rand, low, high int) int {
	m := 1<<52 | r.IntN(1<<52)
	if r.IntN(3) == 0 {
		m >>= r.IntN(53)
	}
	return of(math.Ldexp(float64(m), low+r.IntN(high-low+1)-52) * float64(1-2*r.IntN(2)))
}

// edged are intervals of each two edges.
func edged() []api.Span {
	var l []api.Span
	for i, a := range edges() {
		for _, b := range edges()[i:] {
			if x, ok := ordered(a, b); ok {
				l = append(l, x)
			}
		}
	}
	return append(l, api.Span{Lo: minus0}, api.Span{Hi: minus0})
}

// drawn is an interval with one end between two powers of 2, and the other one there too, near it, at the same place, or at an edge.
func drawn(r *rand.Rand, low, high int) api.Span {
	a := mixed(r, low, high)
	for {
		b := a
		switch r.IntN(4) {
		case 0:
			b = mixed(r, low, high)
		case 1:
			b = a ^ r.IntN(1<<r.IntN(52)+1)
		case 2:
			b = edges()[r.IntN(len(edges()))]
		}
		if x, ok := ordered(a, b); ok {
			return x
		}
	}
}

// pair is what a call takes.
type pair struct{ x, y api.Span }

// samples are pairs of intervals: edges with edges, and drawn ones whose sums cancel and whose products lie around the limits of floats and of what is exact.
func samples(seed uint64) []pair {
	var l []pair
	r, all := seeded(seed), edged()
	for _, x := range all {
		for range 30 {
			l = append(l, pair{x, all[r.IntN(len(all))]})
		}
	}
	for range 10000 {
		l = append(l, pair{drawn(r, -1074, 1023), drawn(r, -1074, 1023)}, pair{drawn(r, -30, 30), drawn(r, -30, 30)})
	}
	for _, e := range []int{-1180, -1130, -1075, -1074, -1022, -970, -962, -960, -959, 0, 970, 1022, 1023, 1024} { // of a product
		for range 600 {
			i := max(e-1023, -1074) + r.IntN(min(e+1074, 1023)-max(e-1023, -1074)+1)
			l = append(l, pair{drawn(r, i, i), drawn(r, max(e-i-2, -1074), min(e-i+2, 1023))})
		}
	}
	for _, e := range []int{-1070, -540, -520, -485, -480, 0, 511, 512, 970, 1023} { // of what is added, or squared
		for range 600 {
			l = append(l, pair{drawn(r, max(e-3, -1074), min(e+3, 1023)), drawn(r, max(e-60, -1074), min(e+60, 1023))})
		}
	}
	return append(l, hardly()...)
}

// hardly are pairs whose products, from the least floats up, are 2^-104 of themselves beside a float: (1 + 2^-52)^2 is 1 + 2^-51 + 2^-104.
func hardly() []pair {
	var l []pair
	for e := -1080; e < -950; e++ {
		a, b := math.Ldexp(1+0x1p-52, e/2), math.Ldexp(1+0x1p-52, e-e/2)
		l = append(l, pair{s(a, a), s(b, b)}, pair{s(-a, a), s(b, b)}, pair{s(-a, -a), s(b, 1)})
	}
	return l
}

// noIntervals are refused.
func noIntervals() []api.Span {
	inf, nan := math.Inf(1), math.NaN()
	l := []api.Span{s(2, 1), s(nan, 1), s(1, nan), s(nan, nan), s(inf, inf), s(-inf, -inf), s(inf, -inf), s(inf, 1), s(1, -inf), {Lo: -1, Hi: 1}, {Lo: 0, Hi: -1}, {Lo: api.Inf + 1, Hi: api.Inf}, {Lo: minusInf, Hi: math.MaxInt}, {Lo: minusInf + 1, Hi: api.Inf}}
	return append(l, api.Span{Lo: 1, Hi: 0}, api.Span{Lo: 1, Hi: minus0}, api.Span{Lo: 0, Hi: minus0 + 1}, api.Span{Lo: of(1) + 1, Hi: of(1)}, api.Span{Lo: of(-1), Hi: of(-1) + 1}, api.Span{Lo: api.Inf, Hi: api.NaN})
}

// num is the Num of a finite number.
func num(x *big.Float) api.Num {
	if x.Sign() == 0 {
		return api.Num{}
	}
	bits := int(x.MinPrec())
	exp := x.MantExp(nil) - bits
	m, _ := room().SetMantExp(x, -exp).Int(nil)
	n := api.Num{Neg: m.Sign() < 0, Exp: exp}
	for m.Abs(m); m.Sign() > 0; m.Rsh(m, 30) {
		n.Mag = append(n.Mag, int(m.Uint64()&(1<<30-1)))
	}
	return n
}

// power is 2^e.
func power(e int) *big.Float { return room().SetMantExp(big.NewFloat(1), e) }

// numbers are exact numbers at finite ends, a little beside them, far beyond all floats, and mixed ones.
func numbers(seed uint64) []*big.Float {
	l := []*big.Float{power(5000), power(-2500), power(1024), power(api.MaxExp), power(-api.MaxExp)}
	for _, b := range edges() {
		if b != api.Inf && b != minusInf {
			x := wide(b)
			l = append(l, x, room().Add(x, power(-1100)), room().Sub(x, power(-1100)), room().Add(x, power(969)))
		}
	}
	r := seeded(seed)
	for range 200 {
		l = append(l, plus(mixed(r, -60, 60), mixed(r, -60, 60)), times(mixed(r, -600, 600), mixed(r, -600, 600)))
	}
	for _, x := range l[:len(l):len(l)] {
		l = append(l, room().Neg(x))
	}
	return l
}

// noNums are Nums of no number, or not in the one form.
func noNums() []api.Num {
	return []api.Num{
		{Neg: true}, {Exp: 1}, {Mag: []int{0}}, {Mag: []int{2}}, {Mag: []int{1, 0}}, {Mag: []int{-1}}, {Mag: []int{1<<30 + 1}}, {Mag: []int{1}, Exp: api.MaxExp + 1}, {Mag: []int{1}, Exp: -api.MaxExp - 1},
		{Mag: []int{1}, Exp: math.MaxInt}, {Neg: true, Mag: []int{1}, Exp: math.MinInt}, {Mag: slices.Repeat([]int{1}, api.MaxDigits+1)},
	}
}
