package eft

import (
	"fmt"
	"math"
	"math/big"
	"math/rand/v2"

	"plumb/api"
	"plumb/bits"
	"plumb/round"
)

const (
	minus0   = math.MinInt
	top      = 0x7FEFFFFFFFFFFFFF
	minusInf = api.Inf | math.MinInt
)

func of(f float64) int           { return int(math.Float64bits(f)) }
func value(b int) float64        { return math.Float64frombits(uint64(b)) }
func seeded(n uint64) *rand.Rand { return rand.New(rand.NewPCG(n, 6)) }

// add, sub and mul are the chapter's +, - and * of patterns.
func add(a, b int) int { x, _ := round.Add(a, b, api.Near); return x }
func sub(a, b int) int { x, _ := round.Sub(a, b, api.Near); return x }
func mul(a, b int) int { x, _ := round.Mul(a, b, api.Near); return x }

// answer is what a call tells.
type answer struct {
	h, l  int
	exact bool
}

func (a answer) String() string { return fmt.Sprintf("%#x, %#x, %v", a.h, a.l, a.exact) }

func told3(h, l int, exact bool) answer { return answer{h, l, exact} }

// call is one of the six, by two patterns; one that takes a single pattern takes the first.
type call struct {
	name  string
	got   func(a, b int) (int, int, bool)
	steps func(a, b int) (int, int)           // the chapter's, by patterns
	exact func(x, a, b *big.Float) *big.Float // what h and l together must be
	one   bool                                // takes a single pattern
}

func first(f func(a int) (int, int, bool)) func(a, b int) (int, int, bool) {
	return func(a, _ int) (int, int, bool) { return f(a) }
}

func calls() []call {
	return []call{
		{"P601: TwoSum", TwoSum, wantTwoSum, (*big.Float).Add, false},
		{"P601: TwoDiff", TwoDiff, func(a, b int) (int, int) { return wantTwoSum(a, bits.Neg(b)) }, (*big.Float).Sub, false},
		{"P602: FastTwoSum", FastTwoSum, wantFastTwoSum, (*big.Float).Add, false},
		{"P603: Split", first(Split), func(a, _ int) (int, int) { return wantSplit(a) }, func(x, a, _ *big.Float) *big.Float { return x.Set(a) }, true},
		{"P604: TwoProd", TwoProd, wantTwoProd, (*big.Float).Mul, false},
		{"P604: Square", first(Square), func(a, _ int) (int, int) { return wantTwoProd(a, a) }, func(x, a, _ *big.Float) *big.Float { return x.Mul(a, a) }, true},
	}
}

func wantTwoSum(a, b int) (int, int) {
	h := add(a, b)
	v := sub(h, a)
	return h, add(sub(a, sub(h, v)), sub(b, v))
}

func wantFastTwoSum(a, b int) (int, int) {
	h := add(a, b)
	return h, sub(b, sub(h, a))
}

func wantSplit(a int) (int, int) {
	c := mul(of(134217729), a)
	h := sub(c, sub(c, a))
	return h, sub(a, h)
}

func wantTwoProd(a, b int) (int, int) {
	h := mul(a, b)
	p, q := wantSplit(a)
	r, s := wantSplit(b)
	return h, sub(mul(q, s), sub(sub(sub(h, mul(p, r)), mul(q, r)), mul(p, s)))
}

// finite tells whether all are.
func finite(l ...int) bool {
	for _, b := range l {
		if f := value(b); math.IsInf(f, 0) || math.IsNaN(f) {
			return false
		}
	}
	return true
}

// wide is a finite float with room for all bits of every sum and product.
func wide(b int) *big.Float { return new(big.Float).SetPrec(5000).SetFloat64(value(b)) }

// want is what a call must tell.
func (c call) want(a, b int) answer {
	h, l := c.steps(a, b)
	operands := finite(a) && (c.one || finite(b))
	if !operands || !finite(h, l) {
		return answer{h, l, false}
	}
	if c.one {
		b = 0
	}
	x := c.exact(wide(0), wide(a), wide(b))
	return answer{h, l, x.Cmp(wide(0).Add(wide(h), wide(l))) == 0}
}

// special are patterns of every class, at the edges of all ranges that the chapter names, and beside them, with both signs.
func special() []int {
	l := []int{0, 1, 2, 3, 1<<52 - 2, 1<<52 - 1, 1 << 52, 1<<52 + 1, of(0.1), of(math.Pi), top - 2, top - 1, top, api.Inf, api.Inf + 1, api.NaN, math.MaxInt}
	for _, e := range []int{-1073, -1048, -1047, -970, -969, -968, -600, -537, -536, -511, -485, -484, -60, -53, -52, -1, 0, 1, 26, 27, 52, 53, 54, 511, 512, 600, 968, 969, 970, 971, 995, 996, 997, 1000, 1022, 1023} {
		b := of(math.Ldexp(1, e))
		l = append(l, b-1, b, b+1, b+1<<25, b+1<<26, b+1<<26-1, b+1<<26+1)
	}
	for _, b := range l {
		l = append(l, b|minus0)
	}
	return l
}

// mixed is a float with an exponent between two, of mixed bits, of few ones, or with a long run of zeros or ones in it.
func mixed(r *rand.Rand, low, high int) int {
	m := 1<<52 | r.IntN(1<<52)
	switch r.IntN(4) {
	case 0:
		m = m >> r.IntN(53) // few bits
	case 1:
		m |= 1<<r.IntN(53) - 1
	case 2:
		m &^= 1<<r.IntN(52) - 1
	}
	f := math.Ldexp(float64(m), low+r.IntN(high-low+1)-52)
	if r.IntN(2) == 0 {
		f = -f
	}
	return of(f)
}

// pair is what a call takes.
type pair struct{ a, b int }

// near are pairs whose exponents are close to one another, so that bits cancel and roundings meet.
func near(r *rand.Rand, n, low, high int) []pair {
	var l []pair
	for range n {
		e := low + r.IntN(high-low+1)
		a := mixed(r, e, e)
		b := mixed(r, max(e-60, -1074), min(e+60, 1023))
		l = append(l, pair{a, b}, pair{b, a}, pair{a, a ^ r.IntN(1<<r.IntN(52)+1) ^ minus0})
	}
	return l
}

// steep are pairs whose product is near 2^e.
func steep(r *rand.Rand, n, e int) []pair {
	var l []pair
	for range n {
		low, high := max(-1074, e-1023), min(1023, e+1074)
		i := low + r.IntN(high-low+1)
		a, b := mixed(r, i, i), mixed(r, max(-1074, e-i-60), min(1023, e-i+60))
		l = append(l, pair{a, b}, pair{b, a})
	}
	return l
}

// samples are pairs of patterns of all kinds.
func samples(seed uint64) []pair {
	var l []pair
	for _, a := range special() {
		for _, b := range special() {
			l = append(l, pair{a, b})
		}
	}
	r := seeded(seed)
	for range 20000 {
		l = append(l, pair{int(r.Uint64()), int(r.Uint64())}, pair{mixed(r, -1074, 1023), mixed(r, -1074, 1023)}, pair{mixed(r, -30, 30), mixed(r, -30, 30)})
	}
	l = append(l, near(r, 10000, -1074, 1023)...)
	l = append(l, near(r, 3000, 960, 1023)...)
	l = append(l, near(r, 3000, -1074, -960)...)
	for _, e := range []int{-1100, -1074, -1022, -1000, -970, 0, 970, 1000, 1023} {
		l = append(l, steep(r, 2000, e)...)
	}
	return append(l, edges()...)
}

// edges are sums of the greatest finite floats and of some of their last bits: the sum is finite, and a step behind it may be infinite.
func edges() []pair {
	var l []pair
	for i := range 8 {
		for k := range 65 {
			a, b := top-i, of(math.Ldexp(float64(k), 967))
			for _, x := range []pair{{a, b}, {b, a}} {
				l = append(l, x, pair{x.a | minus0, x.b}, pair{x.a, x.b | minus0}, pair{x.a | minus0, x.b | minus0})
			}
		}
	}
	return l
}
