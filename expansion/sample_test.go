package expansion

import (
	"math"
	"math/big"
	"math/rand/v2"
	"slices"

	"plumb/api"
	"plumb/bits"
	"plumb/eft"
)

const (
	minus0   = math.MinInt
	top      = 0x7FEFFFFFFFFFFFFF
	minusInf = api.Inf | math.MinInt
	least    = -1074 // the exponent of the least float
	highest  = 1024  // that of the least power of 2 above all floats
)

func of(f float64) int           { return int(math.Float64bits(f)) }
func value(b int) float64        { return math.Float64frombits(uint64(b)) }
func seeded(n uint64) *rand.Rand { return rand.New(rand.NewPCG(n, 7)) }

// list are the patterns of floats.
func list(l ...float64) []int {
	b := make([]int, len(l))
	for i, f := range l {
		b[i] = of(f)
	}
	return b
}

// shape says what expansions are made of: bits between two exponents, in floats of so many bits at most, with at most so many between them.
type shape struct{ low, high, width, gap int }

func shapes() []shape {
	return []shape{
		{-60, 60, 53, 0}, {-60, 60, 53, 5}, {-200, 200, 53, 100}, {-40, 40, 1, 0}, {-40, 40, 2, 1}, {-90, 90, 10, 3}, {0, 1, 1, 0}, {-300, 300, 30, 90},
		{900, highest, 53, 0}, {950, highest, 53, 9}, {960, highest, 2, 0}, {970, highest, 53, 0}, {1000, highest, 53, 0}, {500, highest, 53, 90}, {480, 540, 53, 3}, {900, 997, 53, 2},
		{least, least + 120, 53, 0}, {least, least + 60, 2, 1}, {least, least + 200, 53, 9}, {-560, -500, 53, 0}, {-560, -480, 3, 20}, {-540, -530, 1, 0}, {least, -500, 53, 90},
		{least, highest, 53, 200}, {least, highest, 53, 20},
	}
}

// expansion is one of that shape.
func (s shape) expansion(r *rand.Rand) []int {
	var e []int
	for at := s.low + r.IntN(s.gap+1); at < s.high; at += r.IntN(s.gap + 1) {
		n := min(1+r.IntN(s.width), s.high-at)
		f := math.Ldexp(float64(1<<(n-1)|r.IntN(1<<(n-1))|1), at)
		if r.IntN(2) == 0 {
			f = -f
		}
		e = append(e, of(f))
		at += n
	}
	if r.IntN(9) == 0 && len(e) > 1 { // one with few floats
		e = e[:1+r.IntN(2)]
	}
	return e
}

// float is one that meets an expansion: some of its bits, a float of its shape, or one at an edge.
func (s shape) float(r *rand.Rand, e []int) int {
	edges := []int{0, minus0, of(1), of(-3), 1, top, minus0 | top, top - 1, of(0x1p-537), of(0x1p996), of(0x1.8p971), of(-0x1p970), of(math.Pi)}
	switch r.IntN(4) {
	case 0:
		return edges[r.IntN(len(edges))]
	case 1:
		if len(e) > 0 {
			return e[r.IntN(len(e))] ^ r.IntN(1<<r.IntN(40)) ^ r.IntN(2)<<63
		}
	}
	one := shape{s.low, min(s.low+53+r.IntN(s.high-s.low), s.high), 53, s.gap}.expansion(r)
	if len(one) == 0 {
		return of(1)
	}
	return one[len(one)-1]
}

// ones are floats of a bit each, rising from an exponent up to another one: as many as can be.
func ones(low, high int) []int {
	var e []int
	for i := low; i < high; i++ {
		e = append(e, of(math.Ldexp(1, i)))
	}
	return e
}

// given is what a call may take.
type given struct {
	e, f []int
	b    int
}

// samples are expansions of all shapes, with another one of the same shape or of another, and with a float.
func samples(seed uint64, n int) []given {
	r := seeded(seed)
	l := []given{{nil, nil, 0}, {nil, nil, minus0}, {nil, nil, of(2)}, {ones(least, highest), nil, of(1)}, {ones(least, 0), ones(0, 900), of(-1)}}
	for _, s := range shapes() {
		for range n {
			e, f := s.expansion(r), s.expansion(r)
			switch r.IntN(6) {
			case 0:
				f = shapes()[r.IntN(len(shapes()))].expansion(r)
			case 1: // bits that cancel
				f = slices.Clone(e)
				for i := range f {
					f[i] ^= r.IntN(2) << 63
				}
			}
			l = append(l, given{e, f, s.float(r, e)})
		}
	}
	return l
}

// steps are the chapter's words, one list after another; bad: a step was not exact.
type steps struct {
	h   []int
	bad bool
}

func (s *steps) add(b int) {
	if value(b) != 0 {
		s.h = append(s.h, b)
	}
}

func (s *steps) step(h, l int, exact bool) (int, int) {
	s.bad = s.bad || !exact
	return h, l
}

func wantGrow(e []int, b int) steps {
	var s steps
	q, l := b, 0
	for _, x := range e {
		q, l = s.step(eft.TwoSum(q, x))
		s.add(l)
	}
	s.add(q)
	return s
}

func wantSum(e, f []int) steps {
	s := steps{h: e}
	for _, x := range f {
		if s = wantGrow(s.h, x); s.bad {
			break
		}
	}
	return s
}

func wantDiff(e, f []int) steps {
	var turned []int
	for _, x := range f {
		turned = append(turned, of(-value(x)))
	}
	return wantSum(e, turned)
}

func wantScale(e []int, b int) steps {
	var s steps
	if len(e) == 0 || value(b) == 0 {
		return s
	}
	q, l := s.step(eft.TwoProd(e[0], b))
	s.add(l)
	for _, x := range e[1:] {
		t, u := s.step(eft.TwoProd(x, b))
		q, l = s.step(eft.TwoSum(q, u))
		s.add(l)
		q, l = s.step(eft.FastTwoSum(t, q))
		s.add(l)
	}
	s.add(q)
	return s
}

func wantProduct(e, f []int) steps {
	var s steps
	for _, x := range f {
		part := wantScale(e, x)
		if part.bad {
			return part
		}
		if s = wantSum(s.h, part.h); s.bad {
			break
		}
	}
	return s
}

func wantCompress(e []int) steps {
	var s steps
	if len(e) == 0 {
		return s
	}
	var g []int
	q, l := e[len(e)-1], 0
	for i := len(e) - 2; i >= 0; i-- {
		q, l = s.step(eft.FastTwoSum(q, e[i]))
		if value(l) != 0 {
			g = append([]int{q}, g...)
			q = l
		}
	}
	g = append([]int{q}, g...)
	q = g[0]
	for _, x := range g[1:] {
		q, l = s.step(eft.FastTwoSum(x, q))
		s.add(l)
	}
	s.add(q)
	return s
}

// call is one that tells an expansion, with the chapter's words for it.
type call struct {
	name string
	got  func(x given) ([]int, api.Errno)
	want func(x given) steps
}

func calls() []call {
	return []call{
		{"P704: Grow", func(x given) ([]int, api.Errno) { return Grow(x.e, x.b) }, func(x given) steps { return wantGrow(x.e, x.b) }},
		{"P705: Sum", func(x given) ([]int, api.Errno) { return Sum(x.e, x.f) }, func(x given) steps { return wantSum(x.e, x.f) }},
		{"P705: Diff", func(x given) ([]int, api.Errno) { return Diff(x.e, x.f) }, func(x given) steps { return wantDiff(x.e, x.f) }},
		{"P706: Scale", func(x given) ([]int, api.Errno) { return Scale(x.e, x.b) }, func(x given) steps { return wantScale(x.e, x.b) }},
		{"P707: Product", func(x given) ([]int, api.Errno) { return Product(x.e, x.f) }, func(x given) steps { return wantProduct(x.e, x.f) }},
		{"P708: Compress", func(x given) ([]int, api.Errno) { return Compress(x.e) }, func(x given) steps { return wantCompress(x.e) }},
	}
}

// whole is the sum of a list's values, in units of 2^-1074.
func whole(e []int) *big.Int {
	sum := new(big.Int)
	for _, b := range e {
		neg, mag, exp, _ := bits.Parts(b)
		x := new(big.Int).Lsh(big.NewInt(int64(mag)), uint(exp-least))
		if neg {
			x.Neg(x)
		}
		sum.Add(sum, x)
	}
	return sum
}

// units is a number in units of 2^-1074 as a number of units of 2^-2148.
func units(x *big.Int) *big.Int { return new(big.Int).Lsh(x, -least) }

// num is the valid Num of a number of units of 2^e.
func num(x *big.Int, e int) api.Num {
	if x.Sign() == 0 {
		return api.Num{}
	}
	zeros := int(x.TrailingZeroBits())
	n := api.Num{Neg: x.Sign() < 0, Exp: e + zeros}
	rest := new(big.Int).Rsh(new(big.Int).Abs(x), uint(zeros))
	for rest.Sign() > 0 {
		n.Mag = append(n.Mag, int(new(big.Int).And(rest, big.NewInt(1<<30-1)).Int64()))
		rest.Rsh(rest, 30)
	}
	return n
}

func equal(x, y api.Num) bool {
	return x.Neg == y.Neg && x.Exp == y.Exp && slices.Equal(x.Mag, y.Mag)
}
