package round

import (
	"math"
	"math/big"
	"math/rand/v2"
	"slices"

	"plumb/api"
)

const (
	minus0   = math.MinInt
	minus032 = 1 << 31
	top      = 0x7FEFFFFFFFFFFFFF
	top32    = 0x7F7FFFFF
	minusInf = api.Inf | math.MinInt
)

func of(f float64) int           { return int(math.Float64bits(f)) }
func of32(f float32) int         { return int(math.Float32bits(f)) }
func float(b int) float64        { return math.Float64frombits(uint64(b)) }
func float32Of(b int) float32    { return math.Float32frombits(uint32(b)) }
func seeded(n uint64) *rand.Rand { return rand.New(rand.NewPCG(n, 4)) }

// allWays are the four of them.
func allWays() []int { return []int{api.Near, api.Down, api.Up, api.Zero} }

// noWays are ints that are none.
func noWays() []int { return []int{4, -1, 5, math.MaxInt, math.MinInt} }

// choose tells which of the nearest float and those next to it a way asks for, by how the nearest lies to the number.
func choose[F float32 | float64](near, below, above F, lies big.Accuracy, neg bool, way int) F {
	down, up := near, near
	switch lies {
	case big.Above:
		down = below
	case big.Below:
		up = above
	}
	switch {
	case way == api.Down || way == api.Zero && !neg:
		return down
	case way == api.Up || way == api.Zero:
		return up
	}
	return near
}

// rounded64 is the binary64 that a way asks for, by the library; a nought has the number's sign.
func rounded64(x *big.Float, way int) int {
	near, lies := x.Float64()
	return of(choose(near, math.Nextafter(near, math.Inf(-1)), math.Nextafter(near, math.Inf(1)), lies, x.Signbit(), way))
}

// rounded32 is the same of binary32.
func rounded32(x *big.Float, way int) int {
	near, lies := x.Float32()
	return of32(choose(near, math.Nextafter32(near, float32(math.Inf(-1))), math.Nextafter32(near, float32(math.Inf(1))), lies, x.Signbit(), way))
}

// power is x 2^e.
func power(x *big.Int, e int) *big.Float {
	f := new(big.Float).SetInt(x)
	return f.SetMantExp(f, e)
}

// whole is a list's number, with the sign.
func whole(x api.Num) *big.Int {
	words := make([]big.Word, len(x.Mag)/2+2)
	for i, digit := range x.Mag {
		at, shift := i*30/64, i*30%64
		words[at] |= big.Word(digit) << shift
		words[at+1] |= big.Word(digit) >> (64 - shift)
	}
	m := new(big.Int).SetBits(words)
	if x.Neg {
		m.Neg(m)
	}
	return m
}

func wide(x api.Num) *big.Float { return power(whole(x), x.Exp) }

// wideQuotient is a quotient with some 300 bits, and one more behind them, if that is not all of it: none of them is a float, nor between two.
func wideQuotient(a, b api.Num) *big.Float {
	x, y := whole(a), whole(b)
	k := max(300+y.BitLen()-x.BitLen(), 0)
	q, left := new(big.Int).QuoRem(new(big.Int).Lsh(x, uint(k)), y, new(big.Int))
	q.Lsh(q, 1)
	if left.Sign() != 0 {
		q.Add(q, big.NewInt(int64(x.Sign()*y.Sign())))
	}
	return power(q, a.Exp-b.Exp-k-1)
}

// wideRoot is a square root, likewise.
func wideRoot(x api.Num) *big.Float {
	m := whole(x)
	k := max(600-m.BitLen(), 0)
	k += (x.Exp - k) & 1
	m.Lsh(m, uint(k))
	s := new(big.Int).Sqrt(m)
	rest := new(big.Int).Sub(m, new(big.Int).Mul(s, s)).Sign()
	return power(s.Lsh(s, 1).Add(s, big.NewInt(int64(rest))), (x.Exp-k)/2-1)
}

// form is the valid Num of m 2^e.
func form(m *big.Int, e int) api.Num {
	if m.Sign() == 0 {
		return api.Num{}
	}
	zeros := m.TrailingZeroBits()
	odd := new(big.Int).Rsh(new(big.Int).Abs(m), zeros)
	x := api.Num{Neg: m.Sign() < 0, Exp: e + int(zeros)}
	for ; odd.Sign() > 0; odd.Rsh(odd, 30) {
		x.Mag = append(x.Mag, int(odd.Uint64()&(1<<30-1)))
	}
	return x
}

// num is m 2^e.
func num(m, e int) api.Num { return form(big.NewInt(int64(m)), e) }

// numOf is the Num of a finite binary64.
func numOf(b int) api.Num {
	m, e := math.Frexp(float(b))
	return num(int(m*0x1p53), e-53)
}

// minus is the number with the other sign.
func minus(x api.Num) api.Num { return api.Num{Neg: !x.Neg && len(x.Mag) > 0, Mag: x.Mag, Exp: x.Exp} }

// ones is 2^60000 - 1, with the most digits that there may be, times 2^exp.
func ones(exp int) api.Num {
	return api.Num{Mag: slices.Repeat([]int{1<<30 - 1}, api.MaxDigits), Exp: exp}
}

// between are 2^high + 2^low and 2^high - 2^low.
func between(high, low int) []api.Num {
	one := big.NewInt(1)
	m := new(big.Int).Lsh(one, uint(high-low))
	return []api.Num{form(new(big.Int).Add(m, one), low), form(new(big.Int).Sub(m, one), low)}
}

// random is a number of so many bits, mixed ones or with a long run of zeros or ones in it, times 2^exp.
func random(r *rand.Rand, bits, exp int) api.Num {
	m := new(big.Int).SetBit(new(big.Int), bits-1, 1)
	for i := range bits - 1 {
		m.SetBit(m, i, uint(r.IntN(2)))
	}
	if from, to := r.IntN(bits), r.IntN(bits); r.IntN(2) == 0 {
		for i := from; i < to; i++ {
			m.SetBit(m, i, uint(from+to)&1)
		}
	}
	if r.IntN(2) == 0 {
		m.Neg(m)
	}
	return form(m, exp)
}

// edges are numbers at the edges of what floats of both kinds tell, of lists and of exponents, and a little beside them, without signs.
func edges() []api.Num {
	l := []api.Num{{}, {Mag: []int{}}, num(1, 0), num(3, 0), num(1, api.MaxExp), num(1, -api.MaxExp), num(5, api.MaxExp), ones(0), ones(-60000), ones(api.MaxExp), ones(-api.MaxExp), ones(1024 - 60000), ones(-1074 - 60000), ones(-1075 - 60000)}
	for _, e := range []int{0, 1, 53, 1022, 1023, 1024, 1025, 127, 128, 129, -1022, -1021, -1073, -1074, -1075, -1076, -1080, -126, -125, -148, -149, -150, -151, -1200, 2000} {
		l = append(l, num(1, e), num(3, e-1), num(5, e-2), num(7, e-2))
		for _, below := range []int{1, 2, 22, 23, 24, 25, 51, 52, 53, 54, 55, 61, 62, 63, 64, 65, 66, 200, 5000} {
			l = append(l, between(e, e-below)...)
		}
	}
	for _, b := range []int{1, 2, 3, 1<<52 - 1, 1 << 52, 1<<52 + 1, of(1), of(1) + 1, top - 1, top, of(0.1), of(math.Pi), of(math.MaxFloat32), of(math.SmallestNonzeroFloat32)} {
		x := numOf(b)
		l = append(l, x)
		for _, e := range []int{x.Exp - 1, x.Exp - 2, -1075, -1076, 970, 969, 103, 102, -150, -151, -3000} { // half of what the last bit is worth, and less
			if e < x.Exp {
				m := new(big.Int).Lsh(whole(x), uint(x.Exp-e))
				l = append(l, form(new(big.Int).Add(m, big.NewInt(1)), e), form(new(big.Int).Sub(m, big.NewInt(1)), e))
			}
		}
	}
	return l
}

// samples are the edges, and mixed numbers, with both signs.
func samples(seed uint64) []api.Num {
	l, r := edges(), seeded(seed)
	for range 300 {
		l = append(l, random(r, 1+r.IntN(130), r.IntN(2400)-1200), random(r, 1+r.IntN(70), -r.IntN(70)), random(r, 1+r.IntN(60), r.IntN(340)-190))
	}
	for range 20 {
		l = append(l, random(r, 1+r.IntN(60000), r.IntN(4000)-2000), random(r, 1+r.IntN(6000), r.IntN(1<<21)-1<<20))
	}
	for _, x := range l[:len(l):len(l)] {
		l = append(l, minus(x))
	}
	return l
}

// invalid are Nums of no number, or not in the one form.
func invalid() []api.Num {
	return []api.Num{
		{Neg: true}, {Exp: 1}, {Mag: []int{0}}, {Mag: []int{2}}, {Mag: []int{1, 0}}, {Mag: []int{-1}}, {Mag: []int{1<<30 + 1}}, {Mag: []int{1}, Exp: api.MaxExp + 1}, {Mag: []int{1}, Exp: -api.MaxExp - 1},
		{Mag: []int{1}, Exp: math.MaxInt}, {Neg: true, Mag: []int{1}, Exp: math.MinInt}, {Mag: slices.Repeat([]int{1}, api.MaxDigits+1)},
	}
}

// patterns are those at the edges of every class, with both signs, and mixed ones.
func patterns(seed uint64) []int {
	l := []int{0, 1, 2, 3, 1<<52 - 1, 1 << 52, 1<<52 + 1, 1 << 53, of(0.1), of(0.5), of(1) - 1, of(1), of(1) + 1, of(1.5), of(3), of(0x1p53), of(0x1p-60), of(0x1p-537), of(0x1p-538), of(0x1p512), of(0x1p600), of(0x1p1022), of(0x1p1023), top - 1, top, api.Inf, api.NaN, api.Inf + 1, math.MaxInt}
	r := seeded(seed)
	for range 20 {
		b := int(r.Uint64() &^ (1 << 63))
		l = append(l, b, b&(1<<52-1), of(1+r.Float64()), of(r.Float64()*0x1p-1000))
	}
	for _, b := range l[:len(l):len(l)] {
		l = append(l, b|minus0)
	}
	return l
}

// patterns32 are the same of binary32, and ints that are no patterns of 32 bits.
func patterns32(seed uint64) []int {
	l := []int{0, 1, 2, 3, 1<<23 - 1, 1 << 23, 1<<23 + 1, 1 << 24, of32(0.1), of32(0.5), of32(1) - 1, of32(1), of32(1) + 1, of32(1.5), of32(3), of32(0x1p24), of32(0x1p-30), of32(0x1p-75), of32(0x1p-74), of32(0x1p64), of32(0x1p126), of32(0x1p127), top32 - 1, top32, api.Inf32, api.NaN32, api.Inf32 + 1, math.MaxInt32}
	r := seeded(seed)
	for range 20 {
		b := int(r.Uint32() >> 1)
		l = append(l, b, b&(1<<23-1), of32(1+r.Float32()))
	}
	for _, b := range l[:len(l):len(l)] {
		l = append(l, b|minus032)
	}
	return append(l, -1, 1<<32, 1<<32+of32(1), math.MinInt, math.MaxInt, math.MinInt+of32(1), -1<<31)
}
