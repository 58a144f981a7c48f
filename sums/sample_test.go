package sums

import (
	"math"
	"math/big"
	"math/rand/v2"
	"slices"

	"plumb/api"
)

const (
	minus0   = math.MinInt
	minus032 = 1 << 31
	top      = 0x7FEFFFFFFFFFFFFF
	top32    = 0x7F7FFFFF
	minusInf = api.Inf | math.MinInt
)

func of(f float64) int           { return int(math.Float64bits(f)) }
func of32(f float32) int         { return int(math.Float32bits(f)) }
func seeded(n uint64) *rand.Rand { return rand.New(rand.NewPCG(n, 5)) }

// list are the patterns of floats.
func list(l ...float64) []int {
	b := make([]int, len(l))
	for i, f := range l {
		b[i] = of(f)
	}
	return b
}

// list32 are those of binary32.
func list32(l ...float32) []int {
	b := make([]int, len(l))
	for i, f := range l {
		b[i] = of32(f)
	}
	return b
}

// value is the float of a pattern.
func value(b int) float64 { return math.Float64frombits(uint64(b)) }

// value32 is the same of binary32; what is no pattern of 32 bits is no number.
func value32(b int) float64 {
	if b < 0 || b >= 1<<32 {
		return math.NaN()
	}
	return float64(math.Float32frombits(uint32(b)))
}

// allWays are the four of them.
func allWays() []int { return []int{api.Near, api.Down, api.Up, api.Zero} }

// noWays are ints that are none.
func noWays() []int { return []int{4, -1, 5, math.MaxInt, math.MinInt} }

// toward tells to which infinity a way goes from the number, where the nearest float is not it; 0: that float stands.
func toward(x *big.Float, way int, lies big.Accuracy) int {
	switch {
	case lies == big.Above && (way == api.Down || way == api.Zero && x.Sign() > 0):
		return -1
	case lies == big.Below && (way == api.Up || way == api.Zero && x.Sign() < 0):
		return 1
	}
	return 0
}

// rounded is the binary64 that a way asks for, by the library; a nought has no sign.
func rounded(x *big.Float, way int) int {
	f, lies := x.Float64()
	if to := toward(x, way, lies); to != 0 {
		f = math.Nextafter(f, math.Inf(to))
	}
	return of(f + 0)
}

// rounded32 is the same of binary32.
func rounded32(x *big.Float, way int) int {
	f, lies := x.Float32()
	if to := toward(x, way, lies); to != 0 {
		f = math.Nextafter32(f, float32(math.Inf(to)))
	}
	return of32(f + 0)
}

// wide is a finite float with room for all bits of every sum.
func wide(f float64) *big.Float { return new(big.Float).SetPrec(6000).SetFloat64(f) }

// wideRoot is a square root with some hundred bits, and one more behind them, if that is not all of it: none of them is a float, nor between two.
func wideRoot(x *big.Float) *big.Float {
	const shift = 1474 // makes a whole number of a sum of squares, and one of 800 bits of the least
	m, _ := new(big.Float).SetMantExp(x, 2*shift).Int(nil)
	s := new(big.Int).Sqrt(m)
	rest := new(big.Int).Sub(m, new(big.Int).Mul(s, s)).Sign()
	root := new(big.Float).SetInt(s.Lsh(s, 1).Add(s, big.NewInt(int64(rest))))
	return root.SetMantExp(root, -shift-1)
}

// special are patterns of every class that a sum treats in its own way.
func special() []int {
	return []int{0, minus0, 1, minus0 + 1, 1<<52 - 1, 1 << 52, of(1), of(-1), of(1) + 1, of(0x1p53), of(-0x1p53), of(0x1p600), of(-0x1p600), of(0x1p1023), top, top | minus0, api.Inf, minusInf, api.NaN, api.Inf + 1, -1}
}

// special32 are the same of binary32, and ints that are no patterns of it.
func special32() []int {
	l := []int{0, 1, 1<<23 - 1, 1 << 23, of32(1), of32(1) + 1, of32(0x1p24), of32(0x1p100), of32(0x1p127), top32, api.Inf32, api.NaN32, api.Inf32 + 1}
	for _, b := range slices.Clone(l) {
		l = append(l, b|minus032)
	}
	return append(l, 1<<32, -1, math.MinInt, math.MaxInt, 1<<32+of32(1))
}

// mixed is a finite float whose exponent lies between two.
func mixed(r *rand.Rand, low, high int) float64 {
	return math.Ldexp((1+r.Float64())*float64(1-2*r.IntN(2)), low+r.IntN(high-low))
}

// finite are lists of finite floats that round in some way: mixed ones near to each other and far apart, such that all but cancel, and such that lie in the middle of two floats or just beside it.
func finite(seed uint64) [][]int {
	l, r := [][]int{nil, {}, {0}, {minus0}, {minus0, minus0}, {0, minus0}, {1}, {minus0 + 1}, {1, minus0 + 1}, {top, top}, {top, of(0x1p970)}, {top, of(0x1p970), minus0 + 1}, {top, of(0x1p969)}, {top | minus0, of(-0x1p970)}, {of(0x1p1023), of(0x1p1023), of(-0x1p1023)}, {of(1), 1}, {of(-1), 1}, {of(1), minus0 + 1}}, seeded(seed)
	for i := range 400 {
		low, high := []int{-3, -60, -1074, 900, -1074}[i%5], []int{3, 60, 1020, 1023, -1000}[i%5]
		a := make([]int, 1+r.IntN(12))
		for j := range a {
			a[j] = of(mixed(r, low, high))
		}
		l = append(l, a, opposed(r, a), middle(r))
	}
	return l
}

// opposed is a list with its opposites, all mixed up, and a little float.
func opposed(r *rand.Rand, a []int) []int {
	l := append(slices.Clone(a), of(mixed(r, -1074, -900)))
	for _, b := range a {
		l = append(l, b^minus0)
	}
	r.Shuffle(len(l), func(i, j int) { l[i], l[j] = l[j], l[i] })
	return l
}

// middle is a float of either width, half of what its last bit is worth, and often something far less, of either sign.
func middle(r *rand.Rand) []int {
	f, size := mixed(r, -50, 50), 53
	if r.IntN(2) == 0 {
		f, size = float64(float32(f)), 24
	}
	_, e := math.Frexp(f)
	l := []int{of(f), of(math.Ldexp(float64(1-2*r.IntN(2)), e-size-1))}
	if r.IntN(3) > 0 {
		l = append(l, of(mixed(r, -1074, -120)))
	}
	r.Shuffle(len(l), func(i, j int) { l[i], l[j] = l[j], l[i] })
	return l
}

// narrowed are the floats of lists as binary32, those that have one at least near to them.
func narrowed(lists [][]int) [][]int {
	l := make([][]int, len(lists))
	for i, a := range lists {
		for _, b := range a {
			if f := float32(value(b)); !math.IsInf(float64(f), 0) {
				l[i] = append(l[i], of32(f))
			}
		}
	}
	return l
}

// anyOf are lists of so many of some patterns.
func anyOf(r *rand.Rand, from []int, lists, length int) [][]int {
	l := make([][]int, lists)
	for i := range l {
		for range r.IntN(length + 1) {
			l[i] = append(l[i], from[r.IntN(len(from))])
		}
	}
	return l
}
