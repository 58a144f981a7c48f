package round

import (
	"math"
	"math/big"
	"testing"

	"plumb/api"
)

// width is a kind of float as the tests look at it.
type width struct {
	name    string
	float   func(b int) float64 // the value of a pattern: a binary64 has those of both kinds
	rounded func(x *big.Float, way int) int
	none    int
	sign    int
}

func wide64() width { return width{"", float, rounded64, api.NaN, minus0} }

func wide32() width {
	return width{"32", func(b int) float64 {
		if b < 0 || b > math.MaxUint32 {
			return math.NaN()
		}
		return float64(float32Of(b))
	}, rounded32, api.NaN32, minus032}
}

// exactly is a finite float's value, with room for every product of two and every sum of these.
func exactly(f float64) *big.Float { return new(big.Float).SetPrec(8000).SetFloat64(f) }

func finite(l ...float64) bool {
	for _, f := range l {
		if math.IsNaN(f) || math.IsInf(f, 0) {
			return false
		}
	}
	return true
}

// nought is the pattern of 0 with a sign.
func (k width) nought(neg bool) int {
	if neg {
		return k.sign
	}
	return 0
}

// infinity is the pattern of infinity with a sign.
func (k width) infinity(neg bool) int { return k.rounded(exactly(0).SetInf(neg), api.Near) }

// sum is what P403 asks of a sum.
func (k width) sum(x, y float64, way int) int {
	switch {
	case math.IsNaN(x) || math.IsNaN(y) || math.IsInf(x, 1) && math.IsInf(y, -1) || math.IsInf(x, -1) && math.IsInf(y, 1):
		return k.none
	case math.IsInf(x, 0):
		return k.infinity(x < 0)
	case math.IsInf(y, 0):
		return k.infinity(y < 0)
	case x == 0 && y == 0 && math.Signbit(x) == math.Signbit(y):
		return k.nought(math.Signbit(x))
	case x == -y:
		return k.nought(way == api.Down)
	}
	return k.rounded(exactly(0).Add(exactly(x), exactly(y)), way)
}

// product is what it asks of a product.
func (k width) product(x, y float64, way int) int {
	neg := math.Signbit(x) != math.Signbit(y)
	switch {
	case math.IsNaN(x) || math.IsNaN(y) || x == 0 && math.IsInf(y, 0) || y == 0 && math.IsInf(x, 0):
		return k.none
	case !finite(x, y):
		return k.infinity(neg)
	case x == 0 || y == 0:
		return k.nought(neg)
	}
	return k.rounded(exactly(0).Mul(exactly(x), exactly(y)), way)
}

// quotient is what it asks of a quotient.
func (k width) quotient(x, y float64, way int) int {
	neg := math.Signbit(x) != math.Signbit(y)
	switch {
	case math.IsNaN(x) || math.IsNaN(y) || x == 0 && y == 0 || math.IsInf(x, 0) && math.IsInf(y, 0):
		return k.none
	case math.IsInf(x, 0) || y == 0:
		return k.infinity(neg)
	case math.IsInf(y, 0) || x == 0:
		return k.nought(neg)
	}
	return k.rounded(wideQuotient(numOf(of(x)), numOf(of(y))), way)
}

// root is what it asks of a square root.
func (k width) root(x float64, way int) int {
	switch {
	case math.IsNaN(x) || x < 0:
		return k.none
	case math.IsInf(x, 1):
		return k.infinity(false)
	case x == 0:
		return k.nought(math.Signbit(x))
	}
	return k.rounded(wideRoot(numOf(of(x))), way)
}

// fused is what it asks of a product and a sum.
func (k width) fused(x, y, z float64, way int) int {
	switch {
	case !finite(x, y) || x == 0 || y == 0: // there is nothing to round in the product
		return k.sum(k.float(k.product(x, y, way)), z, way)
	case !finite(z):
		return k.sum(0, z, way)
	}
	total := exactly(0).Mul(exactly(x), exactly(y))
	total.Add(total, exactly(z))
	if total.Sign() == 0 {
		return k.nought(way == api.Down)
	}
	return k.rounded(total, way)
}

type two = func(a, b, way int) (int, api.Errno)

type one = func(a, way int) (int, api.Errno)

// checkTwo holds a call to what is asked of each two patterns in each way.
func checkTwo(t *testing.T, name string, call two, l []int, k width, want func(x, y float64, way int) int) {
	for _, a := range l {
		for _, b := range l {
			for _, way := range allWays() {
				if got, e := call(a, b, way); e != api.OK || got != want(k.float(a), k.float(b), way) {
					t.Errorf("P403: %s%s(%#x, %#x, %d) = %#x, error %d; want %#x", name, k.name, a, b, way, got, e, want(k.float(a), k.float(b), way))
				}
			}
		}
	}
}

// checkOne does the same of each pattern.
func checkOne(t *testing.T, name string, call one, l []int, k width, want func(x float64, way int) int) {
	for _, a := range l {
		for _, way := range allWays() {
			if got, e := call(a, way); e != api.OK || got != want(k.float(a), way) {
				t.Errorf("%s%s(%#x, %d) = %#x, error %d; want %#x", name, k.name, a, way, got, e, want(k.float(a), way))
			}
		}
	}
}

func TestSums(t *testing.T) {
	checkTwo(t, "Add", Add, patterns(1), wide64(), wide64().sum)
	checkTwo(t, "Add", Add32, patterns32(1), wide32(), wide32().sum)
	checkTwo(t, "Sub", Sub, patterns(2), wide64(), func(x, y float64, way int) int { return wide64().sum(x, -y, way) })
}

func TestProducts(t *testing.T) {
	checkTwo(t, "Mul", Mul, patterns(3), wide64(), wide64().product)
	checkTwo(t, "Mul", Mul32, patterns32(3), wide32(), wide32().product)
}

func TestQuotients(t *testing.T) {
	checkTwo(t, "Div", Div, patterns(4), wide64(), wide64().quotient)
	checkTwo(t, "Div", Div32, patterns32(4), wide32(), wide32().quotient)
}

func TestRoots(t *testing.T) {
	l, l32, r := patterns(5), patterns32(5), seeded(5)
	for range 300 { // squares of short floats, and their neighbours
		f := float64(r.IntN(1 << 26))
		l = append(l, of(f*f), of(f*f)+1, of(f*f*0x1p-1060), int(r.Uint64()>>1))
		g := float32(r.IntN(1 << 12))
		l32 = append(l32, of32(g*g), of32(g*g)+1, int(r.Uint32()>>1))
	}
	checkOne(t, "P403: Sqrt", Sqrt, l, wide64(), wide64().root)
	checkOne(t, "P403: Sqrt", Sqrt32, l32, wide32(), wide32().root)
}

func TestFma(t *testing.T) {
	k := wide64()
	check := func(a, b, c int) {
		for _, way := range allWays() {
			if got, e := Fma(a, b, c, way); e != api.OK || got != k.fused(float(a), float(b), float(c), way) {
				t.Errorf("P403: Fma(%#x, %#x, %#x, %d) = %#x, error %d; want %#x", a, b, c, way, got, e, k.fused(float(a), float(b), float(c), way))
			}
		}
	}
	short := []int{0, 1, 1 << 52, of(0.1), of(0.5), of(1), of(1) + 1, of(3), of(0x1p-537), of(0x1p600), top, api.Inf, api.NaN}
	for _, b := range short[:len(short):len(short)] {
		short = append(short, b|minus0)
	}
	for _, a := range short {
		for _, b := range short {
			for _, c := range short {
				check(a, b, c)
			}
		}
	}
	r := seeded(7)
	for range 1000 { // sums that take each other away, all or nearly
		x, y := math.Ldexp(r.Float64()-0.5, r.IntN(1000)-500), math.Ldexp(r.Float64()-0.5, r.IntN(600)-300)
		check(of(x), of(y), of(-float64(x*y)))
		check(of(x), of(y), of(-float64(x*y))+r.IntN(3)-1)
		check(of(float64(float32(x))), of(float64(float32(y))), of(-float64(float32(x))*float64(float32(y))))
	}
}

func TestExamplesOfOperations(t *testing.T) {
	for i, x := range []struct {
		call      two
		a, b, way int
		want      int
	}{
		{Add, 0, minus0, api.Near, 0}, {Add, 0, minus0, api.Down, minus0}, {Add, of(1), of(-1), api.Down, minus0}, {Add, api.Inf, minusInf, 0, api.NaN},
		{Mul, minus0, api.Inf, 0, api.NaN}, {Div, of(-1), 0, 0, minusInf}, {Div, 0, of(-5), 0, minus0},
		{Add, 0, 0, api.Down, 0}, {Add, minus0, minus0, api.Up, minus0}, {Add, minus0, 0, api.Zero, 0}, {Sub, 0, 0, api.Down, minus0}, {Sub, minus0, minus0, api.Up, 0}, {Sub, of(2), of(2), api.Down, minus0},
		{Add, of(1), of(0x1p-1074), api.Up, of(1) + 1}, {Add, of(-1), of(0x1p-1074), api.Zero, of(-1) - 1}, {Add, top, 1, api.Near, top}, {Add, top, 1, api.Up, api.Inf}, {Add, top, 1, api.Zero, top}, {Add, top | minus0, of(-1), api.Down, minusInf},
		{Mul, 1, of(-0.5), api.Up, minus0}, {Mul, 1, of(-0.5), api.Near, minus0}, {Mul, 1, of(-0.5), api.Down, minus0 + 1}, {Mul, 1, of(-0.5), api.Zero, minus0}, {Mul, top, top, api.Zero, top}, {Mul, top, top | minus0, api.Up, top | minus0},
		{Div, 1, of(-2), api.Zero, minus0}, {Div, of(5), minusInf, api.Up, minus0}, {Div, api.Inf, minus0, 3, minusInf}, {Div, of(1), of(3), api.Up, of(1.0/3) + 1},
		{Add32, of32(1), 1 << 32, 3, api.NaN32}, {Add32, of32(1) | minus032, of32(1), api.Down, minus032}, {Mul32, 1, of32(0.5) | minus032, api.Zero, minus032}, {Mul32, -1, 0, 1, api.NaN32}, {Div32, of32(1), minus032, 2, api.Inf32 | minus032},
	} {
		if got, e := x.call(x.a, x.b, x.way); got != x.want || e != api.OK {
			t.Errorf("P403: example %d: %#x, error %d; want %#x", i, got, e, x.want)
		}
	}
	for i, x := range [][5]int{
		{of(0x1p600), of(0x1p600), minusInf, 0, minusInf}, {of(0x1p600), of(0x1p600), of(-0x1p1023), api.Near, api.Inf}, {0, of(5), minus0, api.Near, 0},
		{0, of(5), minus0, api.Down, minus0}, {0, of(5), 0, api.Down, 0}, {of(-5), 0, minus0, api.Up, minus0}, {1, of(-0.25), 0, api.Near, minus0}, {1, of(-0.25), 0, api.Down, minus0 + 1}, {1, of(0.25), minus0, api.Down, 0}, {of(3), of(2), of(-6), api.Down, minus0}, {of(3), of(2), of(-6), api.Zero, 0},
		{0, api.Inf, api.NaN, 1, api.NaN}, {api.Inf, of(1), minusInf, 2, api.NaN}, {of(0x1p600), of(0x1p600), of(-0x1p1023), api.Zero, top},
	} {
		if got, e := Fma(x[0], x[1], x[2], x[3]); got != x[4] || e != api.OK {
			t.Errorf("P403: Fma, example %d: %#x, error %d; want %#x", i, got, e, x[4])
		}
	}
	for _, way := range allWays() {
		nought, e := Sqrt(minus0, way)
		none, f := Sqrt(of(-1), way)
		if nought != minus0 || none != api.NaN || e != api.OK || f != api.OK {
			t.Errorf("P403: the roots of -0 and -1 in way %d: %#x, %#x", way, nought, none)
		}
	}
}
