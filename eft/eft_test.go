package eft

import (
	"math"
	"math/big"
	mathbits "math/bits"
	"testing"

	"plumb/api"
	"plumb/bits"
)

func TestStepsAndExactness(t *testing.T) {
	for _, c := range calls() {
		exact, not, faults := 0, 0, 0
		for _, x := range samples(1) {
			got, want := told3(c.got(x.a, x.b)), c.want(x.a, x.b)
			if got.exact {
				exact++
			} else {
				not++
			}
			if got != want && faults < 9 {
				faults++
				t.Errorf("%s, P605: of %#x, %#x: %v, want %v", c.name, x.a, x.b, got, want)
			}
		}
		if exact < 1000 || not < 1000 {
			t.Errorf("%s: of the samples %d are exact, %d not: too few to tell", c.name, exact, not)
		}
	}
}

// below tells whether a value, sign aside, is less than 2^e.
func below(b, e int) bool { return math.Abs(value(b)) < math.Ldexp(1, e) }

// productWithin tells whether a product is 0, or from 2^-969 to 2^1023.
func productWithin(a, b int) bool {
	x := new(big.Float).SetPrec(200).Mul(wide(a), wide(b))
	x.Abs(x)
	return x.Sign() == 0 || x.Cmp(big.NewFloat(0x1p-969)) >= 0 && x.Cmp(big.NewFloat(0x1p1023)) <= 0
}

func TestWhereAllIsExact(t *testing.T) {
	seen := make([]int, 5)
	holds := func(i int, what string, x pair, exact bool) {
		seen[i]++
		if !exact {
			t.Errorf("P606: %s of %#x, %#x is not exact", what, x.a, x.b)
		}
	}
	for _, x := range samples(2) {
		if below(x.a, 1023) && below(x.b, 1023) {
			holds(0, "TwoSum", x, told3(TwoSum(x.a, x.b)).exact)
			holds(1, "TwoDiff", x, told3(TwoDiff(x.a, x.b)).exact)
			if value(x.a) == 0 || math.Abs(value(x.a)) >= math.Abs(value(x.b)) {
				holds(2, "FastTwoSum", x, told3(FastTwoSum(x.a, x.b)).exact)
			}
		}
		if below(x.a, 996) {
			holds(3, "Split", x, told3(Split(x.a)).exact)
		}
		if below(x.a, 996) && below(x.b, 996) && productWithin(x.a, x.b) {
			holds(4, "TwoProd", x, told3(TwoProd(x.a, x.b)).exact)
		}
	}
	for i, n := range seen {
		if n < 1000 {
			t.Errorf("P606: %d samples of kind %d: too few to tell", n, i)
		}
	}
}

// bitsOf is how many bits a value has from its highest to its lowest one that is set.
func bitsOf(b int) int {
	_, mag, _, _ := bits.Parts(b)
	if mag == 0 {
		return 0
	}
	return mathbits.Len(uint(mag)) - mathbits.TrailingZeros(uint(mag))
}

func TestHalves(t *testing.T) {
	for _, x := range samples(3) {
		if !below(x.a, 996) {
			continue
		}
		if h, l, _ := Split(x.a); bitsOf(h) > 26 || bitsOf(l) > 26 {
			t.Errorf("P606: Split(%#x): halves of %d and %d bits", x.a, bitsOf(h), bitsOf(l))
		}
	}
}

func TestWhatIsNotFinite(t *testing.T) {
	strays := []int{api.Inf, minusInf, api.NaN, api.Inf + 1, -1, math.MaxInt, minusInf + 1}
	for _, c := range calls() {
		for _, x := range strays {
			for _, y := range append(strays, 0, minus0, 1, of(1), of(-1), top, top|minus0) {
				for _, p := range []pair{{x, y}, {y, x}} {
					if c.one {
						p.a = x
					}
					got := told3(c.got(p.a, p.b))
					if got.exact || finite(got.l) {
						t.Errorf("%s, P605: of %#x, %#x: %v", c.name, p.a, p.b, got)
					}
					for _, b := range []int{got.h, got.l} {
						if bits.Class(b) == api.IsNaN && b != api.NaN {
							t.Errorf("%s: of %#x, %#x: no number is told as %#x", c.name, p.a, p.b, b)
						}
					}
				}
			}
		}
	}
}

func TestExamples(t *testing.T) {
	one, tiny, inf := of(1), of(0x1p-60), api.Inf
	ulp := one + 1 // 1 + 2^-52
	for i, x := range []struct{ got, want answer }{
		{told3(TwoSum(one, tiny)), answer{one, tiny, true}}, {told3(TwoSum(tiny, one)), answer{one, tiny, true}},
		{told3(FastTwoSum(one, tiny)), answer{one, tiny, true}}, {told3(FastTwoSum(tiny, one)), answer{one, 0, false}},
		{told3(FastTwoSum(one, of(3))), answer{of(4), 0, true}}, {told3(FastTwoSum(0, one)), answer{one, 0, true}},
		{told3(TwoSum(inf, one)), answer{inf, api.NaN, false}}, {told3(FastTwoSum(one, inf)), answer{inf, api.NaN, false}}, {told3(TwoSum(top, top)), answer{inf, api.NaN, false}}, {told3(FastTwoSum(top, top)), answer{inf, minusInf, false}}, {told3(TwoSum(of(-0x1.8p971), top)), answer{top - 1, api.NaN, false}}, {told3(TwoSum(top, of(-0x1.8p971))), answer{top - 1, of(-0x1p970), true}},
		{told3(TwoDiff(one, one)), answer{0, 0, true}}, {told3(TwoDiff(one, tiny)), answer{one, tiny | minus0, true}}, {told3(TwoDiff(tiny, one)), answer{of(-1), tiny, true}}, {told3(TwoDiff(one, -1)), answer{api.NaN, api.NaN, false}},
		{told3(TwoSum(minus0, minus0)), answer{minus0, 0, true}}, {told3(TwoDiff(minus0, 0)), answer{minus0, 0, true}}, {told3(FastTwoSum(minus0, minus0)), answer{minus0, minus0, true}}, {told3(TwoSum(1, minus0+2)), answer{minus0 + 1, 0, true}},
		{told3(Split(ulp)), answer{one, of(0x1p-52), true}}, {told3(Split(of(0x1p1000))), answer{api.NaN, api.NaN, false}}, {told3(Split(of(0x1p996))), answer{of(0x1p996), 0, true}}, {told3(Split(1)), answer{1, 0, true}}, {told3(Split(inf)), answer{api.NaN, api.NaN, false}}, {told3(Split(of(1 + 0x1p-26))), answer{one, of(0x1p-26), true}},
		{told3(TwoProd(ulp, ulp)), answer{one + 2, of(0x1p-104), true}}, {told3(Square(ulp)), answer{one + 2, of(0x1p-104), true}}, {told3(TwoProd(of(3), of(-5))), answer{of(-15), 0, true}},
		{told3(TwoProd(of(0x1p-600), of(0x1p-600))), answer{0, 0, false}}, {told3(Square(of(0x1p-600))), answer{0, 0, false}}, {told3(Square(of(0x1p-537))), answer{1, 0, true}}, {told3(TwoProd(1, of(0.5))), answer{0, 0, false}}, {told3(TwoProd(1, of(3))), answer{3, 0, true}}, {told3(TwoProd(3, of(0.5))), answer{2, 0, false}},
		{told3(TwoProd(of(0x1p1000), one)), answer{of(0x1p1000), api.NaN, false}}, {told3(TwoProd(0, of(0x1p1000))), answer{0, api.NaN, false}}, {told3(TwoProd(0, tiny)), answer{0, 0, true}}, {told3(TwoProd(minus0, tiny)), answer{minus0, 0, true}}, {told3(TwoProd(0, inf)), answer{api.NaN, api.NaN, false}}, {told3(Square(of(0x1p600))), answer{inf, api.NaN, false}},
	} {
		if x.got != x.want {
			t.Errorf("P601 to P605: example %d: %v, want %v", i, x.got, x.want)
		}
	}
}

func TestAnswersHangOnArgumentsAlone(t *testing.T) {
	l := samples(4)
	for _, c := range calls() {
		for i, x := range l[:3000] {
			got := told3(c.got(x.a, x.b))
			y := l[len(l)-1-i]
			c.got(y.a, y.b)
			if again := told3(c.got(x.a, x.b)); again != got {
				t.Errorf("%s, P607: of %#x, %#x: told %v, then %v", c.name, x.a, x.b, got, again)
			}
		}
	}
}
