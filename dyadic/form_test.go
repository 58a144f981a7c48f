package dyadic

import (
	"math"
	"math/big"
	"testing"

	"plumb/api"
)

func TestValid(t *testing.T) {
	for _, x := range samples(1) {
		if !Valid(x) {
			t.Errorf("P301: Valid(%v), %d digits, is false", head(x), len(x.Mag))
		}
	}
	for _, x := range invalid() {
		if Valid(x) {
			t.Errorf("P301: Valid(%v), %d digits, is true", head(x), len(x.Mag))
		}
	}
}

func TestMake(t *testing.T) {
	exps := []int{0, 1, -1, -5, 30, 60000, -60000, api.MaxExp, -api.MaxExp, api.MaxExp - 1, api.MaxExp + 1, -api.MaxExp - 1, -api.MaxExp - 2, api.MaxExp - 30, -api.MaxExp - 30, -api.MaxExp - 59999, -api.MaxExp - 60000}
	for _, x := range samples(2) {
		for _, zeros := range []int{0, 1, 29, 30, 31, 90} {
			mag := new(big.Int).Lsh(wide(x).m, uint(zeros))
			digits := even(t, mag)
			for _, exp := range exps {
				got, e := Make(x.Neg, digits, exp)
				want := exact{mag, exp}
				if len(digits) > api.MaxDigits {
					refused(t, "P303: Make of too many digits", got, e, api.ErrNat)
				} else {
					check(t, "P303: Make", got, e, want)
				}
			}
		}
	}
}

// even are the digits of a number, even or not, signs aside.
func even(t *testing.T, x *big.Int) []int {
	t.Helper()
	var l []int
	for rest := new(big.Int).Abs(x); rest.Sign() > 0; rest.Rsh(rest, 30) {
		l = append(l, int(rest.Uint64()&(1<<30-1)))
	}
	return l
}

func TestMakeAtTheEnds(t *testing.T) {
	far := []int{math.MaxInt, math.MaxInt - 1, math.MaxInt - 60000, 1 << 62, 1 << 21, math.MinInt, math.MinInt + 1, math.MinInt + 60000, -1 << 62, -1 << 21}
	high := append(make([]int, api.MaxDigits-1), 1<<29) // 2^59999
	for _, exp := range far {
		for _, mag := range [][]int{{1}, {2}, {0, 1}, high, ones(0).Mag} {
			got, e := Make(false, mag, exp)
			refused(t, "P303: Make of an exponent far out", got, e, api.ErrLong)
		}
		for _, neg := range []bool{false, true} {
			got, e := Make(neg, nil, exp)
			check(t, "P303: Make of 0", got, e, exact{new(big.Int), 0})
		}
		got, e := Make(true, []int{0}, exp)
		refused(t, "P303: Make of no natural number", got, e, api.ErrNat)
	}
	for _, x := range []struct {
		exp int
		e   api.Errno
	}{{api.MaxExp - 59999, api.OK}, {api.MaxExp - 59998, api.ErrLong}, {-api.MaxExp - 59999, api.OK}, {-api.MaxExp - 60000, api.ErrLong}} {
		if got, e := Make(true, high, x.exp); e != x.e || e == api.OK && !equal(got, num(-1, x.exp+59999)) {
			t.Errorf("P303: Make of 2^59999 and %d: %v, error %d", x.exp, got, e)
		}
	}
}

// value64 is a float's value by the library.
func value64(f float64) exact {
	m := new(big.Float).SetFloat64(f)
	e := m.MantExp(m)
	whole, _ := m.SetMantExp(m, 53).Int(nil)
	return exact{whole, e - 53}
}

func TestOf(t *testing.T) {
	patterns := []int{0, 1, 2, 3, 1<<52 - 1, 1 << 52, 1<<52 + 1, 0x3FF0000000000000, 0x3FF8000000000000, api.Inf - 1}
	r := seeded(7)
	for field := range 2047 {
		patterns = append(patterns, field<<52, field<<52|r.IntN(1<<52), field<<52|r.IntN(1<<52)&^(1<<r.IntN(52)-1))
	}
	for _, b := range patterns {
		for _, p := range []int{b, b | math.MinInt} {
			f := math.Float64frombits(uint64(p))
			x, e := Of(p)
			check(t, "P304: Of", x, e, value64(f))
			if back, ok := Float(x); !ok || math.Float64frombits(uint64(back)) != f || f == 0 && back != 0 {
				t.Errorf("P304, P309: Float(Of(%#x)) = %#x, %v", p, back, ok)
			}
		}
	}
	for _, b := range []int{api.Inf, api.Inf | math.MinInt, api.NaN, api.Inf + 1, -1, math.MaxInt} {
		x, e := Of(b)
		refused(t, "P304: Of what is not finite", x, e, api.ErrFinite)
	}
}

func TestOf32(t *testing.T) {
	patterns := []int{0, 1, 2, 1<<23 - 1, 1 << 23, api.Inf32 - 1}
	r := seeded(8)
	for field := range 255 {
		patterns = append(patterns, field<<23, field<<23|r.IntN(1<<23))
	}
	for _, b := range patterns {
		for _, p := range []int{b, b | 1<<31} {
			x, e := Of32(p)
			check(t, "P304: Of32", x, e, value64(float64(math.Float32frombits(uint32(p)))))
		}
	}
	for _, b := range []int{api.Inf32, api.Inf32 | 1<<31, api.NaN32, api.Inf32 + 1, 1<<32 - 1, 1 << 32, 1<<32 + 1, -1, math.MinInt, math.MaxInt} {
		x, e := Of32(b)
		refused(t, "P304: Of32 of what is not finite, or no pattern", x, e, api.ErrFinite)
	}
}

func TestFloat(t *testing.T) {
	for _, x := range []struct {
		x  api.Num
		b  int
		ok bool
	}{
		{num(1, 1023), 0x7FE0000000000000, true}, {num(1, 1024), 0, false}, {num(-1, 1024), 0, false}, {num(1, -1074), 1, true}, {num(-1, -1074), math.MinInt + 1, true},
		{num(1, -1075), 0, false}, {num(3, -1075), 0, false}, {num(3, -1074), 3, true}, {api.Num{}, 0, true}, {api.Num{Mag: []int{}}, 0, true}, {num(1, api.MaxExp), 0, false}, {num(-1, -api.MaxExp), 0, false},
		{api.Num{Mag: []int{1<<30 - 1, 1<<23 - 1}, Exp: 971}, api.Inf - 1, true}, {api.Num{Mag: []int{1<<30 - 1, 1<<23 - 1}, Exp: 972}, 0, false}, {api.Num{Mag: []int{1, 1 << 22}}, 0x4330000000000001, true},
		{api.Num{Mag: []int{1, 1 << 23}}, 0, false}, {api.Num{Mag: []int{1, 1 << 29}}, 0, false}, {api.Num{Mag: []int{1, 0, 4}}, 0, false}, {api.Num{Mag: []int{1, 0, 8}}, 0, false}, {api.Num{Mag: []int{1, 0, 0, 1}}, 0, false},
		{api.Num{Mag: []int{1<<30 - 1, 1<<22 - 1}, Exp: -1074}, 1<<52 - 1, true}, {api.Num{Mag: []int{1<<30 - 1, 1<<22 - 1}, Exp: -1075}, 0, false}, {ones(0), 0, false}, {ones(-60000), 0, false},
	} {
		if b, ok := Float(x.x); b != x.b || ok != x.ok {
			t.Errorf("P309: Float(%v) = %#x, %v", head(x.x), b, ok)
		}
	}
	for _, x := range invalid() {
		if b, ok := Float(x); b != 0 || ok {
			t.Errorf("P302: Float(%v) = %#x, %v", head(x), b, ok)
		}
	}
}
