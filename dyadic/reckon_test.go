package dyadic

import (
	"math"
	"math/big"
	"slices"
	"testing"

	"plumb/api"
)

func TestNegAndAbs(t *testing.T) {
	for _, x := range samples(3) {
		got, e := Neg(x)
		check(t, "P305: Neg", got, e, wide(x).minus())
		got, e = Abs(x)
		check(t, "P305: Abs", got, e, exact{new(big.Int).Abs(wide(x).m), x.Exp})
	}
}

func TestAddSubMulAndCmp(t *testing.T) {
	l := samples(4)
	values := make([]exact, len(l))
	for i, x := range l {
		values[i] = wide(x)
	}
	for i, a := range l {
		for j, b := range l {
			if max(i, j) >= len(edges()) && (i+j)%4 != 0 { // of pairs with mixed ones a part will do
				continue
			}
			got, e := Add(a, b)
			check(t, "P305: Add", got, e, values[i].plus(values[j]))
			got, e = Sub(a, b)
			check(t, "P305: Sub", got, e, values[i].plus(values[j].minus()))
			got, e = Mul(a, b)
			check(t, "P305: Mul", got, e, values[i].times(values[j]))
			if c, e := Cmp(a, b); e != api.OK || c != values[i].cmp(values[j]) {
				t.Errorf("P308: Cmp(%v, %v) = %d, error %d", head(a), head(b), c, e)
			}
		}
		if s, e := Sign(a); e != api.OK || s != values[i].m.Sign() {
			t.Errorf("P308: Sign(%v) = %d, error %d", head(a), s, e)
		}
	}
}

// Sums and products of 60,000 bits and one more, and exponents that just go out of their range.
func TestJustTooLong(t *testing.T) {
	type call func(a, b api.Num) (api.Num, api.Errno)
	half := api.Num{Mag: slices.Repeat([]int{1<<30 - 1}, 1000)} // 2^30000 - 1
	for i, x := range []struct {
		f    call
		a, b api.Num
		e    api.Errno
	}{
		{Add, num(1, 59999), num(1, 0), api.OK}, {Add, num(1, 60000), num(1, 0), api.ErrLong}, {Sub, num(1, 60000), num(1, 0), api.OK}, {Sub, num(1, 60001), num(1, 0), api.ErrLong}, {Sub, num(1, 0), num(1, 60001), api.ErrLong},
		{Add, ones(0), num(1, 0), api.OK}, {Add, ones(0), num(1, 1), api.ErrLong}, {Add, ones(0), num(1, -1), api.ErrLong}, {Sub, ones(0), num(1, -1), api.ErrLong}, {Sub, ones(0), num(1, 59999), api.OK}, {Add, ones(0), num(1, 60000), api.ErrLong}, {Add, ones(0), ones(0), api.OK},
		{Mul, half, half, api.OK}, {Mul, half, api.Num{Mag: append(slices.Clone(half.Mag), 1)}, api.ErrLong}, {Mul, ones(0), num(1, 5), api.OK}, {Mul, ones(0), num(3, 0), api.ErrLong}, {Mul, ones(0), ones(0), api.ErrLong},
		{Add, num(1, api.MaxExp), num(1, api.MaxExp), api.ErrLong}, {Add, num(1, api.MaxExp), num(3, api.MaxExp), api.ErrLong}, {Add, num(1, api.MaxExp), num(1, api.MaxExp-1), api.OK}, {Sub, num(3, api.MaxExp), num(1, api.MaxExp), api.ErrLong}, {Sub, num(1, api.MaxExp), num(1, api.MaxExp), api.OK},
		{Add, num(1, -api.MaxExp), num(1, -api.MaxExp), api.OK}, {Add, num(1, api.MaxExp), num(1, -api.MaxExp), api.ErrLong}, {Mul, num(1, api.MaxExp), num(1, -api.MaxExp), api.OK}, {Mul, num(1, api.MaxExp), num(1, 1), api.ErrLong}, {Mul, num(1, -api.MaxExp), num(1, -1), api.ErrLong}, {Mul, num(1, -api.MaxExp), num(3, 0), api.OK},
	} {
		got, e := x.f(x.a, x.b)
		if e != x.e || !Valid(got) || e != api.OK && len(got.Mag) > 0 {
			t.Errorf("P302, P305: row %d: %v, error %d", i, head(got), e)
		}
	}
}

func TestScale(t *testing.T) {
	for _, x := range samples(5) {
		for _, k := range []int{0, 1, -1, 30, -31, 5000, api.MaxExp, -api.MaxExp, api.MaxExp + 1, -api.MaxExp - 1, 2 * api.MaxExp, -2 * api.MaxExp, 2*api.MaxExp + 1, -2*api.MaxExp - 1, api.MaxExp - x.Exp, api.MaxExp - x.Exp + 1, -api.MaxExp - x.Exp, -api.MaxExp - x.Exp - 1} {
			got, e := Scale(x, k)
			check(t, "P306: Scale", got, e, exact{wide(x).m, x.Exp + k})
		}
		for _, k := range []int{1 << 62, -1 << 62, math.MaxInt, math.MinInt, math.MaxInt - api.MaxExp, math.MinInt + api.MaxExp, 1 << 32, -1 << 32} {
			got, e := Scale(x, k)
			if len(x.Mag) == 0 {
				check(t, "P306: Scale of 0", got, e, wide(x))
			} else {
				refused(t, "P306: Scale by far too much", got, e, api.ErrLong)
			}
		}
	}
}

func TestSum(t *testing.T) {
	got, e := Sum(nil)
	check(t, "P307: Sum of none", got, e, exact{new(big.Int), 0})
	r := seeded(6)
	pool := samples(6)
	for range 300 {
		l, want := []api.Num{}, exact{new(big.Int), 0}
		for range r.IntN(9) {
			x := pool[r.IntN(len(pool))]
			l = append(l, x)
			want = want.plus(wide(x))
			if r.IntN(2) == 0 { // taken off again, so that many sums are short
				l = append(l, minus(x))
				want = want.plus(wide(x).minus())
			}
		}
		for i := range l {
			if len(l[i].Mag) == 0 {
				l[i] = api.Num{}
			}
		}
		r.Shuffle(len(l), func(i, j int) { l[i], l[j] = l[j], l[i] })
		got, e := Sum(l)
		check(t, "P307: Sum", got, e, want)
	}
}

func TestSumOfMany(t *testing.T) {
	for _, x := range []api.Num{num(1, 0), num(-(1<<30 - 1), 29), num(1<<30-1, api.MaxExp-40), ones(-50)} {
		for _, count := range []int{1, 2, 3, 1023, 4096, 5000} {
			got, e := Sum(slices.Repeat([]api.Num{x}, count))
			check(t, "P307: Sum of many alike", got, e, wide(x).times(exact{big.NewInt(int64(count)), 0}))
		}
	}
	r := seeded(9)
	l, want := []api.Num{}, exact{new(big.Int), -3000}
	for range 20000 {
		x := random(r, 4, 1000)
		l = append(l, x)
		want = want.plus(wide(x))
	}
	got, e := Sum(l)
	check(t, "P307: Sum of 20,000", got, e, want)
}

// What stands between may be too long, in bits and in exponents, and of Dot the products too.
func TestTheWholeAlone(t *testing.T) {
	a, b := num(1, api.MaxExp), num(1, -api.MaxExp)
	for _, x := range []struct {
		l    []api.Num
		want api.Num
		e    api.Errno
	}{
		{[]api.Num{num(1, 70000), num(1, 0), num(-1, 70000)}, num(1, 0), api.OK}, {[]api.Num{a, a, minus(a), b, minus(a)}, b, api.OK}, {[]api.Num{a, b, b, minus(a)}, num(1, 1-api.MaxExp), api.OK},
		{[]api.Num{a, a, minus(a)}, a, api.OK}, {[]api.Num{a, a}, api.Num{}, api.ErrLong}, {[]api.Num{a, b}, api.Num{}, api.ErrLong}, {[]api.Num{a, b, minus(b), minus(a)}, api.Num{}, api.OK}, {[]api.Num{ones(api.MaxExp), ones(-api.MaxExp), minus(ones(api.MaxExp))}, ones(-api.MaxExp), api.OK},
	} {
		if got, e := Sum(x.l); e != x.e || !equal(got, x.want) {
			t.Errorf("P302, P307: Sum of %v: %v, error %d", len(x.l), head(got), e)
		}
	}
	long, high, low := ones(api.MaxExp), ones(api.MaxExp), minus(ones(-api.MaxExp))
	for i, x := range []struct {
		a, b []api.Num
		want api.Num
		e    api.Errno
	}{
		{[]api.Num{long, num(3, 0), long}, []api.Num{high, num(5, 1), minus(high)}, num(15, 1), api.OK}, {[]api.Num{long, long}, []api.Num{high, high}, api.Num{}, api.ErrLong}, {[]api.Num{low, low}, []api.Num{low, minus(low)}, api.Num{}, api.OK},
		{[]api.Num{a, b, a, a}, []api.Num{a, b, minus(a), b}, api.Num{}, api.ErrLong}, {[]api.Num{a, a, a, b}, []api.Num{a, minus(a), b, num(1, 0)}, api.Num{}, api.ErrLong}, {[]api.Num{a, a, a}, []api.Num{a, minus(a), b}, num(1, 0), api.OK},
		{[]api.Num{a}, []api.Num{num(1, 1)}, api.Num{}, api.ErrLong}, {[]api.Num{b, b}, []api.Num{num(1, -1), num(1, -1)}, b, api.OK}, {[]api.Num{{}, a}, []api.Num{a, {}}, api.Num{}, api.OK},
	} {
		if got, e := Dot(x.a, x.b); e != x.e || !equal(got, x.want) {
			t.Errorf("P302, P307: Dot, row %d: %v, error %d", i, head(got), e)
		}
	}
}

func TestDot(t *testing.T) {
	r := seeded(10)
	pool := samples(10)
	for range 200 {
		var a, b []api.Num
		want := exact{new(big.Int), 0}
		for range r.IntN(6) {
			x, y := pool[r.IntN(len(pool))], pool[r.IntN(len(pool))]
			a, b = append(a, x), append(b, y)
			want = want.plus(wide(x).times(wide(y)))
			if r.IntN(2) == 0 && len(x.Mag) > 0 {
				a, b = append(a, minus(x)), append(b, y)
				want = want.plus(wide(x).minus().times(wide(y)))
			}
		}
		got, e := Dot(a, b)
		check(t, "P307: Dot", got, e, want)
		if len(a) > 0 {
			got, e = Dot(a, b[1:])
			refused(t, "P307: Dot of lists that are not as long", got, e, api.ErrArg)
		}
	}
	got, e := Dot(nil, []api.Num{})
	check(t, "P307: Dot of none", got, e, exact{new(big.Int), 0})
	for _, bad := range invalid() {
		got, e = Dot([]api.Num{bad}, nil)
		refused(t, "P307: ErrArg ahead of ErrNat", got, e, api.ErrArg)
		got, e = Dot([]api.Num{bad}, []api.Num{num(1, 0), bad})
		refused(t, "P307: ErrArg ahead of ErrNat", got, e, api.ErrArg)
	}
}

// Numbers that begin with the same bits, of lengths and exponents that differ.
func TestCmpOfLikeNumbers(t *testing.T) {
	r := seeded(11)
	for range 500 {
		a := random(r, 5, 70)
		b := random(r, 5, 70)
		copy(b.Mag[len(b.Mag)-min(len(a.Mag), len(b.Mag)):], a.Mag[len(a.Mag)-min(len(a.Mag), len(b.Mag)):])
		b.Mag[0] |= 1
		b.Neg, b.Exp = a.Neg, a.Exp+30*(len(a.Mag)-len(b.Mag))
		for _, y := range []api.Num{a, b, minus(b), {}} {
			if c, e := Cmp(a, y); e != api.OK || c != wide(a).cmp(wide(y)) {
				t.Errorf("P308: Cmp(%v, %v) = %d, error %d", a, y, c, e)
			}
		}
	}
}
