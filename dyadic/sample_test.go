package dyadic

import (
	"math/big"
	"math/rand/v2"
	"slices"
	"testing"

	"plumb/api"
)

// exact is a number as the library has it: m times 2^e.
type exact struct {
	m *big.Int
	e int
}

// wide is the number of a Num, valid or not.
func wide(x api.Num) exact {
	m := new(big.Int)
	for _, digit := range slices.Backward(x.Mag) {
		m.Lsh(m, 30).Add(m, big.NewInt(int64(digit)))
	}
	if x.Neg {
		m.Neg(m)
	}
	return exact{m, x.Exp}
}

// whole is how often 2^e goes into x, where e is no greater than x's.
func (x exact) whole(e int) *big.Int { return new(big.Int).Lsh(x.m, uint(x.e-e)) }

func (x exact) plus(y exact) exact {
	e := min(x.e, y.e)
	return exact{new(big.Int).Add(x.whole(e), y.whole(e)), e}
}

func (x exact) times(y exact) exact { return exact{new(big.Int).Mul(x.m, y.m), x.e + y.e} }

func (x exact) minus() exact { return exact{new(big.Int).Neg(x.m), x.e} }

func (x exact) cmp(y exact) int {
	e := min(x.e, y.e)
	return x.whole(e).Cmp(y.whole(e))
}

// form is the one valid Num of a number, or ErrLong.
func (x exact) form() (api.Num, api.Errno) {
	if x.m.Sign() == 0 {
		return api.Num{}, api.OK
	}
	zeros := x.m.TrailingZeroBits()
	odd, e := new(big.Int).Rsh(new(big.Int).Abs(x.m), zeros), x.e+int(zeros)
	if odd.BitLen() > 60000 || e < -1<<20 || e > 1<<20 {
		return api.Num{}, api.ErrLong
	}
	n := api.Num{Neg: x.m.Sign() < 0, Exp: e}
	for ; odd.Sign() > 0; odd.Rsh(odd, 30) {
		n.Mag = append(n.Mag, int(odd.Uint64()&(1<<30-1)))
	}
	return n, api.OK
}

func equal(a, b api.Num) bool {
	return a.Neg == b.Neg && a.Exp == b.Exp && slices.Equal(a.Mag, b.Mag)
}

// check holds an answer to the library's: the one valid Num, or ErrLong and the zero Num.
func check(t *testing.T, what string, got api.Num, e api.Errno, want exact) {
	t.Helper()
	x, errno := want.form()
	if e != errno || !equal(got, x) {
		t.Errorf("%s: %v, error %d; want %v, error %d", what, head(got), e, head(x), errno)
	}
}

// refused holds an answer to an error with nothing beside it.
func refused(t *testing.T, what string, got api.Num, e, want api.Errno) {
	t.Helper()
	if e != want || !equal(got, api.Num{}) {
		t.Errorf("%s: %v, error %d; want error %d and nothing", what, head(got), e, want)
	}
}

// head is a number's beginning, short enough to be told.
func head(x api.Num) api.Num {
	x.Mag = x.Mag[:min(len(x.Mag), 6)]
	return x
}

// num is an odd number of one digit (or 0) times 2^exp.
func num(mag, exp int) api.Num {
	if mag == 0 {
		return api.Num{}
	}
	return api.Num{Neg: mag < 0, Mag: []int{max(mag, -mag)}, Exp: exp}
}

// minus is the number with the other sign.
func minus(x api.Num) api.Num { return api.Num{Neg: !x.Neg, Mag: x.Mag, Exp: x.Exp} }

// ones is 2^60000 - 1, with the most digits that there may be, times 2^exp.
func ones(exp int) api.Num {
	return api.Num{Mag: slices.Repeat([]int{1<<30 - 1}, api.MaxDigits), Exp: exp}
}

// seeded tells many numbers, the same in each run.
func seeded(seed uint64) *rand.Rand { return rand.New(rand.NewPCG(seed, 3)) }

// random is a number of 1 to so many digits, mixed ones or runs of zeros and ones, with an exponent from -reach to reach.
func random(r *rand.Rand, digits, reach int) api.Num {
	x := api.Num{Neg: r.IntN(2) == 0, Mag: make([]int, 1+r.IntN(digits)), Exp: r.IntN(2*reach+1) - reach}
	kind := r.IntN(3)
	for i := range x.Mag {
		x.Mag[i] = []int{r.IntN(1 << 30), 0, 1<<30 - 1}[kind]
		if r.IntN(8) == 0 {
			kind = r.IntN(3)
		}
	}
	x.Mag[0] |= 1
	x.Mag[len(x.Mag)-1] |= 1 << r.IntN(30)
	return x
}

// edges: 0, small numbers, and those at the edges of floats, of digits, of lengths and of exponents.
func edges() []api.Num {
	return []api.Num{
		{}, {Mag: []int{}}, num(1, 0), num(-1, 0), num(3, -1), num(-3, -1), num(1, -1), num(5, 1), num(1<<30-1, 0), num(-(1<<30 - 1), 30), num(1, 30), num(1, 29), num(1, 59999), num(1, 60000), num(-1, 60001),
		num(1, -1074), num(-1, -1075), num(1, 1023), num(1, 1024), num(1, api.MaxExp), num(-1, api.MaxExp), num(3, -api.MaxExp), num(-3, 1-api.MaxExp), num(1, api.MaxExp/2), num(1, -api.MaxExp/2),
		{Mag: []int{1, 1}}, {Mag: []int{1, 0, 1}, Exp: -60}, {Neg: true, Mag: []int{1<<30 - 1, 1<<30 - 1}, Exp: 7}, ones(0), minus(ones(0)), ones(-60000), ones(api.MaxExp), minus(ones(-api.MaxExp)),
	}
}

// samples are the edges, and mixed ones behind them.
func samples(seed uint64) []api.Num {
	l, r := edges(), seeded(seed)
	for range 20 {
		l = append(l, random(r, 6, 100), random(r, 3, 5))
	}
	for range 4 {
		l = append(l, random(r, 900, 70000), random(r, 2000, 1000))
	}
	return l
}

// invalid are Nums of no number, or not in the one form.
func invalid() []api.Num {
	return []api.Num{
		{Neg: true}, {Exp: 1}, {Exp: -1}, {Neg: true, Mag: []int{}}, {Mag: []int{}, Exp: 5}, {Mag: []int{0}}, {Mag: []int{2}}, {Mag: []int{0, 1}}, {Mag: []int{6, 1}, Exp: 3}, {Mag: []int{1, 0}}, {Mag: []int{-1}}, {Mag: []int{-3, 1}}, {Mag: []int{1<<30 + 1}}, {Mag: []int{1, 1 << 30}}, {Mag: []int{1, -1, 1}},
		num(1, api.MaxExp+1), num(1, -api.MaxExp-1), num(-1, 1<<62), num(1, -1<<63), num(1, 1<<63-1), {Neg: true, Mag: []int{0}}, {Mag: slices.Repeat([]int{1}, api.MaxDigits+1)}, {Mag: append(ones(0).Mag, 0)},
	}
}
