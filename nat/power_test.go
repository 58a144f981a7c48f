package nat

import (
	"math"
	"math/big"
	"slices"
	"testing"

	"plumb/api"
	"plumb/digits"
)

func TestPow(t *testing.T) {
	for _, a := range samples(30, 6) {
		for k := range 40 {
			n, e := Pow(a, k)
			check(t, "P209: Pow", n, e, new(big.Int).Exp(wide(a), big.NewInt(int64(k)), nil))
		}
		for _, k := range []int{-1, -2, math.MinInt} {
			n, e := Pow(a, k)
			refused(t, "P209: Pow by less than 0", n, e, api.ErrArg)
		}
	}
	for _, k := range []int{1, 2, 60000, 1 << 62, math.MaxInt} {
		n, e := Pow([]int{1}, k)
		check(t, "P209: a power of 1", n, e, big.NewInt(1))
		n, e = Pow(nil, k)
		check(t, "P209: a power of 0", n, e, new(big.Int))
	}
	n, e := Pow(greatest(), 0)
	check(t, "P209: the greatest to the 0-th", n, e, big.NewInt(1))
	n, e = Pow(greatest(), 1)
	check(t, "P209: the greatest to the first", n, e, wide(greatest()))
}

func TestPowTooLong(t *testing.T) {
	for _, x := range []struct{ a, most int }{{2, 59999}, {3, 37855}, {4, 29999}, {7, 21372}, {10, 18061}, {1 << 30, 1999}, {mask, 2000}, {1<<31 - 1, 1935}} {
		a, _ := Of(x.a)
		n, e := Pow(a, x.most)
		check(t, "P209: the greatest power", n, e, new(big.Int).Exp(wide(a), big.NewInt(int64(x.most)), nil))
		for _, k := range []int{x.most + 1, 2*x.most + 1, 60000, 1 << 40, 1<<62 + 1, math.MaxInt} {
			n, e = Pow(a, k)
			refused(t, "P202, P209: a power that is too great", n, e, api.ErrLong)
		}
	}
	for _, k := range []int{2, 3, 1 << 31, math.MaxInt} {
		n, e := Pow(greatest(), k)
		refused(t, "P202, P209: a power of the greatest", n, e, api.ErrLong)
	}
}

// rooted holds a root and what it leaves to the library's.
func rooted(t *testing.T, a []int) {
	t.Helper()
	s, r, e := Root(a)
	want := new(big.Int).Sqrt(wide(a))
	check(t, "P210: the root", s, e, want)
	check(t, "P210: what is left", r, e, want.Sub(wide(a), want.Mul(want, want)))
}

func TestRoot(t *testing.T) {
	for v := range 2000 {
		a, _ := Of(v)
		rooted(t, a)
	}
	for _, s := range samples(150, 30) {
		rooted(t, s)
		square, _ := Mul(s, s)
		rooted(t, square)
		if len(s) > 0 {
			less, _ := Sub(square, []int{1})
			rooted(t, less)
			most, _ := Add(square, s) // up to s s + 2 s the root is s
			most, _ = Add(most, s)
			rooted(t, most)
			most, _ = Add(most, []int{1})
			rooted(t, most)
		}
	}
	rooted(t, greatest())
	rooted(t, greatest()[:1999])
}

func TestGcd(t *testing.T) {
	for _, p := range pairs() {
		n, e := Gcd(p[0], p[1])
		check(t, "P211: Gcd", n, e, new(big.Int).GCD(nil, nil, wide(p[0]), wide(p[1])))
	}
	var state uint64 = 11
	for range 400 { // with a common part, and of lengths that differ
		common := random(&state, 1+int(next(&state)%20))
		a, _ := Mul(common, random(&state, int(next(&state)%60)))
		b, _ := Mul(common, random(&state, int(next(&state)%30)))
		n, e := Gcd(a, b)
		check(t, "P211: Gcd", n, e, new(big.Int).GCD(nil, nil, wide(a), wide(b)))
		n, e = Gcd(b, a)
		check(t, "P211: Gcd, turned about", n, e, new(big.Int).GCD(nil, nil, wide(a), wide(b)))
	}
}

// Neighbours of Fibonacci's numbers make the most steps; quotients of one and of a great many follow each other in the others.
func TestGcdOfManySteps(t *testing.T) {
	a, b := []int{1}, []int{1}
	for range 3000 {
		a, b = digits.Sum(a, b), a
	}
	n, e := Gcd(a, b)
	check(t, "P211: Fibonacci's", n, e, big.NewInt(1))
	var state uint64 = 5
	for range 300 {
		a, b := random(&state, 2), []int(nil)
		want := a
		for range 40 {
			q := []int{1 + int(next(&state)%3)}
			if next(&state)%4 == 0 {
				q = random(&state, 1+int(next(&state)%3))
			}
			a, b = digits.Sum(digits.Product(a, q), b), a
		}
		n, e := Gcd(b, a)
		check(t, "P211: quotients of all sizes", n, e, wide(want))
	}
}

func TestGcdOfTheGreatest(t *testing.T) {
	top := greatest()
	below := slices.Clone(top)
	below[0]--
	for _, b := range [][]int{nil, {1}, {3}, {mask}, {0, 1}, below, top[:1000], top[:1999], top} {
		n, e := Gcd(top, b)
		check(t, "P211: with the greatest", n, e, new(big.Int).GCD(nil, nil, wide(top), wide(b)))
		n, e = Gcd(b, top)
		check(t, "P211: with the greatest, turned about", n, e, new(big.Int).GCD(nil, nil, wide(top), wide(b)))
	}
	var state uint64 = 13
	a, b := random(&state, api.MaxDigits), random(&state, api.MaxDigits)
	n, e := Gcd(a, b)
	check(t, "P211: of 2000 digits each", n, e, new(big.Int).GCD(nil, nil, wide(a), wide(b)))
}
