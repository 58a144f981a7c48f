package nat

import (
	"math"
	"math/big"
	"slices"
	"testing"

	"plumb/api"
	"plumb/digits"
)

// pairs are each of the small numbers with each, and long ones.
func pairs() [][2][]int {
	l := samples(40, 12)
	var p [][2][]int
	for _, a := range l {
		for _, b := range l {
			p = append(p, [2][]int{a, b})
		}
	}
	var state uint64 = 7
	for range 60 {
		p = append(p, [2][]int{random(&state, int(next(&state)%400)), random(&state, int(next(&state)%400))})
	}
	return p
}

func TestCmp(t *testing.T) {
	for _, p := range append(pairs(), [2][]int{greatest(), greatest()}) {
		c, e := Cmp(p[0], p[1])
		if e != api.OK || c != wide(p[0]).Cmp(wide(p[1])) {
			t.Errorf("P205: Cmp(%v, %v) = %d, %d", head(p[0]), head(p[1]), c, e)
		}
	}
}

func TestAddSubMul(t *testing.T) {
	for _, p := range pairs() {
		a, b := wide(p[0]), wide(p[1])
		n, e := Add(p[0], p[1])
		check(t, "P206: Add", n, e, new(big.Int).Add(a, b))
		n, e = Mul(p[0], p[1])
		check(t, "P206: Mul", n, e, new(big.Int).Mul(a, b))
		n, e = Sub(p[0], p[1])
		if a.Cmp(b) < 0 {
			refused(t, "P206: Sub", n, e, api.ErrNegative)
		} else {
			check(t, "P206: Sub", n, e, new(big.Int).Sub(a, b))
		}
	}
}

func TestAddSubMulAtTheGreatest(t *testing.T) {
	top := greatest()
	below := slices.Clone(top)
	below[0]--
	n, e := Add(below, []int{1})
	check(t, "P206: the greatest sum", n, e, wide(top))
	for _, b := range [][]int{{1}, {mask}, top} {
		n, e = Add(top, b)
		refused(t, "P202: a sum beyond the greatest", n, e, api.ErrLong)
		n, e = Add(b, top)
		refused(t, "P202: a sum beyond the greatest", n, e, api.ErrLong)
	}
	n, e = Sub(top, below)
	check(t, "P206: a difference of great ones", n, e, big.NewInt(1))
	n, e = Sub(below, top)
	refused(t, "P206: a difference below 0", n, e, api.ErrNegative)
	n, e = Mul(top, []int{1})
	check(t, "P206: the greatest product", n, e, wide(top))
	n, e = Mul(nil, top)
	check(t, "P206: nothing times the greatest", n, e, new(big.Int))
	for _, b := range [][]int{{2}, {0, 1}, top} {
		n, e = Mul(top, b)
		refused(t, "P202: a product beyond the greatest", n, e, api.ErrLong)
	}
	half := slices.Repeat([]int{mask}, api.MaxDigits/2)
	n, e = Mul(half, half)
	check(t, "P206: 2000 digits", n, e, new(big.Int).Mul(wide(half), wide(half)))
	for _, digit := range []int{1, mask} { // 1001 digits times 1000: 2000 or 2001 digits
		more := append(slices.Repeat([]int{0}, api.MaxDigits/2), digit)
		n, e = Mul(more, half)
		check(t, "P202, P206: 2000 digits or one more", n, e, new(big.Int).Mul(wide(more), wide(half)))
		n, e = Mul(half, more)
		check(t, "P202, P206: 2000 digits or one more", n, e, new(big.Int).Mul(wide(more), wide(half)))
	}
}

// divided holds a quotient and what it leaves to the library's.
func divided(t *testing.T, a, b []int) {
	t.Helper()
	q, r, e := Div(a, b)
	if len(b) == 0 {
		if e != api.ErrDivide || len(q) != 0 || len(r) != 0 {
			t.Errorf("P207: Div(%v, 0) = %v, %v, %d", head(a), head(q), head(r), e)
		}
		return
	}
	wantQ, wantR := new(big.Int).QuoRem(wide(a), wide(b), new(big.Int))
	check(t, "P207: the quotient", q, e, wantQ)
	check(t, "P207: what is left", r, e, wantR)
}

func TestDiv(t *testing.T) {
	for _, p := range pairs() {
		divided(t, p[0], p[1])
		if product, e := Mul(p[0], p[1]); e == api.OK && len(p[1]) > 0 {
			divided(t, product, p[1])
			more, _ := Add(product, []int{1})
			divided(t, more, p[1])
			if len(product) > 0 {
				less, _ := Sub(product, []int{1})
				divided(t, less, p[1])
			}
		}
	}
	top := greatest()
	for _, b := range [][]int{nil, {1}, {2}, {mask}, {0, 1}, top[:1000], top[:1999], top} {
		divided(t, top, b)
	}
	divided(t, []int{5}, top)
}

// Digits of the quotient that are guessed too great, once and twice, are rare among mixed ones.
func TestDivWhereGuessesFail(t *testing.T) {
	edges := []int{0, 1, 2, 1<<29 - 1, 1 << 29, 1<<29 + 1, mask - 1, mask}
	var state uint64 = 3
	pick := func() int { return edges[next(&state)%uint64(len(edges))] }
	for range 20000 {
		a, b := []int{pick(), pick(), pick(), pick(), pick()}, []int{pick(), pick(), pick()}
		divided(t, digits.Trim(a), digits.Trim(b))
	}
}

func TestShifts(t *testing.T) {
	for _, a := range samples(60, 10) {
		for _, k := range []int{0, 1, 2, 28, 29, 30, 31, 59, 60, 61, 90, 119, 300, 1000, 59999, 60000, math.MaxInt - 30, math.MaxInt} {
			n, e := Shr(a, k)
			check(t, "P208: Shr", n, e, new(big.Int).Rsh(wide(a), uint(k)))
			n, e = Shl(a, k)
			if k > maxBits && len(a) > 0 {
				refused(t, "P202, P208: Shl by far too much", n, e, api.ErrLong)
			} else if len(a) == 0 {
				check(t, "P208: Shl of 0", n, e, new(big.Int))
			} else {
				check(t, "P208: Shl", n, e, new(big.Int).Lsh(wide(a), uint(k)))
			}
		}
		for _, k := range []int{-1, -30, math.MinInt} {
			n, e := Shl(a, k)
			refused(t, "P208: Shl by less than 0", n, e, api.ErrArg)
			n, e = Shr(a, k)
			refused(t, "P208: Shr by less than 0", n, e, api.ErrArg)
		}
	}
	for _, n := range [][]int{{1}, {3}, {0, 1}, {1, mask}} {
		most := maxBits - Bits(n)
		got, e := Shl(n, most)
		check(t, "P208: Shl up to 60000 bits", got, e, new(big.Int).Lsh(wide(n), uint(most)))
		got, e = Shl(n, most+1)
		refused(t, "P202, P208: Shl to 60001 bits", got, e, api.ErrLong)
	}
	got, e := Shr(greatest(), 59999)
	check(t, "P208: Shr to the highest bit", got, e, big.NewInt(1))
}
