package span

import (
	"math"
	"math/big"
	"slices"
	"testing"

	"plumb/api"
	"plumb/bits"
)

func TestErrorsInTheirOrder(t *testing.T) {
	for _, bad := range noIntervals() {
		for _, other := range []api.Span{{}, s(1, 2), s(math.Inf(-1), math.Inf(1)), bad} {
			for _, c := range calls() {
				if got, e := c.got(bad, other); got != (api.Span{}) || e != api.ErrArg {
					t.Errorf("%s of %#x, %#x: %#x, error %d", c.name, bad, other, got, e)
				}
				if got, e := c.got(other, bad); !c.one && (got != (api.Span{}) || e != api.ErrArg) {
					t.Errorf("%s of %#x, %#x: %#x, error %d", c.name, other, bad, got, e)
				}
			}
			for _, p := range []pair{{bad, other}, {other, bad}} {
				if got, ok, e := Meet(p.x, p.y); got != (api.Span{}) || ok || e != api.ErrArg {
					t.Errorf("P805: Meet of %#x, %#x: %#x, %v, error %d", p.x, p.y, got, ok, e)
				}
			}
		}
		if got, ok, e := Sign(bad); got != 0 || ok || e != api.ErrArg {
			t.Errorf("P806: Sign of %#x: %d, %v, error %d", bad, got, ok, e)
		}
		for _, x := range append(noNums(), api.Num{}, api.Num{Mag: []int{1}}) { // no interval comes ahead of no number
			if got, e := Has(bad, x); got || e != api.ErrArg {
				t.Errorf("P807: Has of %#x, %v: %v, error %d", bad, x, got, e)
			}
		}
	}
	for _, x := range noNums() {
		if got, e := Has(s(math.Inf(-1), math.Inf(1)), x); got || e != api.ErrNat {
			t.Errorf("P807: Has of %v: %v, error %d", x, got, e)
		}
	}
}

// some are numbers of an interval: its finite ends, far ones where an end is infinite, 0, if that is in it, and one between two ends.
func some(x api.Span) []*big.Float {
	lo, hi := wide(x.Lo), wide(x.Hi)
	if lo.IsInf() {
		lo = room().Neg(power(3000))
	}
	if hi.IsInf() {
		hi = power(3000)
	}
	l := []*big.Float{lo, hi, room().Mul(room().Add(lo, hi), big.NewFloat(0.5))}
	if lo.Sign() < 0 && hi.Sign() > 0 {
		l = append(l, room())
	}
	return l
}

// law is a call, and what numbers of the intervals that it takes become.
type law struct {
	call
	become func(a, b *big.Float) *big.Float
}

func laws() []law {
	of := calls()
	return []law{
		{of[0], func(a, _ *big.Float) *big.Float { return room().Neg(a) }},
		{of[1], func(a, b *big.Float) *big.Float { return room().Add(a, b) }},
		{of[2], func(a, b *big.Float) *big.Float { return room().Sub(a, b) }},
		{of[3], func(a, b *big.Float) *big.Float { return room().Mul(a, b) }},
		{of[4], func(a, _ *big.Float) *big.Float { return room().Mul(a, a) }},
	}
}

// all are what the numbers of two intervals become.
func (w law) all(p pair) []api.Num {
	var l []api.Num
	for _, a := range some(p.x) {
		for _, b := range some(p.y) {
			l = append(l, num(w.become(a, b)))
		}
	}
	return l
}

// holds tells whether all numbers of a list are in an interval.
func holds(t *testing.T, x api.Span, l []api.Num) bool {
	return !slices.ContainsFunc(l, func(n api.Num) bool {
		in, e := Has(x, n)
		if e != api.OK {
			t.Fatalf("P807: Has(%#x, %v): error %d", x, n, e)
		}
		return !in
	})
}

func TestNothingGetsLostAndNothingIsTooMuch(t *testing.T) {
	l := samples(6)
	for _, w := range laws() {
		for i := 0; i < len(l); i += 23 {
			got, _ := w.got(l[i].x, l[i].y)
			in := w.all(l[i])
			if !holds(t, got, in) {
				t.Errorf("P808, %s of %#x: %#x has not all", w.name, l[i], got)
			}
			for _, less := range []api.Span{{Lo: bits.Next(got.Lo), Hi: got.Hi}, {Lo: got.Lo, Hi: bits.Prev(got.Hi)}} {
				if Valid(less) && holds(t, less, in) {
					t.Errorf("P808, %s of %#x: %#x, but %#x has all", w.name, l[i], got, less)
				}
			}
		}
	}
}

func TestAnswersHangOnArgumentsAlone(t *testing.T) {
	l := samples(7)
	for _, c := range calls() {
		for i := 0; i < len(l); i += 11 {
			got, e := c.got(l[i].x, l[i].y)
			other := l[len(l)-1-i]
			c.got(other.x, other.y)
			if again, e2 := c.got(l[i].x, l[i].y); again != got || e2 != e {
				t.Errorf("%s, P809: of %#x: told %#x, then %#x", c.name, l[i], got, again)
			}
		}
	}
	for _, x := range numbers(8) {
		n := num(x)
		mag := append(slices.Clone(n.Mag), 77, 77, 77)
		given := api.Num{Neg: n.Neg, Mag: mag[:len(n.Mag)], Exp: n.Exp}
		got, _ := Around(given)
		in, _ := Has(s(-1, 1), given)
		if !slices.Equal(mag, append(slices.Clone(n.Mag), 77, 77, 77)) {
			t.Fatalf("P809: %v: changed what it was given", n)
		}
		if again, _ := Around(given); again != got {
			t.Errorf("P809: Around(%v): told %#x, then %#x", n, got, again)
		}
		if again, _ := Has(s(-1, 1), given); again != in {
			t.Errorf("P809: Has(%v): told %v, then %v", n, in, again)
		}
	}
}

func TestExamples(t *testing.T) {
	inf, greatest := math.Inf(1), math.MaxFloat64
	told := func(x api.Span, e api.Errno) api.Span {
		if e != api.OK {
			t.Errorf("P802 to P805: error %d", e)
		}
		return x
	}
	for i, x := range []struct{ got, want api.Span }{
		{told(Add(s(1, 1), s(0x1p-60, 0x1p-60))), s(1, 1+0x1p-52)}, {told(Add(s(-inf, 1), s(1, 0x1p1023))), api.Span{Lo: minusInf, Hi: of(0x1p1023) + 1}}, {told(Neg(s(0, 1))), s(-1, 0)},
		{told(Add(s(greatest, greatest), s(0x1p969, 0x1p970))), s(greatest, inf)}, {told(Sub(s(-greatest, -greatest), s(greatest, greatest))), s(-inf, -greatest)}, {told(Sub(s(1, inf), s(-inf, 1))), s(0, inf)}, {told(Sub(s(-inf, inf), s(-inf, inf))), s(-inf, inf)},
		{told(Mul(s(-1, 2), s(-3, 4))), s(-6, 8)}, {told(Mul(s(0, inf), s(0, 1))), s(0, inf)}, {told(Mul(s(0x1p600, 0x1p600), s(0x1p600, 0x1p600))), s(greatest, inf)}, {told(Mul(s(-inf, inf), s(0, 0))), s(0, 0)}, {told(Mul(s(-inf, -1), s(2, inf))), s(-inf, -2)},
		{told(Mul(s(-0x1p-600, -0x1p-600), s(0x1p-600, 0x1p-600))), api.Span{Lo: minus0 + 1}}, {told(Mul(s(0x1p-600, 0x1p-600), s(0x1p-600, 0x1p-600))), api.Span{Hi: 1}},
		{told(Square(s(-2, 1))), s(0, 4)}, {told(Square(s(-3, -2))), s(4, 9)}, {told(Square(s(-inf, -2))), s(4, inf)}, {told(Square(s(-1, inf))), s(0, inf)}, {told(Square(s(0x1p512, 0x1p512))), s(greatest, inf)},
		{told(Join(s(0, 1), s(2, 3))), s(0, 3)}, {told(Join(s(-inf, 1), s(-3, inf))), s(-inf, inf)}, {told(Of(minus0)), s(0, 0)}, {told(Of(top)), s(greatest, greatest)},
	} {
		if x.got != x.want {
			t.Errorf("P802 to P805: example %d: %#x, want %#x", i, x.got, x.want)
		}
	}
	if got, ok, e := Meet(s(0, 1), s(1, 2)); got != s(1, 1) || !ok || e != api.OK {
		t.Errorf("P805: Meet: %#x, %v, error %d", got, ok, e)
	}
	if got, ok, e := Meet(s(0, 1), s(2, 3)); got != (api.Span{}) || ok || e != api.OK {
		t.Errorf("P805: Meet: %#x, %v, error %d", got, ok, e)
	}
}
