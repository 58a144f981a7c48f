package span

import (
	"math"
	"math/big"
	"testing"

	"plumb/api"
)

func TestValid(t *testing.T) {
	for _, x := range noIntervals() {
		if Valid(x) {
			t.Errorf("P801: %#x is none", x)
		}
	}
	for _, x := range edged() {
		if !Valid(x) {
			t.Errorf("P801: %#x is an interval", x)
		}
	}
	l := append(edges(), api.NaN, -1, api.Inf+1, math.MaxInt)
	for _, a := range l {
		for _, b := range l {
			if x := (api.Span{Lo: a, Hi: b}); Valid(x) != valid(x) {
				t.Errorf("P801: Valid(%#x) is %v", x, Valid(x))
			}
		}
	}
}

func TestOf(t *testing.T) {
	for _, b := range edges() {
		got, e := Of(b)
		switch {
		case b == api.Inf || b == minusInf:
			if got != (api.Span{}) || e != api.ErrFinite {
				t.Errorf("P802: Of(%#x): %#x, error %d", b, got, e)
			}
		case got != s(value(b)+0, value(b)+0) || e != api.OK:
			t.Errorf("P802: Of(%#x): %#x, error %d", b, got, e)
		}
	}
	for _, b := range []int{api.NaN, -1, api.Inf + 1, minusInf + 1, math.MaxInt} {
		if got, e := Of(b); got != (api.Span{}) || e != api.ErrFinite {
			t.Errorf("P802: Of(%#x): %#x, error %d", b, got, e)
		}
	}
}

func TestAround(t *testing.T) {
	for _, x := range numbers(1) {
		if got, e := Around(num(x)); got != outward(x) || e != api.OK {
			t.Errorf("P802: Around(%v): %#x, error %d; want %#x", num(x), got, e, outward(x))
		}
	}
	for _, x := range noNums() {
		if got, e := Around(x); got != (api.Span{}) || e != api.ErrNat {
			t.Errorf("P802: Around(%v): %#x, error %d", x, got, e)
		}
	}
}

// known holds samples to being of all kinds: ends that are told exactly, and others.
func known(t *testing.T, what string, exact, other int) {
	t.Helper()
	if exact < 1000 || other < 1000 {
		t.Errorf("%s: of the samples %d are exact, %d not: too few to tell", what, exact, other)
	}
}

func TestReckoning(t *testing.T) {
	for _, c := range calls() {
		finite, infinite, faults := 0, 0, 0
		for _, p := range samples(2) {
			got, e := c.got(p.x, p.y)
			want := c.want(p.x, p.y)
			if got.Lo == minusInf || got.Hi == api.Inf {
				infinite++
			} else {
				finite++
			}
			if faults < 9 && (got != want || e != api.OK || !Valid(got)) {
				faults++
				t.Errorf("%s of %#x, %#x: %#x, error %d; want %#x", c.name, p.x, p.y, got, e, want)
			}
		}
		known(t, c.name, finite, infinite)
	}
}

func TestNoughtsHaveNoSign(t *testing.T) {
	l := []api.Span{s(0, 0), {Lo: minus0}, {Hi: minus0}, {Lo: minus0, Hi: minus0}, {Lo: minus0, Hi: of(1)}, {Lo: of(-1), Hi: minus0}, {Lo: minusInf, Hi: minus0}, {Lo: minus0, Hi: api.Inf}, s(-0x1p-600, -0x1p-600), s(0x1p-600, 0x1p-600), s(1, 1), s(-1, -1)}
	for _, x := range l {
		for _, y := range l {
			for _, c := range calls() {
				if got, _ := c.got(x, y); got.Lo == minus0 || got.Hi == minus0 {
					t.Errorf("P801, %s of %#x, %#x: %#x", c.name, x, y, got)
				}
			}
			if got, _, _ := Meet(x, y); got.Lo == minus0 || got.Hi == minus0 {
				t.Errorf("P801: Meet of %#x, %#x: %#x", x, y, got)
			}
		}
	}
	if got, _ := Around(api.Num{Neg: true, Mag: []int{1}, Exp: -5000}); got != (api.Span{Lo: minus0 + 1}) {
		t.Errorf("P801, P802: Around(-2^-5000): %#x", got)
	}
}

func TestMeet(t *testing.T) {
	something, nothing := 0, 0
	for _, p := range samples(3) {
		lo, hi := math.Max(value(p.x.Lo), value(p.y.Lo)), math.Min(value(p.x.Hi), value(p.y.Hi))
		want, there := s(lo+0, hi+0), lo <= hi
		if !there {
			want = api.Span{}
			nothing++
		} else {
			something++
		}
		if got, ok, e := Meet(p.x, p.y); got != want || ok != there || e != api.OK {
			t.Fatalf("P805: Meet(%#x, %#x): %#x, %v, error %d; want %#x, %v", p.x, p.y, got, ok, e, want, there)
		}
	}
	known(t, "P805: Meet", something, nothing)
}

func TestSign(t *testing.T) {
	for _, x := range edged() {
		sign, is := 0, false
		lo, hi := wide(x.Lo).Sign(), wide(x.Hi).Sign()
		switch {
		case lo > 0:
			sign, is = 1, true
		case hi < 0:
			sign, is = -1, true
		case lo == 0 && hi == 0:
			is = true
		}
		if got, ok, e := Sign(x); got != sign || ok != is || e != api.OK {
			t.Errorf("P806: Sign(%#x): %d, %v, error %d", x, got, ok, e)
		}
	}
}

// within is P801's words.
func within(x api.Span, n *big.Float) bool { return n.Cmp(wide(x.Lo)) >= 0 && n.Cmp(wide(x.Hi)) <= 0 }

func TestHas(t *testing.T) {
	in, out := 0, 0
	l := numbers(4)
	r := seeded(5)
	for _, x := range edged() {
		for range 60 {
			n := l[r.IntN(len(l))]
			got, e := Has(x, num(n))
			if got != within(x, n) || e != api.OK {
				t.Fatalf("P807: Has(%#x, %v): %v, error %d", x, num(n), got, e)
			}
			if got {
				in++
			} else {
				out++
			}
		}
	}
	known(t, "P807: Has", in, out)
	for _, x := range edged() { // at the ends, and hardly beside them
		for _, b := range []int{x.Lo, x.Hi} {
			if b == api.Inf || b == minusInf {
				continue
			}
			for _, n := range []*big.Float{wide(b), room().Add(wide(b), power(-3000)), room().Sub(wide(b), power(-3000))} {
				if got, e := Has(x, num(n)); got != within(x, n) || e != api.OK {
					t.Fatalf("P807: Has(%#x, %v): %v, error %d", x, num(n), got, e)
				}
			}
		}
	}
}
