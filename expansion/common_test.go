package expansion

import (
	"math"
	"slices"
	"testing"

	"plumb/api"
)

// noExpansions are lists that are refused.
func noExpansions() [][]int {
	return [][]int{{0}, {minus0}, {api.Inf}, {minusInf}, {api.NaN}, {-1}, list(1, 1), list(1, 1.5), list(2, 1), list(1, 0), list(0, 1), {of(0x1p1000), top}, {of(1), api.NaN}, make([]int, api.MaxList+1), slices.Repeat(list(1), 3*api.MaxList)}
}

// notFinite are floats that are refused.
func notFinite() []int {
	return []int{api.Inf, minusInf, api.NaN, api.Inf + 1, minusInf + 1, -1, math.MaxInt}
}

// others are expansions that go with a refused list or float: none, an ordinary one, and those of which steps are not exact.
func others() [][]int {
	return [][]int{nil, list(0x1p-60, 1), {top}, {1}, list(0x1p-600, 0x1p1000), ones(least, highest)}
}

func TestErrorsInTheirOrder(t *testing.T) {
	refused := func(what string, want api.Errno, h []int, e api.Errno) {
		t.Helper()
		if h != nil || e != want {
			t.Errorf("P702: %s: %#x, error %d; want error %d", what, h, e, want)
		}
	}
	for _, bad := range noExpansions() {
		for _, c := range calls() {
			for _, b := range append(notFinite(), 0, of(1), top) {
				h, e := c.got(given{bad, nil, b})
				refused(c.name, api.ErrArg, h, e)
			}
		}
		for _, f := range append(others(), bad) {
			for what, call := range map[string]func(e, f []int) ([]int, api.Errno){"Sum": Sum, "Diff": Diff, "Product": Product} {
				h, e := call(bad, f)
				refused(what, api.ErrArg, h, e)
				h, e = call(f, bad)
				refused(what, api.ErrArg, h, e)
			}
		}
		for what, call := range map[string]func(e []int) (int, api.Errno){"Sign": Sign, "Estimate": Estimate} {
			if s, e := call(bad); s != 0 || e != api.ErrArg {
				t.Errorf("P702: %s of no expansion: %d, error %d", what, s, e)
			}
		}
		if x, e := Exact(bad); !equal(x, api.Num{}) || e != api.ErrArg {
			t.Errorf("P702: Exact of no expansion: %v, error %d", x, e)
		}
	}
	for _, b := range notFinite() {
		h, e := Of(b)
		refused("Of", api.ErrFinite, h, e)
		for _, l := range others() {
			h, e = Grow(l, b)
			refused("Grow", api.ErrFinite, h, e)
			h, e = Scale(l, b)
			refused("Scale", api.ErrFinite, h, e)
		}
	}
	for _, x := range []api.Num{{Mag: []int{2}}, {Neg: true}, {Exp: 1}, {Mag: []int{1, 0}}, {Mag: []int{-1}}, {Mag: []int{1 << 30}}, {Mag: []int{1}, Exp: api.MaxExp + 1}, {Mag: []int{1}, Exp: math.MinInt}, {Mag: slices.Repeat([]int{1}, api.MaxDigits+1)}} {
		h, e := Parts(x)
		refused("Parts", api.ErrNat, h, e)
	}
}

// withRoom is a copy of a list with room behind it that holds 77s.
func withRoom(l []int) []int { return append(slices.Clone(l), 77, 77, 77)[:len(l)] }

// kept tells whether a copy is as it was made, its room too.
func kept(copied, l []int) bool {
	return slices.Equal(copied[:len(l)+3], append(slices.Clone(l), 77, 77, 77))
}

// fill writes over a list and its room.
func fill(l []int) {
	for i := range l[:cap(l)] {
		l[:cap(l)][i] = -5
	}
}

func TestAnswersHangOnArgumentsAlone(t *testing.T) {
	of := call{name: "P703: Of", got: func(x given) ([]int, api.Errno) { return Of(x.b) }}
	nums := call{name: "P710: Parts", got: func(x given) ([]int, api.Errno) { return Parts(num(whole(x.e), least)) }}
	for _, c := range append(calls(), of, nums) {
		for _, x := range samples(8, 10) {
			given := given{withRoom(x.e), withRoom(x.f), x.b}
			h, e := c.got(given)
			told := slices.Clone(h)
			if !kept(given.e, x.e) || !kept(given.f, x.f) {
				t.Fatalf("%s, P712: %#x: changed what it was given", c.name, x)
			}
			fill(given.e)
			fill(given.f)
			if !slices.Equal(h, told) {
				t.Fatalf("%s, P712: %#x: answered what it was given", c.name, x)
			}
			fill(h)
			if again, e2 := c.got(x); !slices.Equal(again, told) || e2 != e {
				t.Fatalf("%s, P712: %#x: told %#x, then %#x", c.name, x, told, again)
			}
		}
	}
}

func TestLooksLeaveTheirArguments(t *testing.T) {
	for _, x := range samples(9, 10) {
		e := withRoom(x.e)
		Valid(e)
		Sign(e)
		Estimate(e)
		n, _ := Exact(e)
		if !kept(e, x.e) {
			t.Fatalf("P712: %#x: changed what it was given", x.e)
		}
		mag := withRoom(n.Mag)
		Parts(api.Num{Neg: n.Neg, Mag: mag, Exp: n.Exp})
		if !kept(mag, n.Mag) {
			t.Fatalf("P712: Parts of %v: changed what it was given", n)
		}
	}
}

func TestExamples(t *testing.T) {
	type answer struct {
		h []int
		e api.Errno
	}
	told := func(h []int, e api.Errno) answer { return answer{h, e} }
	pair := list(0x1p-60, 1)
	for i, x := range []struct{ got, want answer }{
		{told(Of(minus0)), answer{}}, {told(Of(0)), answer{}}, {told(Of(api.Inf)), answer{e: api.ErrFinite}}, {told(Of(of(-3))), answer{h: list(-3)}}, {told(Of(1)), answer{h: []int{1}}}, {told(Of(top)), answer{h: []int{top}}},
		{told(Grow(pair, of(0x1p-60))), answer{h: list(0x1p-59, 1)}}, {told(Grow(list(1), of(-1))), answer{}}, {told(Grow(list(0x1p1023), of(0x1p1023))), answer{e: api.ErrExact}}, {told(Grow(list(1, 2), 0)), answer{h: list(3)}}, {told(Grow(nil, minus0)), answer{}},
		{told(Grow([]int{top}, of(-0x1.8p971))), answer{e: api.ErrExact}}, {told(Grow(list(-0x1.8p971), top)), answer{h: []int{of(-0x1p970), top - 1}}}, // of TwoSum the first operand is what was gathered so far
		{told(Sum(pair, list(0x1p-120, -1))), answer{h: list(0x1p-120, 0x1p-60)}}, {told(Sum(list(1, 2), nil)), answer{h: list(1, 2)}}, {told(Sum(nil, list(1, 2))), answer{h: list(3)}}, {told(Diff(pair, pair)), answer{}}, {told(Diff(nil, pair)), answer{h: list(-0x1p-60, -1)}},
		{told(Scale(pair, of(3))), answer{h: list(0x1.8p-59, 3)}}, {told(Scale(list(1), 0)), answer{}}, {told(Scale(list(0x1p1000), minus0)), answer{}}, {told(Scale(nil, top)), answer{}}, {told(Scale(list(0x1p-600), of(0x1p-600))), answer{e: api.ErrExact}}, {told(Scale(list(0x1p1000), of(1))), answer{e: api.ErrExact}},
		{told(Product(pair, pair)), answer{h: list(0x1p-120, 0x1p-59, 1)}}, {told(Product(nil, list(0x1p1000))), answer{}}, {told(Product(list(0x1p1000), nil)), answer{}}, {told(Product(list(0x1p-600), list(0x1p-600, 1))), answer{e: api.ErrExact}},
		{told(Compress(list(1, 2, 4))), answer{h: list(7)}}, {told(Compress(nil)), answer{}}, {told(Compress(list(0x1p-60, 1))), answer{h: list(0x1p-60, 1)}}, {told(Compress([]int{of(0x1p970), top})), answer{e: api.ErrExact}},
		{told(Parts(api.Num{Mag: []int{1, 0, 1}})), answer{h: list(1, 0x1p60)}}, {told(Parts(api.Num{Mag: []int{1}, Exp: 2000})), answer{e: api.ErrExact}}, {told(Parts(api.Num{})), answer{}},
	} {
		if !slices.Equal(x.got.h, x.want.h) || x.got.e != x.want.e {
			t.Errorf("P703 to P708, P710: example %d: %#x, error %d; want %#x, error %d", i, x.got.h, x.got.e, x.want.h, x.want.e)
		}
	}
	if s, e := Sign(list(0x1p-60, -1)); s != -1 || e != api.OK {
		t.Errorf("P709: Sign: %d, error %d", s, e)
	}
	if b, e := Estimate(pair); b != of(1) || e != api.OK {
		t.Errorf("P709: Estimate: %#x, error %d", b, e)
	}
	if x, e := Exact(list(0.5, 1)); !equal(x, api.Num{Mag: []int{3}, Exp: -1}) || e != api.OK {
		t.Errorf("P709: Exact: %v, error %d", x, e)
	}
}
