package dyadic

import (
	"slices"
	"testing"

	"plumb/api"
)

// answer is what a call told: a Num, or an int, and its error.
type answer struct {
	x api.Num
	c int
	e api.Errno
}

func (x answer) equal(y answer) bool { return equal(x.x, y.x) && x.c == y.c && x.e == y.e }

// calls are all that take Nums and tell an error, by a list of two.
func calls() map[string]func(l []api.Num) answer {
	one := func(f func(x api.Num) (api.Num, api.Errno)) func(l []api.Num) answer {
		return func(l []api.Num) answer { x, e := f(l[0]); return answer{x: x, e: e} }
	}
	two := func(f func(a, b api.Num) (api.Num, api.Errno)) func(l []api.Num) answer {
		return func(l []api.Num) answer { x, e := f(l[0], l[1]); return answer{x: x, e: e} }
	}
	return map[string]func(l []api.Num) answer{
		"Neg": one(Neg), "Abs": one(Abs), "Sum": func(l []api.Num) answer { x, e := Sum(l); return answer{x: x, e: e} },
		"Add": two(Add), "Sub": two(Sub), "Mul": two(Mul), "Dot": two(func(a, b api.Num) (api.Num, api.Errno) { return Dot([]api.Num{a, a}, []api.Num{b, a}) }),
		"Scale": one(func(x api.Num) (api.Num, api.Errno) { return Scale(x, 7) }), "Scale far": one(func(x api.Num) (api.Num, api.Errno) { return Scale(x, 1<<62) }),
		"Make": one(func(x api.Num) (api.Num, api.Errno) { return Make(x.Neg, x.Mag, 5) }),
		"Cmp":  func(l []api.Num) answer { c, e := Cmp(l[0], l[1]); return answer{c: c, e: e} },
		"Sign": func(l []api.Num) answer { c, e := Sign(l[0]); return answer{c: c, e: e} },
	}
}

func TestInvalidNumsComeFirst(t *testing.T) {
	takesBoth := []string{"Sum", "Add", "Sub", "Mul", "Dot", "Cmp"}
	for name, call := range calls() {
		if name == "Make" {
			continue
		}
		for _, bad := range invalid() {
			for _, good := range []api.Num{{}, num(1, 0), num(1, api.MaxExp), ones(0)} {
				if got := call([]api.Num{bad, good}); !got.equal(answer{e: api.ErrNat}) {
					t.Errorf("P302: %s of %v: %v", name, head(bad), got)
				}
				if got := call([]api.Num{good, bad}); slices.Contains(takesBoth, name) && !got.equal(answer{e: api.ErrNat}) {
					t.Errorf("P302: %s with %v: %v", name, head(bad), got)
				}
			}
		}
	}
	for _, bad := range [][]int{{0}, {1, 0}, {-1}, {1 << 30}, append(ones(0).Mag, 1)} {
		for _, exp := range []int{0, 1 << 62, -1 << 62} {
			x, e := Make(false, bad, exp)
			refused(t, "P303: Make of no natural number", x, e, api.ErrNat)
		}
	}
}

// spare is a copy of a number with room behind its digits that holds 77s.
func spare(x api.Num) api.Num {
	x.Mag = append(slices.Clone(x.Mag), 77, 77, 77)[:len(x.Mag)]
	return x
}

// kept tells whether a copy is as it was made, its spare room too.
func kept(copied, x api.Num) bool {
	return equal(copied, x) && slices.Equal(copied.Mag[:len(x.Mag)+3], append(slices.Clone(x.Mag), 77, 77, 77))
}

// fill writes over a number's memory.
func fill(x api.Num) {
	for i := range x.Mag[:cap(x.Mag)] {
		x.Mag[:cap(x.Mag)][i] = -5
	}
}

func TestArgumentsStay(t *testing.T) {
	l := append(edges()[:20], ones(-60000), random(seeded(12), 50, 10), random(seeded(13), 50, 10))
	for name, call := range calls() {
		for _, a := range l {
			for _, b := range l {
				given := append(make([]api.Num, 0, 4), spare(a), spare(b))
				first := call(given)
				told := answer{x: api.Num{Neg: first.x.Neg, Mag: slices.Clone(first.x.Mag), Exp: first.x.Exp}, c: first.c, e: first.e}
				if !kept(given[0], a) || !kept(given[1], b) || !equal(given[:3][2], api.Num{}) {
					t.Fatalf("P310: %s(%v, %v) changed what it was given", name, head(a), head(b))
				}
				fill(given[0])
				fill(given[1])
				if !first.equal(told) {
					t.Fatalf("P310: %s(%v, %v) answered what it was given", name, head(a), head(b))
				}
				fill(first.x)
				if again := call([]api.Num{spare(a), spare(b)}); !again.equal(told) {
					t.Fatalf("P310: %s(%v, %v) told something else the second time", name, head(a), head(b))
				}
			}
		}
	}
}

func TestExamples(t *testing.T) {
	of := func(x api.Num, e api.Errno) answer { return answer{x: x, e: e} }
	tiny := num(1, -1074)
	less, _ := exact{wide(num(1, 1074)).plus(wide(num(-1, 0))).m, -1074}.form() // 2^1074 - 1, times 2^-1074
	for i, x := range []struct{ got, want answer }{
		{of(Make(true, []int{6}, -1)), answer{x: num(-3, 0)}},
		{of(Make(true, nil, 99)), answer{}},
		{of(Make(false, []int{0}, 0)), answer{e: api.ErrNat}},
		{of(Make(false, []int{1}, api.MaxExp)), answer{x: num(1, api.MaxExp)}},
		{of(Make(false, []int{2}, api.MaxExp)), answer{e: api.ErrLong}},
		{of(Make(false, []int{1}, 1<<62)), answer{e: api.ErrLong}},
		{of(Of(0x3FF8000000000000)), answer{x: num(3, -1)}},
		{of(Of(-1 << 63)), answer{}},
		{of(Of(api.Inf)), answer{e: api.ErrFinite}},
		{of(Add(num(3, -1), num(-3, -1))), answer{}},
		{of(Sub(num(1, 0), tiny)), answer{x: less}},
		{of(Mul(num(-1, -1), num(3, 1))), answer{x: num(-3, 0)}},
		{of(Add(num(1, 70000), num(1, 0))), answer{e: api.ErrLong}},
		{of(Sum([]api.Num{num(1, 70000), num(1, 0), num(-1, 70000)})), answer{x: num(1, 0)}},
		{of(Scale(num(3, 0), 1<<62)), answer{e: api.ErrLong}},
		{of(Scale(api.Num{}, 1<<62)), answer{}},
	} {
		if !x.got.equal(x.want) {
			t.Errorf("P302 to P307: example %d: %v, want %v", i, x.got, x.want)
		}
	}
	if c, e := Cmp(num(-1, 0), api.Num{}); c != -1 || e != api.OK {
		t.Errorf("P308: Cmp(-1, 0) = %d, error %d", c, e)
	}
	if s, e := Sign(api.Num{Neg: true}); s != 0 || e != api.ErrNat {
		t.Errorf("P302, P308: Sign of what is no Num: %d, error %d", s, e)
	}
}
