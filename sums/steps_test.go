package sums

import (
	"math"
	"slices"
	"testing"

	"plumb/api"
	"plumb/bits"
	"plumb/round"
)

// plus and less are the chapter's + and - of patterns.
func plus(a, b int) int { s, _ := round.Add(a, b, api.Near); return s }

func less(a, b int) int { s, _ := round.Sub(a, b, api.Near); return s }

func wantLeft(l []int) int {
	s := 0
	for _, x := range l {
		s = plus(s, x)
	}
	return s
}

func wantRight(l []int) int {
	s := 0
	for _, x := range slices.Backward(l) {
		s = plus(s, x)
	}
	return s
}

func wantPairs(l []int) int {
	switch len(l) {
	case 0:
		return 0
	case 1:
		return plus(l[0], 0)
	}
	return plus(wantPairs(l[:len(l)/2]), wantPairs(l[len(l)/2:]))
}

func wantKahan(l []int) int {
	s, c := 0, 0
	for _, x := range l {
		y := less(x, c)
		t := plus(s, y)
		c = less(less(t, s), y)
		s = t
	}
	return s
}

func wantNeumaier(l []int) int {
	s, c := 0, 0
	for _, x := range l {
		t := plus(s, x)
		if a, b := bits.Abs(x), bits.Abs(s); bits.Less(a, b) || bits.Same(a, b) {
			c = plus(c, plus(less(s, t), x))
		} else {
			c = plus(c, plus(less(x, t), s))
		}
		s = t
	}
	return plus(s, c)
}

func wantLeft32(l []int) int {
	s := 0
	for _, x := range l {
		s, _ = round.Add32(s, x, api.Near)
	}
	return s
}

// steps are the calls that add in a stated order, and what they must tell.
type step struct {
	name      string
	got, want func(l []int) int
}

func steps() []step {
	return []step{{"P501: Left", Left, wantLeft}, {"P501: Right", Right, wantRight}, {"P502: Pairs", Pairs, wantPairs}, {"P503: Kahan", Kahan, wantKahan}, {"P504: Neumaier", Neumaier, wantNeumaier}}
}

func TestSteps(t *testing.T) {
	r := seeded(1)
	l := slices.Concat(finite(2), anyOf(r, special(), 2000, 6), anyOf(r, special()[:15], 1000, 9))
	for range 300 { // each step loses bits of its own
		a := make([]int, r.IntN(60))
		for i := range a {
			a[i] = of(mixed(r, -30, 30))
		}
		l = append(l, a)
	}
	for _, a := range l {
		for _, x := range steps() {
			if got, want := x.got(a), x.want(a); got != want {
				t.Errorf("%s of %x = %#x, want %#x", x.name, a, got, want)
			}
		}
	}
}

func TestSteps32(t *testing.T) {
	r := seeded(3)
	l := slices.Concat(narrowed(finite(4)), anyOf(r, special32(), 2000, 6))
	for range 300 {
		a := make([]int, r.IntN(60))
		for i := range a {
			a[i] = of32(float32(mixed(r, -20, 20)))
		}
		l = append(l, a)
	}
	for _, a := range l {
		if got, want := Left32(a), wantLeft32(a); got != want {
			t.Errorf("P506: Left32 of %x = %#x, want %#x", a, got, want)
		}
	}
}

// Lists longer than MaxList are added in the stated orders too.
func TestStepsOfLongLists(t *testing.T) {
	r := seeded(5)
	for _, length := range []int{api.MaxList, api.MaxList + 1, 100001} {
		a, b := make([]int, length), make([]int, length)
		for i := range a {
			f := mixed(r, -30, 30)
			a[i], b[i] = of(f), of32(float32(f))
		}
		for _, x := range steps() {
			if got, want := x.got(a), x.want(a); got != want {
				t.Errorf("%s, P507: of %d floats: %#x, want %#x", x.name, length, got, want)
			}
		}
		if got, want := Left32(b), wantLeft32(b); got != want {
			t.Errorf("P506, P507: Left32 of %d floats: %#x, want %#x", length, got, want)
		}
	}
}

func TestExamplesOfSteps(t *testing.T) {
	tiny, great := list(1, 0x1p-53, 0x1p-53), list(0x1p100, 1, -0x1p100)
	for i, x := range [][2]int{
		{Left(tiny), of(1)}, {Right(tiny), of(1 + 0x1p-52)},
		{Left(nil), 0}, {Left([]int{minus0}), 0}, {Right([]int{minus0}), 0}, {Pairs([]int{minus0}), 0}, {Pairs([]int{minus0, minus0}), 0}, {Pairs(nil), 0}, {Kahan([]int{minus0}), 0}, {Neumaier([]int{minus0}), 0},
		{Kahan(append(tiny, list(0x1p-53, 0x1p-53)...)), of(1 + 0x1p-51)}, {Neumaier(great), of(1)}, {Kahan(great), 0},
		{Left(list(0x1p1023, 0x1p1023, -0x1p1023)), api.Inf}, {Right(list(-0x1p1023, 0x1p1023, 0x1p1023)), api.Inf},
		{Pairs(list(0x1p53, 1, 1, 1)), of(0x1p53 + 2)}, {Pairs(list(1, 1, 0x1p53)), of(0x1p53)}, {Pairs(list(0x1p53, 1, 1)), of(0x1p53 + 2)},
		{Kahan(list(math.Inf(1), 1)), api.NaN}, {Kahan(list(1, math.Inf(1))), api.Inf}, {Neumaier(list(math.Inf(1))), api.NaN}, {Neumaier(list(1, math.NaN())), api.NaN},
		{Neumaier(list(1, -1, 0x1p-60)), of(0x1p-60)}, {Left([]int{-1}), api.NaN}, {Pairs([]int{api.Inf + 1}), api.NaN},
		{Left32(list32(0x1p24, 1, 1)), of32(0x1p24)}, {Left32(list32(1, 1, 0x1p24)), of32(0x1p24 + 2)}, {Left32([]int{minus032}), 0}, {Left32(nil), 0}, {Left32([]int{1 << 32}), api.NaN32}, {Left32([]int{top32, top32}), api.Inf32}, {Left32([]int{-1, 0}), api.NaN32},
	} {
		if x[0] != x[1] {
			t.Errorf("P501 to P504, P506: example %d: %#x, want %#x", i, x[0], x[1])
		}
	}
}
