package sums

import (
	"math"
	"math/big"
	"slices"
	"testing"

	"plumb/api"
)

// reference is a sum of products by the library: its value, or what its terms that are not finite come to; of one list a second one of 1s is the other factor.
func reference(a, b []int, value func(b int) float64) (x *big.Float, stray float64, finite bool) {
	x, finite = wide(0), true
	for i := range a {
		f, g := value(a[i]), 1.0
		if b != nil {
			g = value(b[i])
		}
		if math.IsNaN(f-f) || math.IsNaN(g-g) {
			stray += f * g
			finite = false
			continue
		}
		x.Add(x, new(big.Float).Mul(wide(f), wide(g)))
	}
	return x, stray, finite
}

// want is the pattern that a sum of products must be.
func want(a, b []int, way int) int {
	x, stray, finite := reference(a, b, value)
	switch {
	case finite:
		return rounded(x, way)
	case math.IsNaN(stray):
		return api.NaN
	}
	return of(stray)
}

// want32 is the same of binary32.
func want32(a, b []int, way int) int {
	x, stray, finite := reference(a, b, value32)
	switch {
	case finite:
		return rounded32(x, way)
	case math.IsNaN(stray):
		return api.NaN32
	}
	return of32(float32(stray))
}

// wantNorm is the pattern that a Norm must be.
func wantNorm(l []int, way int) int {
	x, stray, finite := reference(l, l, value)
	switch {
	case slices.Contains(l, api.Inf) || slices.Contains(l, minusInf):
		return api.Inf
	case !finite && math.IsNaN(stray):
		return api.NaN
	}
	return rounded(wideRoot(x), way)
}

// check holds what a call told to a pattern.
func check(t *testing.T, what string, way int, got int, e api.Errno, want int) {
	t.Helper()
	if got != want || e != api.OK {
		t.Errorf("%s in way %d: %#x, error %d; want %#x", what, way, got, e, want)
	}
}

func TestSum(t *testing.T) {
	for _, l := range slices.Concat(finite(11), anyOf(seeded(12), special(), 1000, 4), anyOf(seeded(13), special()[:18], 1000, 4)) {
		for _, way := range allWays() {
			got, e := Sum(l, way)
			check(t, "P505: Sum", way, got, e, want(l, nil, way))
		}
	}
}

func TestSum32(t *testing.T) {
	for _, l := range slices.Concat(narrowed(finite(14)), anyOf(seeded(15), special32(), 2000, 4)) {
		for _, way := range allWays() {
			got, e := Sum32(l, way)
			check(t, "P506: Sum32", way, got, e, want32(l, nil, way))
		}
	}
}

// pairsOf are lists by twos of one length.
func pairsOf(l [][]int) [][2][]int {
	var p [][2][]int
	for i, a := range l {
		b := l[(i*7+3)%len(l)]
		n := min(len(a), len(b))
		p = append(p, [2][]int{a[:n], b[:n]})
	}
	return p
}

func TestDot(t *testing.T) {
	l := pairsOf(slices.Concat(finite(16), anyOf(seeded(17), special(), 2000, 4), anyOf(seeded(18), special()[:18], 500, 4)))
	r := seeded(19)
	for range 300 { // products that all but cancel
		a, b := mixed(r, -500, 500), mixed(r, -500, 500)
		l = append(l, [2][]int{list(a, -b, 1), list(b, a, mixed(r, -1074, -1000))}, [2][]int{list(a, a*b), list(b, -1)})
	}
	for _, p := range l {
		for _, way := range allWays() {
			got, e := Dot(p[0], p[1], way)
			check(t, "P505: Dot", way, got, e, want(p[0], p[1], way))
		}
	}
}

func TestDot32(t *testing.T) {
	l := pairsOf(slices.Concat(narrowed(finite(20)), anyOf(seeded(21), special32(), 2000, 4)))
	r := seeded(22)
	for range 300 {
		a, b := float32(mixed(r, -60, 60)), float32(mixed(r, -60, 60))
		l = append(l, [2][]int{list32(a, a*b), list32(b, -1)})
	}
	for _, p := range l {
		for _, way := range allWays() {
			got, e := Dot32(p[0], p[1], way)
			check(t, "P506: Dot32", way, got, e, want32(p[0], p[1], way))
		}
	}
}

func TestNorm(t *testing.T) {
	l, r := slices.Concat(finite(23), anyOf(seeded(24), special(), 1000, 4), anyOf(seeded(25), special()[:16], 300, 4)), seeded(26)
	for range 300 { // sides of right triangles: whole roots, and, with a little one more, hardly none
		m, n := 2+r.IntN(1<<25), 1+r.IntN(1<<25)
		a := list(float64(m*m-n*n), float64(2*m*n))
		l = append(l, a, append(a, of(mixed(r, -1074, 0))))
	}
	for _, a := range l {
		for _, way := range allWays() {
			got, e := Norm(a, way)
			check(t, "P505: Norm", way, got, e, wantNorm(a, way))
		}
	}
}

// The longest lists, of the greatest and the least floats: nothing is lost on the way.
func TestLongestLists(t *testing.T) {
	great, least := slices.Repeat([]int{top}, api.MaxList), slices.Repeat([]int{minus0 + 1}, api.MaxList)
	half := slices.Concat(great[:2047], slices.Repeat([]int{top | minus0}, 2048), []int{1})
	great32, least32 := slices.Repeat([]int{top32}, api.MaxList), slices.Repeat([]int{minus032 + 1}, api.MaxList)
	for _, way := range allWays() {
		for _, l := range [][]int{great, least, half} {
			got, e := Sum(l, way)
			check(t, "P505: Sum of 4,096 floats", way, got, e, want(l, nil, way))
			got, e = Norm(l, way)
			check(t, "P505: Norm of 4,096 floats", way, got, e, wantNorm(l, way))
			for _, m := range [][]int{great, least, half} {
				got, e = Dot(l, m, way)
				check(t, "P505: Dot of 4,096 floats", way, got, e, want(l, m, way))
			}
		}
		for _, l := range [][]int{great32, least32} {
			got, e := Sum32(l, way)
			check(t, "P506: Sum32 of 4,096 floats", way, got, e, want32(l, nil, way))
			got, e = Dot32(l, least32, way)
			check(t, "P506: Dot32 of 4,096 floats", way, got, e, want32(l, least32, way))
		}
	}
}

func TestExamplesOfExactSums(t *testing.T) {
	inf, greatest := math.Inf(1), math.MaxFloat64
	type told struct {
		b int
		e api.Errno
	}
	by := func(b int, e api.Errno) told { return told{b, e} }
	is := func(f float64) told { return told{b: of(f)} }
	great := list(0x1p600, 1)
	for i, x := range []struct{ got, want told }{
		{by(Sum(list(1, 0x1p-53, 0x1p-53), api.Near)), is(1 + 0x1p-52)},
		{by(Sum([]int{minus0}, api.Near)), is(0)}, {by(Sum([]int{minus0, 0}, api.Near)), is(0)}, {by(Sum([]int{minus0, 0}, api.Down)), is(0)}, {by(Sum(list(1, -1), api.Down)), is(0)},
		{by(Sum(list(0x1p1023, 0x1p1023, -0x1p1023), api.Near)), is(0x1p1023)},
		{by(Sum(list(inf, 1), api.Near)), is(inf)}, {by(Sum(list(inf, -inf), api.Near)), told{b: api.NaN}}, {by(Sum(list(inf, math.NaN()), api.Near)), told{b: api.NaN}}, {by(Sum([]int{-1}, api.Near)), told{b: api.NaN}}, {by(Sum(list(-greatest, -inf), api.Up)), is(-inf)},
		{by(Sum(list(greatest, greatest), api.Zero)), is(greatest)}, {by(Sum(list(-greatest, -greatest), api.Up)), is(-greatest)},
		{by(Dot(great, great, api.Near)), is(inf)}, {by(Dot(great, great, api.Zero)), is(greatest)}, {by(Dot(list(1), list(1, 2), api.Near)), told{e: api.ErrArg}},
		{by(Dot(list(inf, -1), list(-2, 1), api.Near)), is(-inf)}, {by(Dot(list(0, 1), list(inf, inf), api.Near)), told{b: api.NaN}}, {by(Dot(list(inf, inf), list(1, -1), api.Near)), told{b: api.NaN}}, {by(Dot(list(-inf), list(-inf), api.Down)), is(inf)}, {by(Dot(nil, []int{}, api.Up)), is(0)},
		{by(Dot(list(0x1p600, inf), list(-0x1p600, 1), api.Near)), is(inf)}, // a product of finite floats is no infinity
		{by(Dot(list(0x1p-600), list(0x1p-600), api.Up)), told{b: 1}}, {by(Dot(list(0x1p-600), list(-0x1p-600), api.Near)), is(0)}, {by(Dot(list(0x1p-600), list(-0x1p-600), api.Down)), told{b: minus0 + 1}},
		{by(Norm(list(3, 4), api.Near)), is(5)}, {by(Norm(list(-3, 4), api.Up)), is(5)}, {by(Norm(list(inf, math.NaN()), api.Near)), is(inf)}, {by(Norm(list(math.NaN(), -inf), api.Zero)), is(inf)}, {by(Norm(list(math.NaN(), 1), api.Near)), told{b: api.NaN}}, {by(Norm(nil, api.Near)), is(0)}, {by(Norm([]int{minus0}, api.Down)), is(0)},
		{by(Norm(list(greatest, greatest), api.Near)), is(inf)}, {by(Norm(list(greatest, greatest), api.Down)), is(greatest)}, {by(Norm([]int{minus0 + 1}, api.Near)), told{b: 1}},
		{by(Sum32(list32(0x1p24, 1, 1), api.Near)), told{b: of32(0x1p24 + 2)}}, {by(Sum32([]int{1 << 32, 0}, api.Near)), told{b: api.NaN32}}, {by(Sum32([]int{api.Inf32, top32 | minus032}, api.Near)), told{b: api.Inf32}}, {by(Sum32([]int{top32, top32}, api.Down)), told{b: top32}}, {by(Sum32([]int{minus032}, api.Down)), is(0)},
		{by(Dot32([]int{top32, 1}, []int{top32, of32(1)}, api.Near)), told{b: api.Inf32}}, {by(Dot32([]int{1}, []int{minus032 + 1}, api.Zero)), is(0)}, {by(Dot32([]int{0}, []int{-1}, api.Near)), told{b: api.NaN32}},
	} {
		if x.got != x.want {
			t.Errorf("P505, P506: example %d: %#x, error %d; want %#x, error %d", i, x.got.b, x.got.e, x.want.b, x.want.e)
		}
	}
}
