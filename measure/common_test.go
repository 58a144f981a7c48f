package measure

import (
	"slices"
	"testing"

	"plumb/api"
)

func TestSquareAndDot(t *testing.T) {
	for _, l := range slices.Concat(samples(1, fartherAsked()), samples(1, angleAsked())) {
		a, b, c := l[0], l[1], l[2]
		if n, e := Square(a, b); !same(n, num(squareExactly(a, b))) || e != api.OK {
			t.Fatalf("P1301: Square(%x): %v, error %d; want %v", l[:2], n, e, num(squareExactly(a, b)))
		}
		if n, e := Dot(a, b, c); !same(n, num(dotExactly(a, b, c))) || e != api.OK {
			t.Fatalf("P1301: Dot(%x): %v, error %d; want %v", l[:3], n, e, num(dotExactly(a, b, c)))
		}
	}
}

func TestAnswersAreNewMemory(t *testing.T) {
	for _, l := range samples(7, angleAsked()) {
		for name, call := range map[string]func() (api.Num, api.Errno){
			"Square": func() (api.Num, api.Errno) { return Square(l[0], l[1]) },
			"Dot":    func() (api.Num, api.Errno) { return Dot(l[0], l[1], l[2]) },
		} {
			n, _ := call()
			kept := slices.Clone(n.Mag)
			again, _ := call()
			clear(again.Mag[:cap(again.Mag)])
			if !slices.Equal(n.Mag, kept) {
				t.Fatalf("P1301: %s(%x): two answers share their memory", name, l)
			}
		}
	}
}

func TestSignsAndStages(t *testing.T) {
	for _, a := range both() {
		seen := map[api.Verdict]int{}
		for _, l := range samples(2, a) {
			want := a.wanted(l)
			v, e := a.sign(l)
			if v != want || e != api.OK {
				t.Fatalf("%s: %s(%x): %v, error %d; want %v", a.promise, a.name, l, v, e, want)
			}
			if s := a.exactly(l).Sign(); v.Sign != s {
				t.Fatalf("P1305: %s(%x): %v; the exact sign is %d", a.name, l, v, s)
			}
			seen[v]++
		}
		for _, stage := range []int{api.StageFilter, api.StageExpansion, api.StageSpan, api.StageDyadic} {
			for sign := -1; sign <= 1; sign++ {
				never := stage == api.StageFilter && sign == 0 // a value that is greater than a bound is not 0
				if n := seen[api.Verdict{Sign: sign, Stage: stage}]; (n < 20) != never {
					t.Errorf("%s: %s: sign %d by stage %d was told %d times: too few to tell", a.promise, a.name, sign, stage, n)
				}
			}
		}
	}
}

func TestSignsAreThoseOfSquareAndDot(t *testing.T) {
	sign := func(n api.Num) int {
		switch {
		case len(n.Mag) == 0:
			return 0
		case n.Neg:
			return -1
		}
		return 1
	}
	for _, l := range samples(3, angleAsked()) {
		v, _ := Angle(l[0], l[1], l[2])
		if n, _ := Dot(l[0], l[1], l[2]); v.Sign != sign(n) {
			t.Fatalf("P1303: Angle(%x): %v, and Dot %v", l, v, n)
		}
		v, _ = Farther(l[0], l[1], l[2], l[2])
		if n, _ := Square(l[0], l[1]); v.Sign != sign(n) {
			t.Fatalf("P1302: Farther(%x) than no distance: %v, and Square %v", l[:2], v, n)
		}
	}
}

func TestNoughtsAreAlike(t *testing.T) {
	for _, a := range both() {
		for _, l := range samples(4, a) {
			c := l.flat()
			for i, b := range c {
				if value(b) == 0 {
					c[i] ^= minus0
				}
			}
			v, e := a.sign(l)
			if w, f := a.sign(fromFlat(c)); v != w || e != f {
				t.Fatalf("%s: %s(%x): %v, with noughts of other signs %v", a.promise, a.name, l, v, w)
			}
		}
	}
}

func TestTameEdges(t *testing.T) {
	for _, a := range both() {
		for i := range 2 * a.count {
			for _, x := range []struct {
				f    float64
				wild bool
			}{{0, false}, {minusZero(), false}, {0x1p-150, false}, {0x1.fffffffffffffp149, false}, {0x1.fffffffffffffp-151, true}, {0x1p150, true}, {0x1p-1074, true}, {top, true}} {
				for _, f := range []float64{x.f, -x.f} {
					c := drawn(seeded(uint64(i)), a.count, 0, 3).flat()
					c[i] = of(f)
					v, e := a.sign(fromFlat(c))
					if wild := v.Stage >= api.StageSpan; wild != x.wild || e != api.OK {
						t.Errorf("%s: %s with %v as coordinate %d: %v, error %d", a.promise, a.name, f, i, v, e)
					}
				}
			}
		}
	}
}

func TestExchanges(t *testing.T) {
	for _, l := range samples(5, fartherAsked()) {
		a, b, c, d := l[0], l[1], l[2], l[3]
		first, _ := Farther(a, b, c, d)
		if v, e := Farther(c, d, a, b); v != (api.Verdict{Sign: -first.Sign, Stage: first.Stage}) || e != api.OK {
			t.Fatalf("P1305: Farther(%x): %v, with the pairs exchanged %v", l, first, v)
		}
		for i, m := range []points{{b, a, c, d}, {a, b, d, c}, {b, a, d, c}} {
			if v, e := Farther(m[0], m[1], m[2], m[3]); v != first || e != api.OK {
				t.Fatalf("P1302: Farther(%x): %v, with ends exchanged (%d) %v", l, first, i, v)
			}
		}
		if v, e := Farther(a, b, b, a); v.Sign != 0 || e != api.OK {
			t.Fatalf("P1305: Farther(%x) than the same: %v", l[:2], v)
		}
	}
	for _, l := range samples(5, angleAsked()) {
		first, _ := Angle(l[0], l[1], l[2])
		if v, e := Angle(l[2], l[1], l[0]); v != first || e != api.OK {
			t.Fatalf("P1303: Angle(%x): %v, with the legs exchanged %v", l, first, v)
		}
		for i, m := range []points{{l[0], l[0], l[2]}, {l[0], l[2], l[2]}, {l[0], l[0], l[0]}} {
			if v, e := Angle(m[0], m[1], m[2]); v.Sign != 0 || e != api.OK {
				t.Fatalf("P1303: Angle(%x), two of one place (%d): %v", m, i, v)
			}
		}
	}
}

func TestPowersOfTwoChangeNoSign(t *testing.T) {
	for _, a := range both() {
		moved := 0
		for i, l := range samples(6, a) {
			if i%3 > 0 { // a third of them is enough
				continue
			}
			v, _ := a.sign(l)
			for _, k := range []int{-900, -140, 1, 140, 900} {
				m, ok := l.scaled(k)
				if !ok {
					continue
				}
				moved++
				if w, e := a.sign(m); w.Sign != v.Sign || e != api.OK {
					t.Fatalf("P1305: %s(%x): %v, times 2^%d %v", a.name, l, v, k, w)
				}
			}
		}
		if moved < 5000 {
			t.Errorf("P1305: %s: %d of them: too few to tell", a.name, moved)
		}
	}
}
