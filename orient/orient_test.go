package orient

import (
	"math/big"
	"slices"
	"testing"

	"plumb/api"
)

func same(x, y api.Num) bool {
	return x.Neg == y.Neg && x.Exp == y.Exp && slices.Equal(x.Mag, y.Mag)
}

func TestExact(t *testing.T) {
	for _, x := range samples(1) {
		if n, e := Exact(x.a, x.b, x.c); !same(n, num(exactly(x))) || e != api.OK {
			t.Fatalf("P1001: Exact(%x): %v, error %d; want %v", x, n, e, num(exactly(x)))
		}
	}
}

// promise is the one that says when a stage decides.
func promise(stage int) string {
	return map[int]string{api.StageFilter: "P1003", api.StageHeads: "P1004", api.StageTails: "P1005", api.StageExpansion: "P1006", api.StageSpan: "P1007", api.StageDyadic: "P1007"}[stage]
}

func TestSignsAndStages(t *testing.T) {
	seen := map[api.Verdict]int{}
	for _, x := range samples(2) {
		want := wanted(x)
		v, e := Sign(x.a, x.b, x.c)
		if v != want || e != api.OK {
			t.Fatalf("P1002, %s: Sign(%x): %v, error %d; want %v", promise(want.Stage), x, v, e, want)
		}
		if s := exactly(x).Sign(); v.Sign != s {
			t.Fatalf("P1008: Sign(%x): %v; the exact sign is %d", x, v, s)
		}
		seen[v]++
	}
	for stage := api.StageFilter; stage <= api.StageDyadic; stage++ {
		for sign := -1; sign <= 1; sign++ {
			never := stage == api.StageTails && sign == 0 // a value that reaches a bound above 0 is not 0
			if n := seen[api.Verdict{Sign: sign, Stage: stage}]; (n < 20) != never {
				t.Errorf("%s: sign %d was told %d times: too few to tell", promise(stage), sign, n)
			}
		}
	}
}

func TestNoughtsAreAlike(t *testing.T) {
	for _, x := range samples(3) {
		c := x.coordinates()
		for i, b := range c {
			if value(b) == 0 {
				c[i] ^= minus0
			}
		}
		v, e := Sign(x.a, x.b, x.c)
		w, f := Sign(api.Point{X: c[0], Y: c[1]}, api.Point{X: c[2], Y: c[3]}, api.Point{X: c[4], Y: c[5]})
		if v != w || e != f {
			t.Fatalf("P1002: Sign(%x): %v, with noughts of other signs %v", x, v, w)
		}
	}
}

func TestTameEdges(t *testing.T) {
	far, near := at(0x1.fffffffffffffp149, 1), at(0x1p-150, 1)
	for i, x := range []struct {
		t    three
		wild bool
	}{
		{three{far, near, at(0, 0)}, false},
		{three{at(0x1p150, 1), near, at(0, 0)}, true},
		{three{far, at(0x1.fffffffffffffp-151, 1), at(0, 0)}, true},
		{three{far, near, at(-0x1p150, 0)}, true},
		{three{far, near, at(-0x1.fffffffffffffp149, 0x1p-150)}, false},
		{three{far, near, at(1, 0x1p-1074)}, true},
	} {
		for n := range 6 {
			p := x.t.turned(n)
			v, e := Sign(p.a, p.b, p.c)
			if wild := v.Stage >= api.StageSpan; wild != x.wild || e != api.OK {
				t.Errorf("P1003, P1007: row %d in order %d: %v, error %d", i, n, v, e)
			}
		}
	}
}

func TestExchanges(t *testing.T) {
	for _, x := range samples(4) {
		first, _ := Sign(x.a, x.b, x.c)
		for n := range 6 {
			p := x.turned(n)
			v, e := Sign(p.a, p.b, p.c)
			if n < 3 && v.Sign != first.Sign || n >= 3 && v.Sign != -first.Sign || e != api.OK {
				t.Fatalf("P1009: Sign(%x): %v, in order %d %v", x, first, n, v)
			}
		}
		for n, p := range []three{{x.a, x.a, x.c}, {x.a, x.b, x.a}, {x.a, x.b, x.b}, {x.a, x.a, x.a}} {
			if v, e := Sign(p.a, p.b, p.c); v.Sign != 0 || e != api.OK {
				t.Fatalf("P1009: Sign(%x), two of one place (%d): %v", p, n, v)
			}
		}
	}
}

// crowd are points of which many nearly lie on one line.
func crowd(seed uint64) []api.Point {
	r := seeded(seed)
	low := []int{0, -149, -1074, 1000}[seed%4]
	t := drawn(r, low, low+1)
	l := []api.Point{t.a, t.b, t.c}
	for len(l) < 8 {
		n := nearly(r, low, low, 1)
		i, k := r.IntN(len(l)), r.IntN(len(l))
		middle := at(value(l[i].X)/2+value(l[k].X)/2, value(l[i].Y)/2+value(l[k].Y)/2)
		l = append(l, n.a, n.b, middle)
	}
	return l
}

// ordered tells whether no three of some points lie on one line.
func ordered(l []api.Point) bool {
	for i := range l {
		for j := range i {
			for k := range j {
				if exactly(three{l[i], l[j], l[k]}).Sign() == 0 {
					return false
				}
			}
		}
	}
	return true
}

func TestKnuthsLaws(t *testing.T) {
	left := func(p, q, r api.Point) bool {
		v, _ := Sign(p, q, r)
		return v.Sign == 1
	}
	r := seeded(6)
	tried := 0
	for seed := range uint64(60) {
		l := crowd(seed)
		for range 400 {
			r.Shuffle(len(l), func(i, k int) { l[i], l[k] = l[k], l[i] })
			if !ordered(l[:5]) {
				continue
			}
			tried++
			p, q, r, s, o := l[0], l[1], l[2], l[3], l[4]
			law := []bool{
				!left(p, q, r) || left(q, r, p),
				!left(p, q, r) || !left(p, r, q),
				left(p, q, r) || left(p, r, q),
				!left(o, q, r) || !left(p, o, r) || !left(p, q, o) || left(p, q, r),
				!left(o, s, p) || !left(o, s, q) || !left(o, s, r) || !left(o, p, q) || !left(o, q, r) || left(o, p, r),
			}
			if i := slices.Index(law, false); i >= 0 {
				t.Fatalf("P1010: law %d fails for %x", i+1, l[:5])
			}
		}
	}
	if tried < 1000 {
		t.Errorf("P1010: %d fives of points: too few to tell", tried)
	}
}

// scaled are the points with all coordinates times 2^k; false: that loses something.
func scaled(x three, k int) (three, bool) {
	kept := true
	move := func(b int) int {
		f := new(big.Float).SetMantExp(big.NewFloat(value(b)), k)
		g, lies := f.Float64()
		kept = kept && lies == big.Exact
		return of(g)
	}
	p := func(p api.Point) api.Point { return api.Point{X: move(p.X), Y: move(p.Y)} }
	return three{p(x.a), p(x.b), p(x.c)}, kept
}

func TestPowersOfTwoChangeNoSign(t *testing.T) {
	moved := 0
	for i, x := range samples(5) {
		if i%3 > 0 { // a third of them is enough
			continue
		}
		v, _ := Sign(x.a, x.b, x.c)
		for _, k := range []int{-900, -140, -1, 1, 140, 900} {
			y, ok := scaled(x, k)
			if !ok || !y.good() {
				continue
			}
			moved++
			if w, e := Sign(y.a, y.b, y.c); w.Sign != v.Sign || e != api.OK {
				t.Fatalf("P1008: Sign(%x): %v, times 2^%d %v", x, v, k, w)
			}
		}
	}
	if moved < 10000 {
		t.Errorf("P1008: %d of them: too few to tell", moved)
	}
}
