package circle

import (
	"cmp"
	"slices"
	"testing"

	"plumb/api"
)

func same(x, y api.Num) bool {
	return x.Neg == y.Neg && x.Exp == y.Exp && slices.Equal(x.Mag, y.Mag)
}

func TestExact(t *testing.T) {
	for _, f := range samples(1) {
		if n, e := exactOf(f); !same(n, num(exactly(f))) || e != api.OK {
			t.Fatalf("P1101: Exact(%x): %v, error %d; want %v", f, n, e, num(exactly(f)))
		}
	}
}

// promise is the one that says when a stage decides.
func promise(stage int) string {
	return map[int]string{api.StageFilter: "P1103", api.StageHeads: "P1104", api.StageTails: "P1105", api.StageExpansion: "P1106", api.StageSpan: "P1107", api.StageDyadic: "P1107"}[stage]
}

func TestSignsAndStages(t *testing.T) {
	seen := map[api.Verdict]int{}
	for _, f := range samples(2) {
		want := wanted(f)
		v, e := sign(f)
		if v != want || e != api.OK {
			t.Fatalf("P1102, %s: Sign(%x): %v, error %d; want %v", promise(want.Stage), f, v, e, want)
		}
		if s := exactly(f).Sign(); v.Sign != s {
			t.Fatalf("P1108: Sign(%x): %v; the exact sign is %d", f, v, s)
		}
		seen[v]++
	}
	for stage := api.StageFilter; stage <= api.StageDyadic; stage++ {
		for sign := -1; sign <= 1; sign++ {
			never := sign == 0 && (stage == api.StageFilter || stage == api.StageTails) // a value that reaches a bound above 0 is not 0
			if n := seen[api.Verdict{Sign: sign, Stage: stage}]; (n < 20) != never {
				t.Errorf("%s: sign %d was told %d times: too few to tell", promise(stage), sign, n)
			}
		}
	}
}

// turns is the sign of the turn that three points on small whole numbers make.
func turns(a, b, c [2]int) int {
	return cmp.Compare((a[0]-c[0])*(b[1]-c[1]), (a[1]-c[1])*(b[0]-c[0]))
}

func whole(p [2]int) api.Point { return at(float64(p[0]), float64(p[1])) }

func TestWithinACircle(t *testing.T) {
	const square = 65 // there are 16 points on whole numbers at this distance from 0
	var rim, all [][2]int
	for x := -9; x <= 9; x++ {
		for y := -9; y <= 9; y++ {
			all = append(all, [2]int{x, y})
			if x*x+y*y == square {
				rim = append(rim, [2]int{x, y})
			}
		}
	}
	for i, a := range rim {
		for j, b := range rim {
			for k, c := range rim {
				for n := (i*7 + j*3 + k) % 11; n < len(all); n += 11 {
					d := all[n]
					want := turns(a, b, c) * cmp.Compare(square, d[0]*d[0]+d[1]*d[1])
					if v, e := Sign(whole(a), whole(b), whole(c), whole(d)); v.Sign != want || e != api.OK {
						t.Fatalf("P1102: Sign(%v %v %v %v): %v, error %d; want %d", a, b, c, d, v, e, want)
					}
				}
			}
		}
	}
}

func TestOnOneLine(t *testing.T) {
	l := [][2]int{{-4, -2}, {0, 0}, {2, 1}, {6, 3}}
	for _, a := range l {
		for _, b := range l {
			for _, c := range l {
				apart := a != b && b != c && c != a
				for _, d := range [][2]int{{-4, -2}, {0, 0}, {8, 4}, {-10, -5}, {0, 1}, {2, 2}, {-7, 5}, {3, 1}} {
					off := d[0] != 2*d[1]
					if v, e := Sign(whole(a), whole(b), whole(c), whole(d)); (v.Sign != 0) != (apart && off) || e != api.OK {
						t.Errorf("P1102: Sign(%v %v %v %v): %v, error %d", a, b, c, d, v, e)
					}
				}
			}
		}
	}
}

func TestNoughtsAreAlike(t *testing.T) {
	for _, f := range samples(3) {
		c := coordinates(f)
		for i, b := range c {
			if value(b) == 0 {
				c[i] ^= minus0
			}
		}
		v, e := sign(f)
		w, other := sign(fromCoordinates(c))
		if v != w || e != other {
			t.Fatalf("P1102: Sign(%x): %v, with noughts of other signs %v", f, v, w)
		}
	}
}

func TestTameEdges(t *testing.T) {
	far, near := at(0x1.fffffffffffffp149, 1), at(0x1p-150, 1)
	for i, x := range []struct {
		f    four
		wild bool
	}{
		{four{far, near, at(0, 0), at(3, 3)}, false},
		{four{at(0x1p150, 1), near, at(0, 0), at(3, 3)}, true},
		{four{far, at(0x1.fffffffffffffp-151, 1), at(0, 0), at(3, 3)}, true},
		{four{far, near, at(-0x1p150, 0), at(3, 3)}, true},
		{four{far, near, at(-0x1.fffffffffffffp149, 0x1p-150), at(3, -0x1p-150)}, false},
		{four{far, near, at(0, 0), at(1, 0x1p-1074)}, true},
	} {
		for _, o := range orders() {
			for _, f := range []four{o.of(x.f), exchanged(o.of(x.f))} {
				v, e := sign(f)
				if wild := v.Stage >= api.StageSpan; wild != x.wild || e != api.OK {
					t.Errorf("P1103, P1107: row %d in order %v: %v, error %d", i, o.at, v, e)
				}
			}
		}
	}
}

func TestExchanges(t *testing.T) {
	for i, f := range samples(4) {
		if i%2 > 0 { // half of them is enough
			continue
		}
		first, _ := sign(f)
		for k, o := range orders() {
			if (i/2+k)%8 > 0 { // some of them are enough
				continue
			}
			if v, e := sign(o.of(f)); v.Sign != o.sign*first.Sign || e != api.OK {
				t.Fatalf("P1109: Sign(%x): %v, in order %v %v", f, first, o.at, v)
			}
		}
		for k := range 6 {
			g := f
			g[[6]int{1, 2, 3, 2, 3, 3}[k]] = g[[6]int{0, 0, 0, 1, 1, 2}[k]]
			if v, e := sign(g); v.Sign != 0 || e != api.OK {
				t.Fatalf("P1109: Sign(%x), two of one place: %v", g, v)
			}
		}
	}
}

func TestPowersOfTwoChangeNoSign(t *testing.T) {
	moved := 0
	for i, f := range samples(5) {
		if i%3 > 0 { // a third of them is enough
			continue
		}
		v, _ := sign(f)
		for _, k := range []int{-900, -140, -1, 1, 140, 900} {
			g, ok := scaled(f, k)
			if !ok || !good(g) {
				continue
			}
			moved++
			if w, e := sign(g); w.Sign != v.Sign || e != api.OK {
				t.Fatalf("P1108: Sign(%x): %v, times 2^%d %v", f, v, k, w)
			}
		}
	}
	if moved < 5000 {
		t.Errorf("P1108: %d of them: too few to tell", moved)
	}
}
