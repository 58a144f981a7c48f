package tie

import (
	"cmp"
	"math/bits"
	"slices"
	"testing"

	"plumb/api"
	"plumb/circle"
)

func TestSignsAndStages(t *testing.T) {
	seen := map[api.Verdict]int{}
	for _, f := range samples(1) {
		v, e := side(f)
		plain := inCircle(f, none())
		want, _ := circle.Sign(f[0], f[1], f[2], f[3])
		if plain == 0 {
			want = api.Verdict{Sign: wanted(f), Stage: api.StageTie}
		}
		if v != want || e != api.OK {
			t.Fatalf("P1401, P1402: Side(%x): %v, error %d; want %v", f, v, e, want)
		}
		if s := wanted(f); v.Sign != s { // the rule's raises never turn a sign that is not 0
			t.Fatalf("P1401, P1402: Side(%x): %v; the raised lifts' sign is %d", f, v, s)
		}
		seen[v]++
	}
	for stage := api.StageFilter; stage <= api.StageTie; stage++ {
		for sign := -1; sign <= 1; sign++ {
			never := sign == 0 && stage != api.StageTie
			if n := seen[api.Verdict{Sign: sign, Stage: stage}]; (n < 10) != never {
				t.Errorf("P1401: sign %d by stage %d was told %d times: too few to tell, or too many", sign, stage, n)
			}
		}
	}
}

func TestWhereItIsNought(t *testing.T) {
	noughts := 0
	for _, f := range samples(2) {
		v, e := side(f)
		must := onOneLine(f) || onePlace(f)
		if (v.Sign == 0) != must || e != api.OK {
			t.Fatalf("P1403: Side(%x): %v, error %d", f, v, e)
		}
		if must {
			noughts++
			if v.Stage != api.StageTie {
				t.Fatalf("P1401: Side(%x): %v", f, v)
			}
		}
		if left := turnOf(f[0], f[1], f[2]) == 1; left && !onePlace(f) && v.Sign == 0 {
			t.Fatalf("P1404: Side(%x): %v", f, v)
		}
	}
	if noughts < 500 {
		t.Errorf("P1403: %d of them: too few to tell", noughts)
	}
}

func TestExchanges(t *testing.T) {
	for i, f := range samples(3) {
		first, _ := side(f)
		for k, o := range orders() {
			if (i+k)%3 > 0 { // a third of them is enough
				continue
			}
			v, e := side(o.of(f))
			if v.Sign != o.sign*first.Sign || (v.Stage == api.StageTie) != (first.Stage == api.StageTie) || e != api.OK {
				t.Fatalf("P1403: Side(%x): %v, in order %v %v", f, first, o.at, v)
			}
		}
	}
}

// grid is a point on small whole numbers.
type grid [2]int

func (p grid) point() api.Point { return at(float64(p[0]), float64(p[1])) }

// twiceArea is twice the area of a triangle, above 0 where its corners turn left.
func twiceArea(a, b, c grid) int {
	return (a[0]-c[0])*(b[1]-c[1]) - (a[1]-c[1])*(b[0]-c[0])
}

// rim are the 16 points on whole numbers on one circle, the least one first.
func rim() []grid {
	var l []grid
	for x := -8; x <= 8; x++ {
		for y := -8; y <= 8; y++ {
			if x*x+y*y == 65 {
				l = append(l, grid{x, y})
			}
		}
	}
	return l
}

func TestOnOneCircleInEveryOrder(t *testing.T) {
	all := orders()
	l := rim()
	for n := range 1 << 16 {
		if bits.OnesCount(uint(n)) != 4 {
			continue
		}
		var p []grid
		for i := range 16 {
			if n>>i&1 > 0 {
				p = append(p, l[i])
			}
		}
		first := cmp.Compare(twiceArea(p[1], p[2], p[3]), 0) // p[0] is the least one
		f := four{p[0].point(), p[1].point(), p[2].point(), p[3].point()}
		for _, o := range all {
			if v, e := side(o.of(f)); v != (api.Verdict{Sign: o.sign * first, Stage: api.StageTie}) || e != api.OK {
				t.Fatalf("P1402: Side of %v in order %v: %v, error %d", p, o.at, v, e)
			}
		}
	}
}

// empty are the triangles, counterclockwise, the least corner first, on whose circle's outer side all others are.
func empty(t *testing.T, l []grid) [][3]grid {
	var out [][3]grid
	for i, a := range l {
		for _, b := range l[i+1:] {
			for _, c := range l[i+1:] {
				if twiceArea(a, b, c) > 0 && alone(t, l, a, b, c) {
					out = append(out, [3]grid{a, b, c})
				}
			}
		}
	}
	return out
}

func alone(t *testing.T, l []grid, a, b, c grid) bool {
	for _, d := range l {
		if d == a || d == b || d == c {
			continue
		}
		switch v, e := Side(a.point(), b.point(), c.point(), d.point()); {
		case v.Sign == 0 || e != api.OK:
			t.Fatalf("P1404: Side(%v %v %v %v): %v, error %d", a, b, c, d, v, e)
		case v.Sign == 1:
			return false
		}
	}
	return true
}

// One raise for all is the rule for each four of them, so that what it leaves fits together.
func TestTiesFitTogether(t *testing.T) {
	const area = 4 * (25 + 33 + 25 + 16) // twice that of all 16 corners, quarter by quarter
	around := append(rim(), grid{0, 0})
	slices.SortFunc(around, func(p, q grid) int { return slices.Compare(p[:], q[:]) })
	for _, x := range []struct {
		l    []grid
		many int
	}{{rim(), 14}, {around, 16}} {
		got := empty(t, x.l)
		sum := 0
		for _, r := range got {
			sum += twiceArea(r[0], r[1], r[2])
		}
		if len(got) != x.many || sum != area {
			t.Errorf("P1402: of %d points: %d triangles, twice their area %d; want %d, %d", len(x.l), len(got), sum, x.many, area)
		}
	}
}

// Of each square the least corner is cut off.
func TestSquares(t *testing.T) {
	var l []grid
	want := map[[3]grid]int{}
	for x := -2; x <= 2; x++ {
		for y := -2; y <= 2; y++ {
			l = append(l, grid{x, y})
			if x < 2 && y < 2 {
				want[[3]grid{{x, y}, {x + 1, y}, {x, y + 1}}]++
				want[[3]grid{{x, y + 1}, {x + 1, y}, {x + 1, y + 1}}]++
			}
		}
	}
	got := empty(t, l)
	for _, r := range got {
		if want[r] != 1 {
			t.Errorf("P1402: %v is none of the triangles", r)
		}
	}
	if len(got) != len(want) {
		t.Errorf("P1402: %d triangles; want %d", len(got), len(want))
	}
}
