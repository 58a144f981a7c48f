package solid

import (
	"cmp"
	"slices"
	"testing"

	"plumb/api"
)

func same(x, y api.Num) bool {
	return x.Neg == y.Neg && x.Exp == y.Exp && slices.Equal(x.Mag, y.Mag)
}

func TestExact(t *testing.T) {
	for _, a := range both() {
		for _, l := range samples(1, a) {
			want := num(a.exactly(l), a.unit)
			if n, e := a.exact(l); !same(n, want) || e != api.OK {
				t.Fatalf("%s: %sExact(%x): %v, error %d; want %v", a.promise[0], a.name, l, n, e, want)
			}
		}
	}
}

func TestSignsAndStages(t *testing.T) {
	for _, a := range both() {
		seen := map[api.Verdict]int{}
		for _, l := range samples(2, a) {
			want := a.wanted(l)
			v, e := a.sign(l)
			if v != want || e != api.OK {
				t.Fatalf("%s, P1205: %s(%x): %v, error %d; want %v", a.promise[1], a.name, l, v, e, want)
			}
			if s := a.exactly(l).Sign(); v.Sign != s {
				t.Fatalf("P1206: %s(%x): %v; the exact sign is %d", a.name, l, v, s)
			}
			seen[v]++
		}
		for _, stage := range []int{api.StageFilter, api.StageExpansion, api.StageDyadic} {
			for sign := -1; sign <= 1; sign++ {
				never := sign == 0 && stage == api.StageFilter // a value that is greater than a bound is not 0
				if n := seen[api.Verdict{Sign: sign, Stage: stage}]; (n < 20) != never {
					t.Errorf("%s: sign %d of stage %d was told %d times: too few to tell", a.name, sign, stage, n)
				}
			}
		}
	}
}

// spot is a place on small whole numbers.
type spot [3]int

func (s spot) space() api.Space { return at(float64(s[0]), float64(s[1]), float64(s[2])) }

func (s spot) less(t spot) spot { return spot{s[0] - t[0], s[1] - t[1], s[2] - t[2]} }

func (s spot) square() int { return s[0]*s[0] + s[1]*s[1] + s[2]*s[2] }

// around are the spots within a cube around 0.
func around(reach int) []spot {
	var l []spot
	for x := -reach; x <= reach; x++ {
		for y := -reach; y <= reach; y++ {
			for z := -reach; z <= reach; z++ {
				l = append(l, spot{x, y, z})
			}
		}
	}
	return l
}

// hand tells on which side of the plane through a, b, c the spot d lies, by the plane's upright: 1, if on the side from which they turn right.
func hand(a, b, c, d spot) int {
	p, q, r := b.less(a), c.less(a), d.less(a)
	up := spot{p[1]*q[2] - p[2]*q[1], p[2]*q[0] - p[0]*q[2], p[0]*q[1] - p[1]*q[0]}
	return cmp.Compare(0, up[0]*r[0]+up[1]*r[1]+up[2]*r[2])
}

func TestBelowAPlane(t *testing.T) {
	for height := -3; height <= 3; height++ {
		d := spot{5, -2, height}
		if v, e := Side(spot{0, 0, 0}.space(), spot{7, 1, 0}.space(), spot{2, 4, 0}.space(), d.space()); v.Sign != cmp.Compare(0, height) || e != api.OK {
			t.Errorf("P1201: Side, at height %d: %v, error %d", height, v, e)
		}
	}
	r := seeded(9)
	all := around(3)
	one := func() spot { return all[r.IntN(len(all))] }
	for range 20000 {
		a, b, c, d := one(), one(), one(), one()
		if v, e := Side(a.space(), b.space(), c.space(), d.space()); v.Sign != hand(a, b, c, d) || e != api.OK {
			t.Fatalf("P1201: Side(%v %v %v %v): %v, error %d; want %d", a, b, c, d, v, e, hand(a, b, c, d))
		}
	}
}

func TestWithinASphere(t *testing.T) {
	const square = 41 // there are 96 spots at this distance from 0
	all := around(7)
	rim := slices.DeleteFunc(slices.Clone(all), func(s spot) bool { return s.square() != square })
	r := seeded(10)
	seen := map[int]int{}
	for range 20000 {
		on := func() spot { return rim[r.IntN(len(rim))] }
		a, b, c, d, e := on(), on(), on(), on(), all[r.IntN(len(all))]
		if r.IntN(4) == 0 {
			e = on()
		}
		want := hand(a, b, c, d) * cmp.Compare(square, e.square())
		seen[want]++
		if v, errno := Sphere(a.space(), b.space(), c.space(), d.space(), e.space()); v.Sign != want || errno != api.OK {
			t.Fatalf("P1202: Sphere(%v %v %v %v %v): %v, error %d; want %d", a, b, c, d, e, v, errno, want)
		}
	}
	if min(seen[-1], seen[0], seen[1]) < 1000 {
		t.Errorf("P1202: signs %v: too few to tell", seen)
	}
}

func TestNoughtsAreAlike(t *testing.T) {
	for _, a := range both() {
		for _, l := range samples(3, a) {
			c := l.flat()
			for i, b := range c {
				if value(b) == 0 {
					c[i] ^= minus0
				}
			}
			v, e := a.sign(l)
			w, other := a.sign(fromFlat(c))
			if v != w || e != other {
				t.Fatalf("P1206: %s(%x): %v, with noughts of other signs %v", a.name, l, v, w)
			}
			n, _ := a.exact(l)
			if m, _ := a.exact(fromFlat(c)); !same(n, m) {
				t.Fatalf("%s: %sExact(%x): %v, with noughts of other signs %v", a.promise[0], a.name, l, n, m)
			}
		}
	}
}

func TestTameEdges(t *testing.T) {
	for _, a := range both() {
		for i := range 3 * a.count {
			for _, f := range edges() {
				c := drawn(seeded(uint64(i)), a.count, -2, 2).flat()
				c[i] = of(f)
				v, e := a.sign(fromFlat(c))
				if (v.Stage == api.StageDyadic) == isTame(of(f)) || e != api.OK {
					t.Errorf("%s, P1205: %s with %x at %d: %v, error %d", a.promise[1], a.name, f, i, v, e)
				}
			}
		}
	}
}

func TestExchanges(t *testing.T) {
	for _, a := range both() {
		all := orders(a.count)
		for i, l := range samples(4, a) {
			first, _ := a.sign(l)
			for k := i % 23; k < len(all); k += 23 { // some of them are enough
				if v, e := a.sign(all[k].of(l)); v.Sign != all[k].sign*first.Sign || e != api.OK {
					t.Fatalf("P1206: %s(%x): %v, in order %v %v", a.name, l, first, all[k].at, v)
				}
			}
			m := slices.Clone(l)
			m[i%a.count] = m[(i+1+i/a.count%(a.count-1))%a.count]
			if v, e := a.sign(m); v.Sign != 0 || v.Stage == api.StageFilter || e != api.OK {
				t.Fatalf("P1206: %s(%x), two of one place: %v", a.name, m, v)
			}
		}
	}
}

func TestPowersOfTwoChangeNoSign(t *testing.T) {
	for _, a := range both() {
		moved := 0
		for _, l := range samples(5, a) {
			v, _ := a.sign(l)
			for _, k := range []int{-900, -140, 1, 140, 900} {
				m, ok := l.scaled(k)
				if !ok || !m.finite() {
					continue
				}
				moved++
				if w, e := a.sign(m); w.Sign != v.Sign || e != api.OK {
					t.Fatalf("P1206: %s(%x): %v, times 2^%d %v", a.name, l, v, k, w)
				}
			}
		}
		if moved < 5000 {
			t.Errorf("P1206: %s: %d of them: too few to tell", a.name, moved)
		}
	}
}
