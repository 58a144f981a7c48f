package measure

import (
	"math"
	"testing"

	"plumb/api"
)

func TestBetweenByHand(t *testing.T) {
	up := func(f float64) float64 { return math.Nextafter(f, math.Inf(1)) }
	down := func(f float64) float64 { return math.Nextafter(f, math.Inf(-1)) }
	o, end := at(0, 0), at(2, 2)
	tilted, steep := at(3, 1), at(0x1p-1074, 0x1p1023)
	for i, x := range []struct {
		a, b, c api.Point
		want    bool
	}{
		{o, end, end, true}, {o, at(minusZero(), 0), end, true}, // at its ends
		{o, at(up(0), up(0)), end, true}, {o, at(down(2), down(2)), end, true}, // next to these, within
		{o, at(down(0), down(0)), end, false}, {o, at(up(2), up(2)), end, false}, // and beyond
		{o, at(up(0), 0), end, false}, {o, at(2, down(2)), end, false}, {o, at(2, up(2)), end, false}, // and beside
		{o, at(1, 1), end, true}, {o, at(1, up(1)), end, false}, {o, at(down(1), 1), end, false}, // about its middle
		{o, at(-1, -1), end, false}, {o, at(3, 3), end, false}, {o, at(1, -1), end, false},
		{o, o, o, true}, {end, end, end, true}, {o, at(minusZero(), minusZero()), o, true}, // ends of one place
		{end, at(up(2), 2), end, false}, {end, at(2, down(2)), end, false}, {end, o, end, false}, {o, tilted, o, false},
		{at(1, 0), at(1, 5), at(1, 9), true}, {at(1, 0), at(1, 0), at(1, 9), true}, {at(1, 0), at(1, 9), at(1, 9), true}, // upright
		{at(1, 0), at(1, up(9)), at(1, 9), false}, {at(1, 0), at(1, down(0)), at(1, 9), false}, {at(1, 0), at(up(1), 5), at(1, 9), false},
		{at(0, 1), at(0.1, 1), at(9, 1), true}, {at(0, 1), at(down(0), 1), at(9, 1), false}, {at(0, 1), at(up(9), 1), at(9, 1), false}, // level
		{at(0, 1), at(0.1, up(1)), at(9, 1), false}, {at(0, 1), at(9, 1), at(9, 1), true},
		{o, at(0.3, 0.1), tilted, false}, {o, at(0.75, 0.25), tilted, true}, // the float 0.3 is not three times the float 0.1
		{o, at(0x1p-1074, 0), steep, false}, {o, at(0, 0x1p1000), steep, false}, {o, steep, steep, true},
		{at(-top, -top), o, at(top, top), true}, {at(-top, -top), at(0x1p-1074, 0), at(top, top), false}, {at(-top, -top), at(top, top), o, false},
		{at(-1, 1), o, at(1, -1), true}, {at(-1, 1), at(1, -1), o, false}, // falling
	} {
		for _, turned := range []bool{false, true} {
			a, c := x.a, x.c
			if turned {
				a, c = c, a
			}
			if got, e := Between(a, x.b, c); got != x.want || e != api.OK {
				t.Errorf("P1304: row %d, turned %v: %v, error %d", i, turned, got, e)
			}
		}
	}
}

// onSegment is a place on a segment, at an end of it, beyond or beside it, but for rounding.
func onSegment(r *rng, a, c api.Point) api.Point {
	k := []float64{0.5, 0.25, 0, 1, -0.5, 2, r.Float64(), 4*r.Float64() - 2}[r.IntN(8)]
	part := func(p, q int) float64 { return value(p) + float64(k*(value(q)-value(p))) }
	return at(part(a.X, c.X), part(a.Y, c.Y))
}

// segments are threes about segments: b rounded from a place on it, and moved by a few steps, along an axis or off it.
func segments(seed uint64) []points {
	r := seeded(seed)
	var l []points
	put := func(p points) {
		if p.finite() {
			l = append(l, p)
		}
	}
	for _, e := range ranges() {
		for i := range 400 {
			p := drawn(r, 2, e[0], e[i%2])
			switch r.IntN(6) {
			case 0:
				p[1].X = p[0].X
			case 1:
				p[1].Y = p[0].Y
			case 2:
				p[1] = p[0]
			case 3:
				p[1] = at(2*value(p[0].X), 2*value(p[0].Y)) // so that there are places just on it
			}
			b := onSegment(r, p[0], p[1])
			put(points{p[0], b, p[1]})
			near := points{b}.moved(r, 1)[0]
			put(points{p[0], near, p[1]})
			put(points{p[0], {X: b.X, Y: near.Y}, p[1]})
		}
	}
	one := func() float64 { return edges()[r.IntN(len(edges()))] }
	for range 3000 {
		put(gridded(3, one))
		put(gridded(3, func() float64 { return float64(r.IntN(7)) }))
		put(gridded(3, func() float64 { return 0.1 * float64(r.IntN(7)) }))
	}
	return l
}

func TestBetween(t *testing.T) {
	var seen [2]int
	for _, l := range append(segments(1), samples(1, angleAsked())...) {
		a, b, c := l[0], l[1], l[2]
		want := liesBetween(a, b, c)
		got, e := Between(a, b, c)
		if got != want || e != api.OK {
			t.Fatalf("P1304: Between(%x): %v, error %d; want %v", l, got, e, want)
		}
		if back, e := Between(c, b, a); back != want || e != api.OK {
			t.Fatalf("P1304: Between(%x): %v, with its ends exchanged %v", l, got, back)
		}
		if want {
			seen[1]++
		} else {
			seen[0]++
		}
		for i, end := range []api.Point{a, c} {
			if at, e := Between(a, end, c); !at || e != api.OK {
				t.Fatalf("P1304: Between(%x), the end %d: %v, error %d", l, i, at, e)
			}
		}
	}
	if seen[0] < 2000 || seen[1] < 2000 {
		t.Errorf("P1304: %v of them: too few to tell", seen)
	}
}
