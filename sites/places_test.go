package sites

import (
	"math"
	"slices"
	"testing"

	"plumb/api"
)

func TestOrder(t *testing.T) {
	sorted := []api.Point{
		at(-top, 1), at(-1, top), at(-tiny, -1), at(-tiny, 2), at(0, -top), at(0, -tiny), at(0, 0), at(0, tiny), at(0, 1),
		at(tiny, -3), at(1, -top), at(1, -1), at(1, 0), at(math.Nextafter(1, 2), -5), at(top, -top), at(top, top),
	}
	r := seeded(1)
	for range 200 {
		numbers := r.Perm(len(sorted))
		l := make([]api.Point, len(sorted))
		for k, id := range numbers {
			l[id] = sorted[k]
		}
		s := set(t, l...)
		if got := s.Order(); !slices.Equal(got, numbers) {
			t.Fatalf("P1506: Order: %v; want %v", got, numbers)
		}
		id := r.IntN(len(l))
		s.Drop(id)
		left := slices.DeleteFunc(numbers, func(n int) bool { return n == id })
		if got := s.Order(); !slices.Equal(got, left) {
			t.Fatalf("P1506: Order without %d: %v; want %v", id, got, left)
		}
	}
}

// lines are points of one line each, and one beside it.
func lines() map[api.Point][]api.Point {
	l := map[api.Point][]api.Point{}
	put := func(x, y, dx, dy float64, beside api.Point) {
		for i := range 12 {
			k := float64(i*5%12 - 4)
			l[beside] = append(l[beside], at(x+float64(k*dx), y+float64(k*dy)))
		}
	}
	put(0, 0, 1, 0, at(2, tiny))
	put(0, 0, 0, 1, at(-tiny, 7))
	put(0.5, 0.5, 1, 1, at(3.5, math.Nextafter(3.5, 4)))
	put(1, -2, -2, 3, at(0, 0))
	put(0, 0, 3*tiny, tiny, at(tiny, tiny))
	put(0, 0, 0x1p1018, -0x1p1019, at(tiny, 0))
	put(0, 0, 0x1p700, 0x1p-700, at(0x1p700, 0x1p-700+0x1p-752))
	return l
}

func TestLine(t *testing.T) {
	for beside, l := range lines() {
		for n := range len(l) + 1 {
			if !set(t, l[:n]...).Line() {
				t.Errorf("P1507: %d on a line: not on one", n)
			}
		}
		for place := range len(l) + 1 { // ahead of the two that are taken for the line, between them, behind them
			s := set(t, slices.Insert(slices.Clone(l), place, beside)...)
			if s.Line() {
				t.Errorf("P1507: %#x, number %d, beside a line: not seen", beside, place)
			}
			s.Drop(place)
			if !s.Line() {
				t.Errorf("P1507: %#x, number %d, gone: still seen", beside, place)
			}
			s.Add(beside)
			if s.Line() {
				t.Errorf("P1507: %#x, put in again: not seen", beside)
			}
		}
		three := set(t, l[0], beside, l[1])
		if three.Line() || three.Drop(0) != api.OK || !three.Line() {
			t.Errorf("P1507: %#x and two others: wrong", beside)
		}
	}
}

// nearest holds Near to exact distances.
func nearest(t *testing.T, s *Set, p api.Point) {
	t.Helper()
	want := -1
	for _, id := range s.Alive() {
		q, _ := s.At(id)
		if want >= 0 {
			best, _ := s.At(want)
			if far(p, q).Cmp(far(p, best)) >= 0 {
				continue
			}
		}
		want = id
	}
	if id, e := s.Near(p); id != want || e != api.OK {
		t.Errorf("P1508: Near(%#x): %d, error %d; want %d", p, id, e, want)
	}
}

func TestNearOfSeveral(t *testing.T) {
	r := seeded(2)
	for _, scale := range []float64{1, 0x1p-20, tiny, 0x1p990, 0x1p-540} {
		for _, move := range []float64{0, 16, 0x1p30} { // exact in each scale
			var ring []api.Point
			for _, c := range [][2]float64{{5, 0}, {3, 4}, {4, 3}, {0, 5}, {-3, 4}, {-4, 3}, {-5, 0}, {-4, -3}, {-3, -4}, {0, -5}, {3, -4}, {4, -3}} {
				ring = append(ring, at((c[0]+move)*scale, (c[1]-move)*scale))
			}
			middle := at(move*scale, -move*scale)
			r.Shuffle(len(ring), func(i, k int) { ring[i], ring[k] = ring[k], ring[i] })
			s := set(t, append([]api.Point{at((6+move)*scale, -move*scale)}, ring...)...)
			for range ring { // the least number of those that are left
				least := s.Alive()[1]
				if id, e := s.Near(middle); id != least || e != api.OK {
					t.Errorf("P1508: Near: %d, error %d; want %d", id, e, least)
				}
				nearest(t, s, at((move+1)*scale, (1-move)*scale))
				s.Drop(least)
			}
			if id, e := s.Near(middle); id != 0 || e != api.OK {
				t.Errorf("P1508: Near: %d, error %d; want 0", id, e)
			}
		}
	}
}

func TestNearByLittle(t *testing.T) {
	up := func(f float64) float64 { return math.Nextafter(f, math.Inf(1)) }
	for i, x := range []struct {
		p    api.Point
		l    []api.Point
		want int
	}{
		{at(0, 0), []api.Point{at(up(1), 0), at(0, 1)}, 1},
		{at(0, 0), []api.Point{at(1, 0x1p-200), at(1, -0x1p-201), at(-1, 0x1p-200)}, 1},
		{at(0, 0), []api.Point{at(top, tiny), at(top, 0), at(-top, 0)}, 1},
		{at(tiny, 0), []api.Point{at(-1, 0), at(1, 0)}, 1},
		{at(-tiny, 0), []api.Point{at(1, 0), at(-1, 0)}, 1},
		{at(0, tiny), []api.Point{at(0, 0), at(0, 2*tiny), at(0, 3*tiny)}, 0},
		{at(minus(), minus()), []api.Point{at(1, 1), at(0, 0)}, 1},
		{at(3, 4), []api.Point{at(0, 0), at(3, 4)}, 1},
		{at(top, top), []api.Point{at(-top, -top), at(-top, top), at(top, -top)}, 1},
	} {
		if id, e := set(t, x.l...).Near(x.p); id != x.want || e != api.OK {
			t.Errorf("P1508: row %d: Near: %d, error %d; want %d", i, id, e, x.want)
		}
	}
}

func minus() float64 { return math.Copysign(0, -1) }

func TestNearOfMany(t *testing.T) {
	r := seeded(3)
	for _, low := range []int{-3, -160, 1000, -1070} {
		draw := func() api.Point {
			f := func() float64 { return math.Ldexp(r.Float64()-0.5, low+r.IntN(3)) }
			return at(f(), f())
		}
		s := New()
		for range 60 {
			s.Add(draw())
		}
		for id := range 20 {
			s.Drop(3 * id)
		}
		for range 60 {
			nearest(t, s, draw())
		}
		for _, id := range s.Alive() { // each is the nearest to itself
			p, _ := s.At(id)
			if near, e := s.Near(p); near != id || e != api.OK {
				t.Errorf("P1508: Near(%#x): %d, error %d; want %d", p, near, e, id)
			}
		}
	}
}

func TestBox(t *testing.T) {
	for i, x := range []struct {
		l         []api.Point
		low, high api.Point
	}{
		{[]api.Point{at(0, 1), at(1, 0)}, at(0, 0), at(1, 1)}, // no corner is a site
		{[]api.Point{at(1, 0), at(0, 1)}, at(0, 0), at(1, 1)},
		{[]api.Point{at(-3, 2), at(5, -7), at(0, 0)}, at(-3, -7), at(5, 2)},
		{[]api.Point{at(0, 0), at(5, -7), at(-3, 2), at(1, 1)}, at(-3, -7), at(5, 2)},
		{[]api.Point{at(-1, -1), at(-2, -3)}, at(-2, -3), at(-1, -1)}, // below 0 the greater bits are the lesser number
		{[]api.Point{at(-2, -1), at(-1, -3), at(-1.5, -2)}, at(-2, -3), at(-1, -1)},
		{[]api.Point{at(top, -tiny), at(-top, tiny)}, at(-top, -tiny), at(top, tiny)},
		{[]api.Point{at(minus(), 1), at(1, minus()), at(1, 1)}, at(0, 0), at(1, 1)},
		{[]api.Point{at(-tiny, minus()), at(tiny, 0), at(0, 0)}, at(-tiny, 0), at(tiny, 0)},
		{[]api.Point{at(4, 4)}, at(4, 4), at(4, 4)},
	} {
		s := set(t, x.l...)
		if low, high, e := s.Box(); low != x.low || high != x.high || e != api.OK {
			t.Errorf("P1508: row %d: Box: %#x, %#x, error %d", i, low, high, e)
		}
		far := []api.Point{at(-0x1p1023, 0x1p1023), at(0x1p1023, -0x1p1023)}
		for _, p := range far { // what is gone counts no more
			if id, e := s.Add(p); e != api.OK || s.Drop(id) != api.OK {
				t.Fatalf("P1502, P1504: %#x: error %d", p, e)
			}
		}
		if low, high, e := s.Box(); low != x.low || high != x.high || e != api.OK {
			t.Errorf("P1508: row %d, two gone: Box: %#x, %#x, error %d", i, low, high, e)
		}
	}
}
