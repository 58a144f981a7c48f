package sites

import (
	"slices"
	"testing"

	"plumb/api"
)

// ofPoints holds Of to a set without fault.
func ofPoints(t *testing.T, points []api.Point, gone []int) *Set {
	t.Helper()
	s, i, e := Of(points, gone)
	if s == nil || i != 0 || e != api.OK {
		t.Fatalf("P1704: Of(%#x, %v): %v, %d, error %d", points, gone, s != nil, i, e)
	}
	return s
}

func TestOfWhatASetTells(t *testing.T) {
	r := seeded(170)
	for range 200 {
		s := New()
		for range r.IntN(30) {
			s.Add(at(float64(r.IntN(4)), float64(r.IntN(4))))
			s.Drop(r.IntN(30))
		}
		if again := ofPoints(t, s.Points(), s.Gone()); !alike(tell(again), tell(s)) {
			t.Errorf("P1704: %v, then %v", tell(s), tell(again))
		}
	}
}

func TestOfOnePlace(t *testing.T) {
	p, q := at(1, 1), at(2, 2)
	for _, gone := range [][]int{{1, 2}, {0, 2}, {0, 1}, {0, 1, 2}} {
		s := ofPoints(t, []api.Point{p, p, p, q}, gone)
		if !slices.Equal(s.Points(), []api.Point{p, p, p, q}) || !slices.Equal(s.Gone(), gone) || s.Len() != 4-len(gone) {
			t.Errorf("P1704: %#x, gone %v, %d alive", s.Points(), s.Gone(), s.Len())
		}
		want := slices.IndexFunc([]int{0, 1, 2}, func(id int) bool { return !slices.Contains(gone, id) })
		id, ok := s.Find(p)
		if ok != (want >= 0) || id != max(want, 0) {
			t.Errorf("P1704: Find: %d, %v; gone %v", id, ok, gone)
		}
		s.Drop(id)
		if id, e := s.Add(p); id != 4 || e != api.OK { // it goes on as it should
			t.Errorf("P1704: Add: %d, error %d; gone %v", id, e, gone)
		}
	}
	for _, x := range []struct {
		gone []int
		want int
	}{{nil, 2}, {[]int{0}, 3}, {[]int{2}, 3}, {[]int{0, 1}, 4}} {
		if s, i, e := Of([]api.Point{p, q, p, q, q}, x.gone); s != nil || i != x.want || e != api.ErrSame {
			t.Errorf("P1702: of several of one place, gone %v: %v, %d, error %d; want %d", x.gone, s != nil, i, e, x.want)
		}
	}
}

func TestOfKeepsNothing(t *testing.T) {
	points, gone := []api.Point{at(0, 0), at(1, 0), at(2, 5), at(9, 9)}, []int{1, 7}
	s := ofPoints(t, points[:3], gone[:1])
	if !slices.Equal(points, []api.Point{at(0, 0), at(1, 0), at(2, 5), at(9, 9)}) || !slices.Equal(gone, []int{1, 7}) {
		t.Errorf("P1709: what was handed in is changed: %#x, %v", points, gone)
	}
	was := tell(s)
	marked(points, at(7, 7))
	marked(gone, 0)
	if now := tell(s); !alike(now, was) {
		t.Errorf("P1709: what was handed in is kept: %v, then %v", was, now)
	}
}
