package sites

import (
	"math"
	"slices"
	"testing"

	"plumb/api"
)

func TestExamples(t *testing.T) {
	minus := math.Copysign(0, -1)
	s := New()
	add := func(p api.Point, want int, wantError api.Errno) {
		t.Helper()
		if id, e := s.Add(p); id != want || e != wantError {
			t.Errorf("P1502: Add(%#x): %d, error %d; want %d, %d", p, id, e, want, wantError)
		}
	}
	add(at(0, 0), 0, api.OK)
	add(at(1, 0), 1, api.OK)
	add(at(minus, 0), 0, api.ErrSame)
	add(api.Point{X: api.NaN}, 0, api.ErrFinite)
	if first, second := s.Drop(0), s.Drop(0); first != api.OK || second != api.ErrSite {
		t.Errorf("P1504: Drop(0): error %d, then %d", first, second)
	}
	if p, e := s.At(0); p != (api.Point{}) || e != api.ErrSite {
		t.Errorf("P1505: At(0): %#x, error %d", p, e)
	}
	if id, ok := s.Find(at(0, 0)); id != 0 || ok {
		t.Errorf("P1505: Find: %d, %v", id, ok)
	}
	add(at(0, 0), 2, api.OK)
	if s.Given() != 3 || s.Len() != 2 || !slices.Equal(s.Alive(), []int{1, 2}) || !slices.Equal(s.Gone(), []int{0}) {
		t.Errorf("P1505: %d given, %d alive: %v, gone %v", s.Given(), s.Len(), s.Alive(), s.Gone())
	}
	if !slices.Equal(s.Order(), []int{2, 1}) || !s.Line() {
		t.Errorf("P1506, P1507: %v, %v", s.Order(), s.Line())
	}
	if id, e := s.Near(at(0.5, 7)); id != 1 || e != api.OK {
		t.Errorf("P1508: Near: %d, error %d", id, e)
	}
	add(at(0.5, 1), 3, api.OK)
	if low, high, e := s.Box(); s.Line() || low != at(0, 0) || high != at(1, 1) || e != api.OK {
		t.Errorf("P1507, P1508: %v, %#x, %#x, error %d", s.Line(), low, high, e)
	}
	if s, i, e := From([]api.Point{at(0, 0), at(1, 1), at(0, minus)}); s != nil || i != 2 || e != api.ErrSame {
		t.Errorf("P1503: From: %v, %d, error %d", s, i, e)
	}
	if s, i, e := From32([]api.Point{{X: 0x3F800000, Y: 0x80000000}}); i != 0 || e != api.OK || !slices.Equal(s.Points(), []api.Point{at(1, 0)}) {
		t.Errorf("P1503: From32: %v, %d, error %d", s.Points(), i, e)
	}
	for p, want := range map[api.Point]api.Errno{{X: 0x7F800000}: api.ErrFinite, {X: 1 << 32}: api.ErrArg} {
		if s, i, e := From32([]api.Point{p}); s != nil || i != 0 || e != want {
			t.Errorf("P1503: From32(%#x): %v, %d, error %d", p, s, i, e)
		}
	}
}

func TestAPlaceThatWasLeft(t *testing.T) {
	s := set(t, at(3, 4), at(5, 6))
	for n := range 50 { // the same place again and again
		old := 0
		if n > 0 {
			old = n + 1
		}
		if e := s.Drop(old); e != api.OK {
			t.Fatalf("P1504: Drop(%d): error %d", old, e)
		}
		if id, e := s.Add(at(3, 4)); id != n+2 || e != api.OK {
			t.Fatalf("P1501: Add: %d, error %d; want %d", id, e, n+2)
		}
		if e := s.Drop(old); e != api.ErrSite { // the place is taken, by another one
			t.Fatalf("P1504: Drop(%d) once more: error %d", old, e)
		}
		if p, e := s.At(old); p != (api.Point{}) || e != api.ErrSite {
			t.Fatalf("P1505: At(%d): %#x, error %d", old, p, e)
		}
		if id, ok := s.Find(at(3, 4)); id != n+2 || !ok || s.Len() != 2 || s.Given() != n+3 {
			t.Fatalf("P1505: Find: %d, %v; %d alive of %d", id, ok, s.Len(), s.Given())
		}
	}
	if l := s.Points(); len(l) != 52 || l[1] != at(5, 6) || slices.ContainsFunc(slices.Delete(l, 1, 2), func(p api.Point) bool { return p != at(3, 4) }) {
		t.Errorf("P1505: Points: %#x", s.Points())
	}
	if l := s.Gone(); len(l) != 50 || l[0] != 0 || l[1] != 2 || l[49] != 50 || !slices.IsSorted(l) {
		t.Errorf("P1505: Gone: %v", l)
	}
}

func TestNoughtsAreOne(t *testing.T) {
	zeros := []int{0, minus0}
	var origins []api.Point
	for _, x := range zeros {
		for _, y := range zeros {
			origins = append(origins, api.Point{X: x, Y: y})
		}
	}
	for _, p := range origins {
		s := set(t, p, api.Point{X: p.X, Y: of(1)}, api.Point{X: of(1), Y: p.Y})
		if l := s.Points(); !slices.Equal(l, []api.Point{{}, {Y: of(1)}, {X: of(1)}}) {
			t.Errorf("P1501: Points: %#x", l)
		}
		for _, q := range origins {
			if id, e := s.Add(q); id != 0 || e != api.ErrSame {
				t.Errorf("P1502: Add(%#x) behind %#x: %d, error %d", q, p, id, e)
			}
			if id, e := s.Add(api.Point{X: q.X, Y: of(1)}); id != 1 || e != api.ErrSame {
				t.Errorf("P1502: Add({%#x, 1}): %d, error %d", q.X, id, e)
			}
			if id, ok := s.Find(api.Point{X: of(1), Y: q.Y}); id != 2 || !ok {
				t.Errorf("P1505: Find({1, %#x}): %d, %v", q.Y, id, ok)
			}
		}
		if at0, e := s.At(0); at0 != (api.Point{}) || e != api.OK {
			t.Errorf("P1501: At(0): %#x, error %d", at0, e)
		}
		if low, high, e := set(t, p).Box(); low != (api.Point{}) || high != (api.Point{}) || e != api.OK {
			t.Errorf("P1501, P1508: Box of %#x: %#x, %#x, error %d", p, low, high, e)
		}
		if s, _, e := From([]api.Point{p}); e != api.OK || s.Points()[0] != (api.Point{}) {
			t.Errorf("P1501, P1503: From(%#x): %v, error %d", p, s, e)
		}
	}
}

func TestWhatIsNotFinite(t *testing.T) {
	for _, s := range []*Set{New(), set(t, at(0, 0)), set(t, at(0, 0), at(1, 1), at(7, 3))} {
		before := tell(s)
		for _, b := range strange() {
			for _, p := range []api.Point{{X: b}, {Y: b}, {X: b, Y: b}, {X: b, Y: of(1)}, {X: minus0, Y: b}} {
				if id, e := s.Add(p); id != 0 || e != api.ErrFinite {
					t.Errorf("P1502: Add(%#x): %d, error %d", p, id, e)
				}
				if id, ok := s.Find(p); id != 0 || ok {
					t.Errorf("P1505: Find(%#x): %d, %v", p, id, ok)
				}
				if id, e := s.Near(p); id != 0 || e != api.ErrFinite { // ahead of ErrNone
					t.Errorf("P1508: Near(%#x): %d, error %d", p, id, e)
				}
			}
		}
		if after := tell(s); !alike(after, before) {
			t.Errorf("P1509: changed: %v, then %v", before, after)
		}
	}
}

func TestNumbersThatNoSiteHas(t *testing.T) {
	s := set(t, at(0, 0), at(1, 0), at(2, 0))
	s.Drop(1)
	before := tell(s)
	for _, id := range []int{1, 3, 4, -1, -2, api.MaxSites, 1 << 32, math.MaxInt, math.MinInt} {
		if e := s.Drop(id); e != api.ErrSite {
			t.Errorf("P1504: Drop(%d): error %d", id, e)
		}
		if p, e := s.At(id); p != (api.Point{}) || e != api.ErrSite {
			t.Errorf("P1505: At(%d): %#x, error %d", id, p, e)
		}
		if e := New().Drop(id); e != api.ErrSite {
			t.Errorf("P1504: Drop(%d) of no sites: error %d", id, e)
		}
	}
	if after := tell(s); !alike(after, before) {
		t.Errorf("P1509: changed: %v, then %v", before, after)
	}
}

func TestASetWithoutSites(t *testing.T) {
	left := set(t, at(1, 2), at(3, 4))
	left.Drop(1)
	left.Drop(0)
	empty, i, e := From(nil)
	empty32, k, f := From32([]api.Point{})
	if empty == nil || empty32 == nil || i != 0 || k != 0 || e != api.OK || f != api.OK {
		t.Fatalf("P1503: From of nothing: %v, %d, error %d; %v, %d, error %d", empty, i, e, empty32, k, f)
	}
	for n, s := range []*Set{New(), empty, empty32, left, {}, nil} {
		if s.Len() != 0 || len(s.Alive()) != 0 || len(s.Order()) != 0 || !s.Line() {
			t.Errorf("P1505 to P1507: set %d: %d alive: %v, %v, %v", n, s.Len(), s.Alive(), s.Order(), s.Line())
		}
		if s != left && (s.Given() != 0 || len(s.Points()) != 0 || len(s.Gone()) != 0) {
			t.Errorf("P1505: set %d: %d given: %v, gone %v", n, s.Given(), s.Points(), s.Gone())
		}
		if low, high, e := s.Box(); low != (api.Point{}) || high != (api.Point{}) || e != api.ErrNone {
			t.Errorf("P1508: set %d: Box: %#x, %#x, error %d", n, low, high, e)
		}
		if id, e := s.Near(at(1, 2)); id != 0 || e != api.ErrNone {
			t.Errorf("P1508: set %d: Near: %d, error %d", n, id, e)
		}
		if id, ok := s.Find(at(1, 2)); id != 0 || ok {
			t.Errorf("P1505: set %d: Find: %d, %v", n, id, ok)
		}
		if p, e := s.At(0); p != (api.Point{}) || e != api.ErrSite || s.Drop(0) != api.ErrSite {
			t.Errorf("P1504, P1505: set %d: At(0): %#x, error %d", n, p, e)
		}
	}
	if left.Given() != 2 || !slices.Equal(left.Gone(), []int{0, 1}) || !slices.Equal(left.Points(), []api.Point{at(1, 2), at(3, 4)}) {
		t.Errorf("P1505: of two that are gone: %d, %v, %#x", left.Given(), left.Gone(), left.Points())
	}
}

func TestASetThatNobodyMade(t *testing.T) {
	var zero Set
	if id, e := zero.Add(at(1, 2)); id != 0 || e != api.OK || !alike(tell(&zero), tell(set(t, at(1, 2)))) {
		t.Errorf("rule 1: Add to a zero set: %d, error %d", id, e)
	}
	var none *Set
	if id, e := none.Add(at(1, 2)); id != 0 || e != api.ErrArg {
		t.Errorf("rule 1: Add to nil: %d, error %d", id, e)
	}
	if id, e := none.Add(api.Point{X: api.NaN}); id != 0 || e != api.ErrFinite {
		t.Errorf("rules 1, 5: Add to nil: %d, error %d", id, e)
	}
}

func TestOneAndTwoSites(t *testing.T) {
	for _, p := range []api.Point{at(0, 0), at(-3, 7), at(tiny, -top), at(top, top)} {
		s := set(t, p)
		low, high, e := s.Box()
		id, f := s.Near(at(5, -6))
		if s.Len() != 1 || !s.Line() || !slices.Equal(s.Order(), []int{0}) || low != p || high != p || e != api.OK || id != 0 || f != api.OK {
			t.Errorf("P1505 to P1508: of %#x alone: %v, box %#x, %#x, near %d", p, s.Order(), low, high, id)
		}
		s.Add(at(5, -5))
		id, f = s.Near(at(5, -6))
		if s.Len() != 2 || !s.Line() || len(s.Order()) != 2 || id != 1 || f != api.OK {
			t.Errorf("P1505 to P1508: of %#x and another one: %v, near %d", p, s.Order(), id)
		}
	}
}
