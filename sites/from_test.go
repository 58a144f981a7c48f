package sites

import (
	"math"
	"math/big"
	"slices"
	"testing"

	"plumb/api"
)

func of32(f float32) int { return int(math.Float32bits(f)) }

func at32(x, y float32) api.Point { return api.Point{X: of32(x), Y: of32(y)} }

func TestFrom(t *testing.T) {
	for n := range 40 {
		var l []api.Point
		for i := range n {
			l = append(l, at(float64(i*7%41)*0.1, float64(i%3)))
		}
		s, i, e := From(l)
		if i != 0 || e != api.OK || !alike(tell(s), tell(set(t, l...))) {
			t.Errorf("P1503: From(%#x): %v, %d, error %d", l, s, i, e)
		}
	}
}

// refusedAt holds a call to refusing a list at a place.
func refusedAt(t *testing.T, call func([]api.Point) (*Set, int, api.Errno), l []api.Point, want int, wantError api.Errno) {
	t.Helper()
	if s, i, e := call(l); s != nil || i != want || e != wantError {
		t.Errorf("P1503: %d points: %v, %d, error %d; want %d, %d", len(l), s != nil, i, e, want, wantError)
	}
}

func TestFromRefuses(t *testing.T) {
	good := []api.Point{at(0, 0), at(1, 0), at(0, 1), at(2, 2), at(3, 5)}
	for place := range good {
		for _, b := range strange() {
			for _, p := range []api.Point{{X: b}, {Y: b}, {X: b, Y: b}} {
				l := slices.Clone(good)
				l[place] = p
				refusedAt(t, From, l, place, api.ErrFinite)
				l = append(l, p, at(1, 0), at(1, 0)) // what is refused later is not told
				refusedAt(t, From, l, place, api.ErrFinite)
			}
		}
		for earlier := range place {
			l := slices.Clone(good)
			l[place] = l[earlier]
			refusedAt(t, From, l, place, api.ErrSame)
			refusedAt(t, From, append(l, api.Point{X: api.NaN}), place, api.ErrSame)
		}
	}
}

func TestFrom32Refuses(t *testing.T) {
	good := []api.Point{at32(0, 0), at32(1, 0), at32(0, 1), at32(2, 2), at32(3, 5)}
	none := map[int]api.Errno{
		-1: api.ErrArg, 1 << 32: api.ErrArg, 1<<32 + 0x3F800000: api.ErrArg, math.MaxInt: api.ErrArg, math.MinInt: api.ErrArg, api.NaN: api.ErrArg, api.Inf: api.ErrArg, of(1): api.ErrArg,
		0x7F800000: api.ErrFinite, 0xFF800000: api.ErrFinite, api.NaN32: api.ErrFinite, 0x7F800001: api.ErrFinite, 1<<32 - 1: api.ErrFinite, 0x7FFFFFFF: api.ErrFinite,
	}
	for place := range good {
		for b, want := range none {
			for _, p := range []api.Point{{X: b}, {Y: b}, {X: 0x80000000, Y: b}, {X: b, Y: b}} {
				l := slices.Clone(good)
				l[place] = p
				refusedAt(t, From32, l, place, want)
				l = append(l, api.Point{X: -1}, api.Point{X: api.Inf32}, at32(1, 0), at32(1, 0))
				refusedAt(t, From32, l, place, want)
			}
			for other := range none { // x ahead of y
				l := slices.Clone(good)
				l[place] = api.Point{X: b, Y: other}
				refusedAt(t, From32, l, place, want)
			}
		}
		for earlier := range place {
			l := slices.Clone(good)
			l[place] = l[earlier]
			refusedAt(t, From32, append(l, api.Point{X: -1}), place, api.ErrSame)
			if l[place].X == 0 {
				l[place].X = 0x80000000 // -0
				refusedAt(t, From32, l, place, api.ErrSame)
			}
		}
	}
}

// units32 is the value of the bits of a binary32 in units of 2^-1074, read from the bits.
func units32(b int) *big.Int {
	mag, exp := b&(1<<23-1), b>>23&0xFF
	if exp > 0 {
		mag |= 1 << 23
		exp--
	}
	n := new(big.Int).Lsh(big.NewInt(int64(mag)), uint(exp+1074-149))
	if b>>31 > 0 {
		n.Neg(n)
	}
	return n
}

func TestFrom32Values(t *testing.T) {
	l := []int{0, 1 << 31, 1, 1<<31 | 1, 2, 1<<23 - 1, 1 << 23, 1<<23 + 1, of32(1), of32(-1), of32(0.1), 0x7F7FFFFF, 0xFF7FFFFF, 0x7F000000}
	r := seeded(32)
	for range 3000 {
		if b := r.IntN(1 << 32); b>>23&0xFF < 0xFF {
			l = append(l, b)
		}
	}
	for i, x := range l {
		y := l[(i*7+3)%len(l)]
		s, place, e := From32([]api.Point{{X: x, Y: y}})
		if place != 0 || e != api.OK || s.Len() != 1 {
			t.Fatalf("P1503: From32({%#x, %#x}): %d, error %d", x, y, place, e)
		}
		p, _ := s.At(0)
		if units(p.X).Cmp(units32(x)) != 0 || units(p.Y).Cmp(units32(y)) != 0 || p.X == minus0 || p.Y == minus0 {
			t.Fatalf("P1501, P1503: From32({%#x, %#x}): the point %#x", x, y, p)
		}
	}
	many := []api.Point{at32(0.5, 1), at32(-2, 0), at32(0.1, 3)}
	s, i, e := From32(many)
	if want := []api.Point{at(0.5, 1), at(-2, 0), at(float64(float32(0.1)), 3)}; i != 0 || e != api.OK || !alike(tell(s), tell(set(t, want...))) {
		t.Errorf("P1503: From32(%#x): %d, error %d", many, i, e)
	}
}

// full are as many points as a set takes, each with a place of its own; of bits they are subnormals of either width.
func full() []api.Point {
	l := make([]api.Point, api.MaxSites)
	for i := range l {
		l[i] = api.Point{X: i * 40503 % api.MaxSites, Y: i % 3}
	}
	return l
}

// refusesAll holds a set that has given all numbers to taking no other one.
func refusesAll(t *testing.T, s *Set) {
	t.Helper()
	free, taken := at(-1, -1), full()[4711]
	for range 2 {
		if id, e := s.Add(free); id != 0 || e != api.ErrMany {
			t.Errorf("P1502: one more: %d, error %d", id, e)
		}
		if id, e := s.Add(taken); id != 4711 || e != api.ErrSame { // ahead of ErrMany
			t.Errorf("P1502: one that is there: %d, error %d", id, e)
		}
		if id, e := s.Add(api.Point{Y: api.Inf}); id != 0 || e != api.ErrFinite {
			t.Errorf("P1502: none: %d, error %d", id, e)
		}
		if s.Given() != api.MaxSites || s.Len() != api.MaxSites {
			t.Errorf("P1509: %d alive of %d", s.Len(), s.Given())
		}
	}
	s.Drop(4711) // what is gone leaves no room
	s.Drop(0)
	for _, p := range []api.Point{free, taken} {
		if id, e := s.Add(p); id != 0 || e != api.ErrMany {
			t.Errorf("P1501, P1502: one more where one is gone: %d, error %d", id, e)
		}
	}
	if s.Given() != api.MaxSites || s.Len() != api.MaxSites-2 || !slices.Equal(s.Gone(), []int{0, 4711}) || len(s.Alive()) != s.Len() {
		t.Errorf("P1505: %d alive of %d, gone %v", s.Len(), s.Given(), s.Gone())
	}
}

func TestAllNumbers(t *testing.T) {
	l := full()
	s := set(t, l...)
	if !slices.Equal(s.Points(), l) {
		t.Error("P1505: Points of all numbers: not what was put in")
	}
	if o := s.Order(); len(o) != len(l) || !slices.IsSortedFunc(o, func(i, k int) int { return before(l[i], l[k]) }) {
		t.Error("P1506: Order of all numbers: not sorted")
	}
	refusesAll(t, s)
	s, i, e := From(l)
	if i != 0 || e != api.OK {
		t.Fatalf("P1503: From of %d: %d, error %d", len(l), i, e)
	}
	refusesAll(t, s)
	s, i, e = From32(l)
	if i != 0 || e != api.OK {
		t.Fatalf("P1503: From32 of %d: %d, error %d", len(l), i, e)
	}
	for id := range l {
		s.Drop(id)
	}
	if id, e := s.Add(at(1, 1)); s.Len() != 0 || id != 0 || e != api.ErrMany {
		t.Errorf("P1501: where all are gone: %d, error %d", id, e)
	}
}

func TestOnePointTooMany(t *testing.T) {
	free, free32 := at(1, 1), at32(1, 1)
	for _, x := range []struct {
		call func([]api.Point) (*Set, int, api.Errno)
		p    api.Point
		want api.Errno
	}{
		{From, free, api.ErrMany}, {From, full()[9], api.ErrSame}, {From, api.Point{X: api.NaN}, api.ErrFinite},
		{From32, free32, api.ErrMany}, {From32, full()[9], api.ErrSame}, {From32, api.Point{Y: api.Inf32}, api.ErrFinite}, {From32, api.Point{Y: -1}, api.ErrArg},
	} {
		refusedAt(t, x.call, append(full(), x.p), api.MaxSites, x.want)
		refusedAt(t, x.call, append(full(), x.p, free, free32, api.Point{X: -1}), api.MaxSites, x.want)
	}
}
