package hull

import (
	"math"
	"math/big"
	"math/rand/v2"
	"slices"
	"testing"

	"plumb/api"
	"plumb/sites"
)

const (
	minus0 = math.MinInt
	top    = math.MaxFloat64
	tiny   = 0x1p-1074
)

func of(f float64) int           { return int(math.Float64bits(f)) }
func at(x, y float64) api.Point  { return api.Point{X: of(x), Y: of(y)} }
func seeded(n uint64) *rand.Rand { return rand.New(rand.NewPCG(n, 16)) }

// strange are points that are none.
func strange() []api.Point {
	var l []api.Point
	for _, b := range []int{api.Inf, api.Inf | minus0, api.NaN, api.NaN | minus0, api.Inf + 1, -1, math.MaxInt} {
		l = append(l, api.Point{X: b}, api.Point{Y: b}, api.Point{X: b, Y: b})
	}
	return l
}

// units is the value of bits in units of 2^-1074, read from the bits: no float is looked at.
func units(b int) *big.Int {
	mag, exp := b&(1<<52-1), b>>52&0x7FF
	if exp > 0 {
		mag |= 1 << 52
		exp--
	}
	n := new(big.Int).Lsh(big.NewInt(int64(mag)), uint(exp))
	if b < 0 {
		n.Neg(n)
	}
	return n
}

// spot is a place by exact values, and the number of the site there.
type spot struct {
	x, y *big.Int
	id   int
}

func spotOf(p api.Point, id int) spot { return spot{units(p.X), units(p.Y), id} }

func times(p, q *big.Int) *big.Int { return new(big.Int).Mul(p, q) }
func less(p, q *big.Int) *big.Int  { return new(big.Int).Sub(p, q) }

func (p spot) same(q spot) bool { return p.x.Cmp(q.x) == 0 && p.y.Cmp(q.y) == 0 }

// before is the order of points.
func before(p, q spot) int {
	if c := p.x.Cmp(q.x); c != 0 {
		return c
	}
	return p.y.Cmp(q.y)
}

// bend is the orientation.
func bend(a, b, c spot) int {
	return times(less(a.x, c.x), less(b.y, c.y)).Cmp(times(less(a.y, c.y), less(b.x, c.x)))
}

// dot is above 0, where b and c lie on one side of a.
func dot(a, b, c spot) int {
	return new(big.Int).Add(times(less(b.x, a.x), less(c.x, a.x)), times(less(b.y, a.y), less(c.y, a.y))).Sign()
}

// square is the square of a distance.
func square(p, q spot) *big.Int {
	x, y := less(p.x, q.x), less(p.y, q.y)
	return new(big.Int).Add(times(x, x), times(y, y))
}

// spots are those of a set that are alive, by numbers.
func spots(s *sites.Set) []spot {
	var l []spot
	for _, id := range s.Alive() {
		p, _ := s.At(id)
		l = append(l, spotOf(p, id))
	}
	return l
}

// set is a set of points.
func set(t testing.TB, l ...api.Point) *sites.Set {
	t.Helper()
	s, i, e := sites.From(l)
	if e != api.OK {
		t.Fatalf("From(%#x): %d, error %d", l, i, e)
	}
	return s
}

// lists holds lists of numbers against each other; nil is an empty one.
func lists(t testing.TB, what string, got, want [][]int) {
	t.Helper()
	if !slices.EqualFunc(got, want, slices.Equal[[]int]) {
		t.Errorf("%s: %v; want %v", what, got, want)
	}
}

func list(t testing.TB, what string, got []int, want ...int) {
	t.Helper()
	lists(t, what, [][]int{got}, [][]int{want})
}

// sided holds Side to a sign.
func sided(t testing.TB, s *sites.Set, p api.Point, want int) {
	t.Helper()
	if v, e := Side(s, p); v != want || e != api.OK {
		t.Errorf("P1603: Side of %#x: %d, error %d; want %d", p, v, e, want)
	}
}

// touched holds Tangents to two corners, or to an error.
func touched(t testing.TB, s *sites.Set, p api.Point, right, left int, want api.Errno) {
	t.Helper()
	if r, l, e := Tangents(s, p); r != right || l != left || e != want {
		t.Errorf("P1604: Tangents of %#x: right %d, left %d, error %d; want %d, %d, %d", p, r, l, e, right, left, want)
	}
}

// apart holds Far to two sites, or to an error.
func apart(t testing.TB, s *sites.Set, first, second int, want api.Errno) {
	t.Helper()
	if a, b, e := Far(s); a != first || b != second || e != want {
		t.Errorf("P1605: Far: %d, %d, error %d; want %d, %d, %d", a, b, e, first, second, want)
	}
}
