package sites

import (
	"math"
	"math/big"
	"math/rand/v2"
	"reflect"
	"testing"

	"plumb/api"
)

const (
	minus0 = math.MinInt
	top    = math.MaxFloat64
	tiny   = 0x1p-1074
)

func of(f float64) int           { return int(math.Float64bits(f)) }
func at(x, y float64) api.Point  { return api.Point{X: of(x), Y: of(y)} }
func seeded(n uint64) *rand.Rand { return rand.New(rand.NewPCG(n, 15)) }

// strange are bits of no finite float.
func strange() []int {
	return []int{api.Inf, api.Inf | minus0, api.NaN, api.NaN | minus0, api.Inf + 1, -1, math.MaxInt}
}

// units is the value of bits in units of 2^-1074, read from the bits: no float is looked at.
func units(b int) *big.Int {
	mag, exp := b&(1<<52-1), b>>52&0x7FF
	if exp > 0 {
		mag |= 1 << 52
		exp--
	}
	n := new(big.Int).Lsh(big.NewInt(int64(mag)), uint(exp))
	if b < 0 {
		n.Neg(n)
	}
	return n
}

func less(p, q int) *big.Int       { return new(big.Int).Sub(units(p), units(q)) }
func times(p, q *big.Int) *big.Int { return new(big.Int).Mul(p, q) }

// before is the order of points, by exact values.
func before(p, q api.Point) int {
	if c := less(p.X, q.X).Sign(); c != 0 {
		return c
	}
	return less(p.Y, q.Y).Sign()
}

// turn is the exact orientation.
func turn(a, b, c api.Point) int {
	return times(less(a.X, c.X), less(b.Y, c.Y)).Cmp(times(less(a.Y, c.Y), less(b.X, c.X)))
}

// far is the exact square of a distance.
func far(p, q api.Point) *big.Int {
	x, y := less(p.X, q.X), less(p.Y, q.Y)
	return new(big.Int).Add(times(x, x), times(y, y))
}

// set is a set to which points were added.
func set(t *testing.T, l ...api.Point) *Set {
	t.Helper()
	s := New()
	for i, p := range l {
		if id, e := s.Add(p); id != i || e != api.OK {
			t.Fatalf("P1502: Add(%#x): %d, error %d; want %d", p, id, e, i)
		}
	}
	return s
}

// told is all that a set tells, but for Near.
type told struct {
	Len, Given                     int
	Alive, Gone, Order             []int
	Points                         []api.Point
	Line                           bool
	Low, High                      api.Point
	BoxError                       api.Errno
	At                             []api.Point // of all numbers that were given
	AtErrors                       []api.Errno
	Found                          []int // at the points of all numbers that were given
	IsFound                        []bool
	BelowError, AboveError, Second api.Errno // of numbers that no site has
}

// tell asks a set all of it.
func tell(s *Set) told {
	r := told{Len: s.Len(), Given: s.Given(), Line: s.Line()}
	r.Alive = append([]int{}, s.Alive()...)
	r.Gone = append([]int{}, s.Gone()...)
	r.Order = append([]int{}, s.Order()...)
	r.Points = append([]api.Point{}, s.Points()...)
	r.Low, r.High, r.BoxError = s.Box()
	r.At, r.AtErrors, r.Found, r.IsFound = []api.Point{}, []api.Errno{}, []int{}, []bool{}
	for id, p := range r.Points {
		q, e := s.At(id)
		r.At, r.AtErrors = append(r.At, q), append(r.AtErrors, e)
		n, ok := s.Find(p)
		r.Found, r.IsFound = append(r.Found, n), append(r.IsFound, ok)
	}
	_, r.BelowError = s.At(-1)
	_, r.AboveError = s.At(r.Given)
	_, r.Second = s.At(r.Given + 1)
	return r
}

// alike holds what two sets tell against each other.
func alike(x, y told) bool { return reflect.DeepEqual(x, y) }
