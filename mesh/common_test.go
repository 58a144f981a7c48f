package mesh

import (
	"math"
	"math/big"
	"math/rand/v2"
	"slices"
	"testing"

	"plumb/api"
)

const (
	minus0 = math.MinInt
	top    = math.MaxFloat64
	tiny   = 0x1p-1074
)

func of(f float64) int           { return int(math.Float64bits(f)) }
func at(x, y float64) api.Point  { return api.Point{X: of(x), Y: of(y)} }
func seeded(n uint64) *rand.Rand { return rand.New(rand.NewPCG(n, 17)) }

// strange are bits that no coordinate of a mesh has.
func strange() []int {
	return []int{api.Inf, api.Inf | minus0, api.NaN, api.NaN | minus0, api.Inf + 1, -1, math.MaxInt, minus0}
}

// units is the value of bits in units of 2^-1074, read from the bits: no float is looked at.
func units(b int) *big.Int {
	mag, exp := b&(1<<52-1), b>>52&0x7FF
	if exp > 0 {
		mag |= 1 << 52
		exp--
	}
	n := new(big.Int).Lsh(big.NewInt(int64(mag)), uint(exp))
	if b < 0 {
		n.Neg(n)
	}
	return n
}

func less(p, q int) *big.Int       { return new(big.Int).Sub(units(p), units(q)) }
func times(p, q *big.Int) *big.Int { return new(big.Int).Mul(p, q) }

// twice is twice the area of a triangle, above 0 where it turns left.
func twice(a, b, c api.Point) *big.Int {
	left, right := times(less(a.X, c.X), less(b.Y, c.Y)), times(less(a.Y, c.Y), less(b.X, c.X))
	return left.Sub(left, right)
}

func bend(a, b, c api.Point) int { return twice(a, b, c).Sign() }

// before is the order of points.
func before(p, q api.Point) int {
	if c := less(p.X, q.X).Sign(); c != 0 {
		return c
	}
	return less(p.Y, q.Y).Sign()
}

// within tells whether p lies on the segment from a to b, and not at an end.
func within(a, p, b api.Point) bool {
	return bend(a, p, b) == 0 && before(a, p)*before(p, b) > 0
}

// opened is the mesh of data that must be one.
func opened(t testing.TB, m api.Mesh) *Mesh {
	t.Helper()
	o, place, e := Open(m)
	if o == nil || place != 0 || e != api.OK {
		t.Fatalf("P1704: Open(%v): %v, %d, error %d", m, o != nil, place, e)
	}
	return o
}

// checked holds Check and Open to a place and an error.
func checked(t testing.TB, m api.Mesh, want int, wantError api.Errno) {
	t.Helper()
	if place, e := Check(m); place != want || e != wantError {
		t.Errorf("P1702: Check(%v): %d, error %d; want %d, %d", m, place, e, want, wantError)
	}
	if o, place, e := Open(m); (o != nil) != (wantError == api.OK) || place != want || e != wantError {
		t.Errorf("P1704: Open(%v): %v, %d, error %d; want %d, %d", m, o != nil, place, e, want, wantError)
	}
}

// list holds a list to what is wanted; nil is an empty one.
func list[T comparable](t testing.TB, what string, got, want []T) {
	t.Helper()
	if !slices.Equal(got, want) {
		t.Errorf("%s: %v; want %v", what, got, want)
	}
}

// alike holds data against each other.
func alike(t testing.TB, what string, got, want api.Mesh) {
	t.Helper()
	list(t, what+": Points", got.Points, want.Points)
	list(t, what+": Gone", got.Gone, want.Gone)
	list(t, what+": Fixed", got.Fixed, want.Fixed)
	list(t, what+": Tris", got.Tris, want.Tris)
}

func cloned(m api.Mesh) api.Mesh {
	return api.Mesh{Points: slices.Clone(m.Points), Gone: slices.Clone(m.Gone), Fixed: slices.Clone(m.Fixed), Tris: slices.Clone(m.Tris)}
}

// refused holds a call to an error.
func refused(t testing.TB, what string, e, want api.Errno) {
	t.Helper()
	if e != want {
		t.Errorf("%s: error %d; want %d", what, e, want)
	}
}

func square() []api.Point { return []api.Point{at(0, 0), at(2, 0), at(2, 2), at(0, 2)} }

func squareMesh() api.Mesh { return api.Mesh{Points: square(), Tris: []api.Tri{{0, 1, 2}, {0, 2, 3}}} }

// told is a triangle with its least number first.
func told(a, b, c int) api.Tri {
	switch min(a, b, c) {
	case b:
		return api.Tri{b, c, a}
	case c:
		return api.Tri{c, a, b}
	}
	return api.Tri{a, b, c}
}

// some is one item of a list.
func some[T any](r *rand.Rand, l []T) T { return l[r.IntN(len(l))] }
