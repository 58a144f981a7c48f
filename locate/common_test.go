package locate

import (
	"math"
	"math/big"
	"math/rand/v2"
	"slices"
	"testing"

	"plumb/api"
	"plumb/mesh"
)

const (
	minus0 = math.MinInt
	top    = math.MaxFloat64
	tiny   = 0x1p-1074
)

func of(f float64) int           { return int(math.Float64bits(f)) }
func value(b int) float64        { return math.Float64frombits(uint64(b)) }
func at(x, y float64) api.Point  { return api.Point{X: of(x), Y: of(y)} }
func seeded(n uint64) *rand.Rand { return rand.New(rand.NewPCG(n, 18)) }

// some is one item of a list.
func some[T any](r *rand.Rand, l []T) T { return l[r.IntN(len(l))] }

// strange are points that are none.
func strange() []api.Point {
	var l []api.Point
	for _, b := range []int{api.Inf, api.Inf | minus0, api.NaN, api.NaN | minus0, api.Inf + 1, -1, math.MaxInt} {
		l = append(l, api.Point{X: b}, api.Point{Y: b}, api.Point{X: b, Y: b})
	}
	return l
}

// units is the value of bits in units of 2^-1074, read from the bits: no float is looked at.
func units(b int) *big.Int {
	mag, exp := b&(1<<52-1), b>>52&0x7FF
	if exp > 0 {
		mag |= 1 << 52
		exp--
	}
	n := new(big.Int).Lsh(big.NewInt(int64(mag)), uint(exp))
	if b < 0 {
		n.Neg(n)
	}
	return n
}

func less(p, q int) *big.Int       { return new(big.Int).Sub(units(p), units(q)) }
func times(p, q *big.Int) *big.Int { return new(big.Int).Mul(p, q) }

// twice is twice the area of a triangle, above 0 where it turns left.
func twice(a, b, c api.Point) *big.Int {
	left, right := times(less(a.X, c.X), less(b.Y, c.Y)), times(less(a.Y, c.Y), less(b.X, c.X))
	return left.Sub(left, right)
}

func bend(a, b, c api.Point) int { return twice(a, b, c).Sign() }

// before is the order of points.
func before(p, q api.Point) int {
	if c := less(p.X, q.X).Sign(); c != 0 {
		return c
	}
	return less(p.Y, q.Y).Sign()
}

// within tells whether p lies on the segment from a to b, and not at an end.
func within(a, p, b api.Point) bool {
	return bend(a, p, b) == 0 && before(a, p)*before(p, b) > 0
}

// opened is the mesh of data that must be one.
func opened(t testing.TB, m api.Mesh) *mesh.Mesh {
	t.Helper()
	o, place, e := mesh.Open(m)
	if o == nil || place != 0 || e != api.OK {
		t.Fatalf("Open(%v): %v, %d, error %d", m, o != nil, place, e)
	}
	return o
}

func site(a int) api.Place           { return api.Place{Kind: api.AtSite, A: a} }
func edge(a, b int) api.Place        { return api.Place{Kind: api.OnEdge, A: a, B: b} }
func triangle(a, b, c int) api.Place { return api.Place{Kind: api.InTri, A: a, B: b, C: c} }

// inned holds In to an answer.
func inned(t testing.TB, m *mesh.Mesh, p api.Point, want api.Place, wantError api.Errno) {
	t.Helper()
	if got, e := In(m, p); got != want || e != wantError {
		t.Errorf("P1802: In(%v, %v): %v, error %d; want %v, %d", value(p.X), value(p.Y), got, e, want, wantError)
	}
}

// walked holds Walk to an answer.
func walked(t testing.TB, m *mesh.Mesh, from api.Tri, p api.Point, want api.Place, wantTris []api.Tri, wantError api.Errno) {
	t.Helper()
	if got, tris, e := Walk(m, from, p); got != want || !slices.Equal(tris, wantTris) || e != wantError {
		t.Errorf("P1803: Walk(%v, (%v, %v)): %v, %v, error %d; want %v, %v, %d", from, value(p.X), value(p.Y), got, tris, e, want, wantTris, wantError)
	}
}

// pierced holds Pierce to an answer.
func pierced(t testing.TB, m *mesh.Mesh, a, b int, want []api.Place, wantError api.Errno) {
	t.Helper()
	if got, e := Pierce(m, a, b); !slices.Equal(got, want) || e != wantError {
		t.Errorf("P1805: Pierce(%d, %d): %v, error %d; want %v, %d", a, b, got, e, want, wantError)
	}
}

func squareMesh() api.Mesh {
	return api.Mesh{Points: []api.Point{at(0, 0), at(2, 0), at(2, 2), at(0, 2)}, Tris: []api.Tri{{0, 1, 2}, {0, 2, 3}}}
}

// roundMesh is the chapter's mesh in which a walk comes round, multiplied by a factor.
func roundMesh(by float64) api.Mesh {
	var l []api.Point
	for _, p := range [][2]float64{{20, 0}, {-10, 17}, {-10, -17}, {8, -1}, {-3, 8}, {-5, -7}} {
		l = append(l, at(p[0]*by+0, p[1]*by+0))
	}
	return api.Mesh{Points: l, Tris: []api.Tri{{0, 1, 3}, {0, 3, 5}, {0, 5, 2}, {1, 2, 4}, {1, 4, 3}, {2, 5, 4}, {3, 4, 5}}}
}

// lineMesh are sites on one line, not in its order.
func lineMesh() api.Mesh {
	return api.Mesh{Points: []api.Point{at(4, 2), at(-2, -1), at(6, 3), at(0, 0), at(100, 50)}, Gone: []int{3}}
}
