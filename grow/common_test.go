package grow

import (
	"math"
	"math/rand/v2"
	"slices"
	"testing"

	"plumb/api"
	"plumb/mesh"
)

const (
	minus0 = math.MinInt
	top    = math.MaxFloat64
	tiny   = 0x1p-1074
)

func of(f float64) int           { return int(math.Float64bits(f)) }
func value(b int) float64        { return math.Float64frombits(uint64(b)) }
func at(x, y float64) api.Point  { return api.Point{X: of(x), Y: of(y)} }
func seeded(n uint64) *rand.Rand { return rand.New(rand.NewPCG(n, 20)) }

// some is one item of a list.
func some[T any](r *rand.Rand, l []T) T { return l[r.IntN(len(l))] }

// strange are points that are none.
func strange() []api.Point {
	var l []api.Point
	for _, b := range []int{api.Inf, api.Inf | minus0, api.NaN, api.NaN | minus0, api.Inf + 1, -1, math.MaxInt} {
		l = append(l, api.Point{X: b}, api.Point{Y: b}, api.Point{X: b, Y: b})
	}
	return l
}

// opened is the mesh of data that must be one.
func opened(t testing.TB, m api.Mesh) *mesh.Mesh {
	t.Helper()
	o, place, e := mesh.Open(m)
	if o == nil || place != 0 || e != api.OK {
		t.Fatalf("Open(%v): %v, %d, error %d", m, o != nil, place, e)
	}
	return o
}

// inserted holds Insert to an answer.
func inserted(t testing.TB, m *mesh.Mesh, p api.Point, want int, wantError api.Errno) {
	t.Helper()
	if id, e := Insert(m, p); id != want || e != wantError {
		t.Errorf("P2001: Insert(%v, %v): %d, error %d; want %d, %d", value(p.X), value(p.Y), id, e, want, wantError)
	}
}

// removed holds Remove to an answer.
func removed(t testing.TB, m *mesh.Mesh, id int, want api.Errno) {
	t.Helper()
	if e := Remove(m, id); e != want {
		t.Errorf("P2002: Remove(%d): error %d; want %d", id, e, want)
	}
}

// stands holds a mesh to its data, and to what a mesh that was just opened tells of them.
func stands(t testing.TB, what string, m *mesh.Mesh, want api.Mesh) {
	t.Helper()
	if got := m.Tell(); !alike(got, want) {
		t.Fatalf("%s: %v; want %v", what, got, want)
	}
	fresh := opened(t, want)
	if !slices.Equal(m.Edges(), fresh.Edges()) || !slices.Equal(m.Border(), fresh.Border()) {
		t.Fatalf("%s: edges %v, border %v; of %v", what, m.Edges(), m.Border(), want)
	}
	for id := range len(want.Points) + 2 {
		star, e := m.Star(id - 1)
		freshStar, freshError := fresh.Star(id - 1)
		if !slices.Equal(star, freshStar) || e != freshError {
			t.Fatalf("%s: about %d are %v, error %d; of %v", what, id-1, star, e, want)
		}
	}
}

// alike tells whether data are the same; nil is an empty list.
func alike(a, b api.Mesh) bool {
	return slices.Equal(a.Points, b.Points) && slices.Equal(a.Gone, b.Gone) && slices.Equal(a.Fixed, b.Fixed) && slices.Equal(a.Tris, b.Tris)
}

func edgeOrder(a, b api.Edge) int { return slices.Compare(a[:], b[:]) }
func triOrder(a, b api.Tri) int   { return slices.Compare(a[:], b[:]) }

// told is a triangle with its least number first.
func told(a, b, c int) api.Tri {
	for min(b, c) < a {
		a, b, c = b, c, a
	}
	return api.Tri{a, b, c}
}

func pair(a, b int) api.Edge { return api.Edge{min(a, b), max(a, b)} }

func squareMesh() api.Mesh {
	return api.Mesh{Points: []api.Point{at(0, 0), at(2, 0), at(2, 2), at(0, 2)}, Tris: []api.Tri{{0, 1, 3}, {1, 2, 3}}}
}
