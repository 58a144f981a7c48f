package legal

import (
	"math"
	"math/rand/v2"
	"slices"
	"testing"

	"plumb/api"
	"plumb/mesh"
)

const (
	top  = math.MaxFloat64
	tiny = 0x1p-1074
)

func at(x, y float64) api.Point {
	return api.Point{X: int(math.Float64bits(x)), Y: int(math.Float64bits(y))}
}

func seeded(n uint64) *rand.Rand { return rand.New(rand.NewPCG(n, 19)) }

// some is one item of a list.
func some[T any](r *rand.Rand, l []T) T { return l[r.IntN(len(l))] }

// opened is the mesh of data that must be one.
func opened(t testing.TB, m api.Mesh) *mesh.Mesh {
	t.Helper()
	o, place, e := mesh.Open(m)
	if o == nil || place != 0 || e != api.OK {
		t.Fatalf("Open(%v): %v, %d, error %d", m, o != nil, place, e)
	}
	return o
}

// asked holds Legal to an answer, for both orders of the two.
func asked(t testing.TB, m *mesh.Mesh, a, b int, want bool, wantError api.Errno) {
	t.Helper()
	for _, x := range [2][2]int{{a, b}, {b, a}} {
		if got, e := Legal(m, x[0], x[1]); got != want || e != wantError {
			t.Errorf("P1901: Legal(%d, %d): %v, error %d; want %v, %d", x[0], x[1], got, e, want, wantError)
		}
	}
}

// listed holds Illegal to a list; nil is an empty one.
func listed(t testing.TB, m *mesh.Mesh, want ...api.Edge) {
	t.Helper()
	if got := Illegal(m); !slices.Equal(got, want) {
		t.Errorf("P1902: Illegal: %v; want %v", got, want)
	}
}

// lawson holds Lawson to an answer.
func lawson(t testing.TB, m *mesh.Mesh, most, want int, wantDone bool, wantError api.Errno) {
	t.Helper()
	if got, done, e := Lawson(m, most); got != want || done != wantDone || e != wantError {
		t.Errorf("P1903: Lawson(%d): %d, %v, error %d; want %d, %v, %d", most, got, done, e, want, wantDone, wantError)
	}
}

// stands holds a mesh to its data.
func stands(t testing.TB, what string, m *mesh.Mesh, want api.Mesh) {
	t.Helper()
	if got := m.Tell(); !alike(got, want) {
		t.Errorf("%s: %v; want %v", what, got, want)
	}
}

// alike tells whether data are the same; nil is an empty list.
func alike(a, b api.Mesh) bool {
	return slices.Equal(a.Points, b.Points) && slices.Equal(a.Gone, b.Gone) && slices.Equal(a.Fixed, b.Fixed) && slices.Equal(a.Tris, b.Tris)
}

func triOrder(a, b api.Tri) int { return slices.Compare(a[:], b[:]) }

// told is a triangle with its least number first.
func told(a, b, c int) api.Tri {
	for min(b, c) < a {
		a, b, c = b, c, a
	}
	return api.Tri{a, b, c}
}

func squareMesh() api.Mesh {
	return api.Mesh{Points: []api.Point{at(0, 0), at(2, 0), at(2, 2), at(0, 2)}, Tris: []api.Tri{{0, 1, 2}, {0, 2, 3}}}
}

// kiteMesh is the chapter's first one, multiplied by a factor.
func kiteMesh(by float64) api.Mesh {
	return api.Mesh{Points: []api.Point{at(0, 0), at(4*by, 0), at(5*by, 3*by), at(0, by)}, Tris: []api.Tri{{0, 1, 3}, {1, 2, 3}}}
}
