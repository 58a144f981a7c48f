package delaunay

import (
	"math"
	"math/rand/v2"
	"slices"
	"testing"

	"plumb/api"
	"plumb/mesh"
)

const (
	minus0 = math.MinInt
	top    = math.MaxFloat64
	tiny   = 0x1p-1074
)

func of(f float64) int           { return int(math.Float64bits(f)) }
func value(b int) float64        { return math.Float64frombits(uint64(b)) }
func at(x, y float64) api.Point  { return api.Point{X: of(x), Y: of(y)} }
func seeded(n uint64) *rand.Rand { return rand.New(rand.NewPCG(n, 21)) }

// some is one item of a list.
func some[T any](r *rand.Rand, l []T) T { return l[r.IntN(len(l))] }

// strange are points that are none.
func strange() []api.Point {
	var l []api.Point
	for _, b := range []int{api.Inf, api.Inf | minus0, api.NaN, api.NaN | minus0, api.Inf + 1, -1, math.MaxInt} {
		l = append(l, api.Point{X: b}, api.Point{Y: b}, api.Point{X: b, Y: b})
	}
	return l
}

// opened is the mesh of data that must be one.
func opened(t testing.TB, m api.Mesh) *mesh.Mesh {
	t.Helper()
	o, place, e := mesh.Open(m)
	if o == nil || place != 0 || e != api.OK {
		t.Fatalf("P2102: Open(%v): %v, %d, error %d", m, o != nil, place, e)
	}
	return o
}

// built holds Build to be right, and is what it makes.
func built(t testing.TB, points []api.Point) api.Mesh {
	t.Helper()
	m, place, e := Build(points)
	if place != 0 || e != api.OK {
		t.Fatalf("P2101: Build(%v): place %d, error %d", points, place, e)
	}
	return m
}

// unbuilt holds Build to an error.
func unbuilt(t testing.TB, points []api.Point, want int, wantError api.Errno) {
	t.Helper()
	m, place, e := Build(points)
	if place != want || e != wantError || !alike(m, api.Mesh{}) {
		t.Errorf("P2101: Build of %d points: %d points, place %d, error %d; want %d, %d", len(points), len(m.Points), place, e, want, wantError)
	}
}

// again holds Again to be right, and is what it makes.
func again(t testing.TB, m api.Mesh) api.Mesh {
	t.Helper()
	o, e := Again(m)
	if e != api.OK {
		t.Fatalf("P2103: Again(%v): error %d", m, e)
	}
	return o
}

// asked holds Is to an answer.
func asked(t testing.TB, m api.Mesh, want bool) {
	t.Helper()
	if is, e := Is(m); is != want || e != api.OK {
		t.Errorf("P2104: Is(%v): %v, error %d; want %v", m, is, e, want)
	}
}

// triangles holds Triangles to a list; nil is an empty one.
func triangles(t testing.TB, what string, points []api.Point, want []api.Tri) {
	t.Helper()
	if l, e := Triangles(points); e != api.OK || !slices.Equal(l, want) {
		t.Errorf("%s: Triangles(%v): %v, error %d; want %v", what, points, l, e, want)
	}
}

// alike tells whether data are the same; nil is an empty list.
func alike(a, b api.Mesh) bool {
	return slices.Equal(a.Points, b.Points) && slices.Equal(a.Gone, b.Gone) && slices.Equal(a.Fixed, b.Fixed) && slices.Equal(a.Tris, b.Tris)
}

func cloned(m api.Mesh) api.Mesh {
	return api.Mesh{Points: slices.Clone(m.Points), Gone: slices.Clone(m.Gone), Fixed: slices.Clone(m.Fixed), Tris: slices.Clone(m.Tris)}
}

func edgesRise(a, b api.Edge) int { return slices.Compare(a[:], b[:]) }
func trisRise(a, b api.Tri) int   { return slices.Compare(a[:], b[:]) }

// told is a triangle with its least number first.
func told(a, b, c int) api.Tri {
	for min(b, c) < a {
		a, b, c = b, c, a
	}
	return api.Tri{a, b, c}
}

func pair(a, b int) api.Edge { return api.Edge{min(a, b), max(a, b)} }

// byPlaces are triangles as points, the least number's first, so that those of other numbers can be held against them.
func byPlaces(points []api.Point, tris []api.Tri) map[[3]api.Point]bool {
	l := map[[3]api.Point]bool{}
	for _, x := range tris {
		a, b, c := points[x[0]], points[x[1]], points[x[2]]
		for isLess(b, a) || isLess(c, a) {
			a, b, c = b, c, a
		}
		l[[3]api.Point{a, b, c}] = true
	}
	return l
}
