package locate

import (
	"math"
	"math/rand/v2"
	"slices"
	"testing"

	"plumb/api"
)

func TestExamplesOfWalk(t *testing.T) {
	m := opened(t, squareMesh())
	both := []api.Tri{{0, 2, 3}, {0, 1, 2}}
	walked(t, m, api.Tri{0, 2, 3}, at(1.5, 0.5), triangle(0, 1, 2), both, api.OK)
	walked(t, m, api.Tri{0, 2, 3}, at(5, 1), api.Place{}, both, api.OK)
	walked(t, m, api.Tri{0, 1, 3}, at(5, 1), api.Place{}, nil, api.ErrTri)
	for _, by := range []float64{1, 0x1p-1074, 0x1p1019, 0x1p-200} {
		m = opened(t, roundMesh(by))
		walked(t, m, api.Tri{0, 1, 3}, at(0, 0), api.Place{}, nil, api.ErrWalk)
		walked(t, m, api.Tri{3, 4, 5}, at(0, 0), triangle(3, 4, 5), []api.Tri{{3, 4, 5}}, api.OK)
		inned(t, m, at(0, 0), triangle(3, 4, 5), api.OK)
	}
}

func TestWalkEnds(t *testing.T) {
	m := opened(t, squareMesh())
	low, high := api.Tri{0, 1, 2}, api.Tri{0, 2, 3}
	for _, x := range []struct {
		from api.Tri
		p    api.Point
		want api.Place
		been []api.Tri
	}{
		{low, at(1.5, 0.5), triangle(0, 1, 2), []api.Tri{low}}, // at once
		{low, at(0, 0), site(0), []api.Tri{low}}, {high, at(0, 0), site(0), []api.Tri{high}}, {high, api.Point{X: minus0, Y: minus0}, site(0), []api.Tri{high}},
		{low, at(2, 0), site(1), []api.Tri{low}}, {low, at(2, 2), site(2), []api.Tri{low}}, {high, at(2, 2), site(2), []api.Tri{high}}, // each corner
		{low, at(1, 0), edge(0, 1), []api.Tri{low}}, {low, at(2, 1), edge(1, 2), []api.Tri{low}}, {low, at(1, 1), edge(0, 2), []api.Tri{low}}, // each side
		{high, at(1, 1), edge(0, 2), []api.Tri{high}}, {high, at(1, 2), edge(2, 3), []api.Tri{high}}, {high, at(0, 1), edge(0, 3), []api.Tri{high}},
		{high, at(2, 0), site(1), []api.Tri{high, low}}, {low, at(0, 2), site(3), []api.Tri{low, high}}, {high, at(1, 0), edge(0, 1), []api.Tri{high, low}},
		{low, at(3, 0), api.Place{}, []api.Tri{low}}, {low, at(1, -1), api.Place{}, []api.Tri{low}}, {low, at(0, -1), api.Place{}, []api.Tri{low}}, // out at once
		{low, at(-1, 0), api.Place{}, []api.Tri{low, high}}, {low, at(3, 3), api.Place{}, []api.Tri{low}}, {high, at(3, 3), api.Place{}, []api.Tri{high}},
		{high, at(0, -tiny), api.Place{}, []api.Tri{high, low}}, {low, at(2, math.Nextafter(2, 3)), api.Place{}, []api.Tri{low, high}}, {high, at(top, -top), api.Place{}, []api.Tri{high, low}},
		{low, at(-1, -1), api.Place{}, []api.Tri{low}}, {high, at(-1, -1), api.Place{}, []api.Tri{high}}, // in line with the edge between
	} {
		walked(t, m, x.from, x.p, x.want, x.been, api.OK)
	}
}

func TestTheFirstSideIsCrossed(t *testing.T) { // p lies right of two sides: A B is asked ahead of B C, this ahead of C A
	points := []api.Point{at(0, 0), at(4, 0), at(2, 4), at(6, 4), at(2, -4), at(-2, 4)} // one triangle in the middle of three
	m := opened(t, api.Mesh{Points: points, Tris: []api.Tri{{0, 1, 2}, {0, 2, 5}, {0, 4, 1}, {1, 3, 2}}})
	walked(t, m, api.Tri{0, 1, 2}, at(6, -1), api.Place{}, []api.Tri{{0, 1, 2}, {0, 4, 1}}, api.OK)
	walked(t, m, api.Tri{0, 1, 2}, at(-2, -1), api.Place{}, []api.Tri{{0, 1, 2}, {0, 4, 1}}, api.OK)
	walked(t, m, api.Tri{0, 1, 2}, at(2, 9), api.Place{}, []api.Tri{{0, 1, 2}, {1, 3, 2}}, api.OK)
	// the same places with other numbers: now the side that was the second one is the first
	points = []api.Point{at(4, 0), at(2, 4), at(0, 0), at(6, 4), at(2, -4), at(-2, 4)}
	m = opened(t, api.Mesh{Points: points, Tris: []api.Tri{{0, 1, 2}, {0, 2, 4}, {0, 3, 1}, {1, 5, 2}}})
	walked(t, m, api.Tri{0, 1, 2}, at(6, -1), api.Place{}, []api.Tri{{0, 1, 2}, {0, 3, 1}}, api.OK)
	walked(t, m, api.Tri{0, 1, 2}, at(-2, -1), api.Place{}, []api.Tri{{0, 1, 2}, {1, 5, 2}}, api.OK)
	walked(t, m, api.Tri{0, 1, 2}, at(2, 9), api.Place{}, []api.Tri{{0, 1, 2}, {0, 3, 1}}, api.OK)
}

func TestWalkIsRefused(t *testing.T) {
	m := opened(t, squareMesh())
	line := opened(t, lineMesh())
	for _, from := range []api.Tri{{0, 1, 3}, {1, 2, 0}, {2, 0, 1}, {0, 2, 1}, {2, 3, 0}, {0, 1, 1}, {0, 0, 0}, {}, {-1, 7, 9}, {0, 1, -1}, {1, 0, -1}, {-1, 0, 1}, {-1, 1, 0}, {0, 3, 0}, {0, 3, 2}, {0, 1, 4}, {math.MinInt, math.MaxInt, 0}, {0, 2, math.MaxInt}} {
		walked(t, m, from, at(1, 1), api.Place{}, nil, api.ErrTri)
		walked(t, line, from, at(1, 1), api.Place{}, nil, api.ErrTri)
		for _, p := range strange() {
			walked(t, m, from, p, api.Place{}, nil, api.ErrFinite)
			walked(t, m, api.Tri{0, 1, 2}, p, api.Place{}, nil, api.ErrFinite)
		}
	}
	m.Flip(0, 2)
	walked(t, m, api.Tri{0, 1, 2}, at(1, 1), api.Place{}, nil, api.ErrTri) // it is one no more
	walked(t, m, api.Tri{0, 1, 3}, at(1, 1), edge(1, 3), []api.Tri{{0, 1, 3}}, api.OK)
}

func TestWalks(t *testing.T) {
	seen := map[api.Errno]int{}
	longest := 0
	tested := func(r *rand.Rand, data api.Mesh, from []float64) {
		m := opened(t, data)
		for _, p := range asked(r, data, from) {
			for _, tri := range data.Tris {
				want, been, wantError := walkOf(data, tri, p)
				walked(t, m, tri, p, want, been, wantError)
				seen[wantError]++
				longest = max(longest, len(been))
				if wantError == api.OK {
					inned(t, m, p, want, api.OK) // P1804
				}
			}
		}
		if t.Failed() {
			t.Fatalf("in %v", data)
		}
	}
	samples(t, 2, 22, tested)
	r := seeded(3)
	for range 30 { // round about a middle, by any numbers
		tested(r, renumbered(r, roundMesh(1)), []float64{-3, 0, 2, 30})
	}
	if seen[api.OK] < 10000 || seen[api.ErrWalk] < 100 || longest < 8 {
		t.Errorf("P1803: %v, the longest walk of %d: too few to tell", seen, longest)
	}
}

// renumbered is a mesh with other numbers for its sites.
func renumbered(r *rand.Rand, m api.Mesh) api.Mesh {
	to := r.Perm(len(m.Points))
	o := api.Mesh{Points: make([]api.Point, len(m.Points))}
	for id, p := range m.Points {
		o.Points[to[id]] = p
	}
	for _, x := range m.Tris {
		o.Tris = append(o.Tris, leastFirst(to[x[0]], to[x[1]], to[x[2]]))
	}
	slices.SortFunc(o.Tris, func(a, b api.Tri) int { return slices.Compare(a[:], b[:]) })
	return o
}

func TestNoWalkComesRoundWhereAllIsLegal(t *testing.T) {
	walks := 0
	tested := func(r *rand.Rand, data api.Mesh, from []float64) {
		m := legal(t, data)
		data = m.Tell()
		for _, p := range asked(r, data, from) {
			want := placesOf(data, p)[0]
			for _, tri := range data.Tris {
				got, been, e := Walk(m, tri, p)
				if got != want || e != api.OK || been[0] != tri {
					t.Fatalf("P1804: Walk(%v, %v): %v, %v, error %d; want %v; in %v", tri, p, got, been, e, want, data)
				}
				walks++
			}
		}
	}
	samples(t, 4, 32, tested)
	r := seeded(5)
	for range 10 {
		tested(r, renumbered(r, roundMesh(1)), []float64{-3, 0, 2, 30})
	}
	if walks < 10000 {
		t.Errorf("P1804: %d walks: too few to tell", walks)
	}
}

func TestFixedEdgesBarNoWalk(t *testing.T) {
	data := squareMesh()
	data.Fixed = []api.Edge{{0, 1}, {0, 2}, {2, 3}}
	m := opened(t, data)
	walked(t, m, api.Tri{0, 2, 3}, at(1.5, 0.5), triangle(0, 1, 2), []api.Tri{{0, 2, 3}, {0, 1, 2}}, api.OK)
	inned(t, m, at(1.5, 0.5), triangle(0, 1, 2), api.OK)
	pierced(t, m, 3, 1, []api.Place{edge(0, 2)}, api.OK)
}
