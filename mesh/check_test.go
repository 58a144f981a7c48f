package mesh

import (
	"math"
	"math/rand/v2"
	"slices"
	"testing"

	"plumb/api"
)

func TestExamplesOfCheck(t *testing.T) {
	with := func(change func(m *api.Mesh)) api.Mesh {
		m := squareMesh()
		change(&m)
		return m
	}
	checked(t, with(func(m *api.Mesh) { m.Tris = []api.Tri{{0, 2, 1}, {0, 2, 3}} }), 0, api.ErrTri)
	checked(t, with(func(m *api.Mesh) { m.Tris = []api.Tri{{0, 1, 2}} }), 0, api.ErrMesh)
	checked(t, with(func(m *api.Mesh) { m.Fixed = []api.Edge{{1, 3}} }), 0, api.ErrEdge)
	checked(t, with(func(m *api.Mesh) { m.Gone = []int{1} }), 0, api.ErrTri)
	checked(t, with(func(m *api.Mesh) { m.Points = append(m.Points, at(2, 0)) }), 4, api.ErrSame)
	checked(t, with(func(m *api.Mesh) { m.Points = append(m.Points, at(1, 1)) }), 0, api.ErrMesh)
	checked(t, api.Mesh{Points: []api.Point{at(0, 0), at(1, 0), at(2, 0)}}, 0, api.OK)
	checked(t, api.Mesh{}, 0, api.OK)
}

func TestCheckOfPoints(t *testing.T) {
	for _, b := range strange() {
		for place := range square() {
			for _, p := range []api.Point{{X: b}, {Y: b}, {X: b, Y: b}, {X: of(7), Y: b}} {
				m := squareMesh()
				m.Points[place] = p
				checked(t, m, place, api.ErrFinite)
				m.Points = append(m.Points, p, at(0, 0)) // what is wrong later is not told
				m.Gone, m.Fixed, m.Tris = []int{9}, []api.Edge{{3, 3}}, []api.Tri{{}}
				checked(t, m, place, api.ErrFinite)
				m.Gone = []int{place} // what is gone is a point too
				checked(t, m, place, api.ErrFinite)
			}
		}
	}
	for _, p := range []api.Point{at(tiny, -tiny), at(-top, top)} { // these are finite
		m := made(append(square(), p))
		checked(t, m, 0, api.OK)
	}
}

func TestCheckOfGone(t *testing.T) {
	five := append(square(), at(1, 1), at(5, 5))
	for _, x := range []struct {
		gone []int
		want int
	}{
		{[]int{-1}, 0}, {[]int{6}, 0}, {[]int{math.MaxInt}, 0}, {[]int{math.MinInt}, 0}, {[]int{4, 4}, 1}, {[]int{5, 4}, 1}, {[]int{4, 6}, 1}, {[]int{0, 1, 1, 9}, 2}, {[]int{4, 5, 5}, 2}, {[]int{0, -1}, 1},
	} {
		checked(t, api.Mesh{Points: five, Gone: x.gone, Tris: squareMesh().Tris}, x.want, api.ErrSite)
		double := api.Mesh{Points: slices.Concat(five, five), Gone: x.gone, Tris: []api.Tri{{}}} // what is wrong later is not told
		want, e := checkOf(double)
		checked(t, double, want, e)
	}
	checked(t, api.Mesh{Points: five, Gone: []int{4, 5}, Tris: squareMesh().Tris}, 0, api.OK)
}

func TestCheckOfPlaces(t *testing.T) {
	l := append(square(), square()...)
	checked(t, api.Mesh{Points: l, Tris: []api.Tri{{}}, Fixed: []api.Edge{{}}}, 4, api.ErrSame)
	checked(t, api.Mesh{Points: l, Gone: []int{4, 5}}, 6, api.ErrSame)
	checked(t, api.Mesh{Points: l, Gone: []int{0, 5, 6}}, 7, api.ErrSame)
	checked(t, api.Mesh{Points: []api.Point{at(1, 1), at(2, 2), at(2, 2), at(1, 1)}}, 2, api.ErrSame) // the least number, not that of the least place
	// of two of one place either may be gone: the earlier, or the later one
	checked(t, api.Mesh{Points: l, Gone: []int{4, 5, 6, 7}, Tris: squareMesh().Tris}, 0, api.OK)
	checked(t, api.Mesh{Points: l, Gone: []int{0, 1, 2, 3}, Tris: []api.Tri{{4, 5, 6}, {4, 6, 7}}}, 0, api.OK)
	checked(t, api.Mesh{Points: l, Gone: []int{0, 5, 2, 7}, Tris: []api.Tri{{1, 3, 4}, {1, 6, 3}}}, 2, api.ErrSite)
	checked(t, api.Mesh{Points: l, Gone: []int{0, 2, 5, 7}, Tris: []api.Tri{{1, 3, 4}, {1, 6, 3}}}, 0, api.OK)
}

func TestCheckOfTriangles(t *testing.T) {
	five := append(square(), at(1, 1))
	good := []api.Tri{{0, 1, 4}, {0, 4, 3}, {1, 2, 4}, {2, 3, 4}}
	checked(t, api.Mesh{Points: five, Tris: good}, 0, api.OK)
	for place := range good {
		for _, x := range []api.Tri{
			{}, {0, 0, 1}, {0, 1, 1}, {0, 1, 0}, {0, 2, 4}, {0, 4, 2}, {0, 3, 1}, {1, 0, 3}, {1, 4, 0}, {4, 0, 1}, {-1, 0, 1}, {0, 1, 5}, {0, 5, 1}, {5, 6, 7}, {0, 1, math.MaxInt}, {math.MinInt, 0, 1}, {0, 1, -1},
		} {
			m := api.Mesh{Points: five, Tris: slices.Clone(good), Fixed: []api.Edge{{9, 9}}}
			m.Tris[place] = x
			checked(t, m, place, api.ErrTri)
		}
		m := api.Mesh{Points: five, Tris: slices.Insert(slices.Clone(good), place, good[place])} // twice
		checked(t, m, place+1, api.ErrTri)
		m.Tris = slices.Clone(good)
		if place > 0 {
			m.Tris[place], m.Tris[place-1] = m.Tris[place-1], m.Tris[place]
			checked(t, m, place, api.ErrTri)
		}
	}
}

func TestCheckOfTilings(t *testing.T) {
	five := append(square(), at(1, 1))
	for _, x := range []struct {
		points []api.Point
		tris   []api.Tri
	}{
		{square(), nil},
		{square(), []api.Tri{{0, 1, 2}, {0, 1, 3}, {1, 2, 3}}},
		{square(), []api.Tri{{0, 1, 2}, {0, 1, 3}, {0, 2, 3}, {1, 2, 3}}},
		{five, []api.Tri{{0, 1, 4}, {0, 4, 3}, {1, 2, 4}}},                                                         // a gap at the border
		{five, []api.Tri{{0, 1, 4}, {0, 4, 3}, {1, 2, 3}, {1, 3, 4}}},                                              // no tile: 1 3 4 has no area
		{five, []api.Tri{{0, 1, 3}, {1, 2, 3}}},                                                                    // 4 is on the edge
		{append(square(), at(1, 0)), []api.Tri{{0, 1, 2}, {0, 2, 3}}},                                              // 4 is on the border
		{append(square(), at(1, 0.5)), []api.Tri{{0, 1, 2}, {0, 2, 3}}},                                            // 4 is inside
		{append(square(), at(9, 9), at(9, 8)), []api.Tri{{0, 1, 2}, {0, 2, 3}}},                                    // not all of the hull
		{[]api.Point{at(0, 0), at(9, 0), at(0, 9), at(1, 1), at(2, 1), at(1, 2)}, []api.Tri{{0, 1, 2}}},            // three inside
		{[]api.Point{at(0, 0), at(9, 0), at(0, 9), at(1, 1), at(2, 1), at(1, 2)}, append(frame(), api.Tri{})},      // refused as a triangle
		{[]api.Point{at(0, 0), at(9, 0), at(0, 9), at(1, 1), at(2, 1), at(1, 2)}, frame()},                         // a hole
		{[]api.Point{at(0, 0), at(9, 0), at(0, 9), at(1, 1), at(2, 1), at(1, 2)}, []api.Tri{{0, 1, 2}, {3, 4, 5}}}, // one over the other
	} {
		m := api.Mesh{Points: x.points, Tris: x.tris}
		want, wantError := checkOf(m)
		if wantError == api.OK {
			t.Errorf("the model takes %v", m)
		}
		checked(t, m, want, wantError)
		if wantError == api.ErrMesh {
			m.Fixed = []api.Edge{{0, 0}}
			checked(t, m, 0, api.ErrMesh)
		}
	}
	whole := append(frame(), api.Tri{3, 4, 5})
	checked(t, api.Mesh{Points: []api.Point{at(0, 0), at(9, 0), at(0, 9), at(1, 1), at(2, 1), at(1, 2)}, Tris: whole}, 0, api.OK)
}

// frame is the triangle 0 1 2 without a hole 3 4 5.
func frame() []api.Tri {
	return []api.Tri{{0, 1, 4}, {0, 3, 5}, {0, 4, 3}, {0, 5, 2}, {1, 2, 5}, {1, 5, 4}}
}

func TestCheckOfFixed(t *testing.T) {
	for _, x := range []struct {
		fixed []api.Edge
		want  int
	}{
		{[]api.Edge{{1, 3}}, 0}, {[]api.Edge{{1, 0}}, 0}, {[]api.Edge{{2, 0}}, 0}, {[]api.Edge{{0, 0}}, 0}, {[]api.Edge{{0, 4}}, 0}, {[]api.Edge{{-1, 0}}, 0}, {[]api.Edge{{-1, 4}}, 0}, {[]api.Edge{{0, math.MaxInt}}, 0},
		{[]api.Edge{{0, 1}, {0, 1}}, 1}, {[]api.Edge{{0, 2}, {0, 1}}, 1}, {[]api.Edge{{1, 2}, {0, 3}}, 1}, {[]api.Edge{{0, 1}, {0, 2}, {1, 3}}, 2}, {[]api.Edge{{0, 1}, {0, 2}, {0, 3}, {1, 2}, {3, 2}}, 4},
	} {
		m := squareMesh()
		m.Fixed = x.fixed
		checked(t, m, x.want, api.ErrEdge)
	}
	m := squareMesh()
	m.Fixed = []api.Edge{{0, 1}, {0, 2}, {0, 3}, {1, 2}, {2, 3}}
	checked(t, m, 0, api.OK)
	line := api.Mesh{Points: []api.Point{at(0, 0), at(2, 2), at(1, 1)}}
	for _, x := range []struct {
		fixed     []api.Edge
		want      int
		wantError api.Errno
	}{{[]api.Edge{{0, 2}, {1, 2}}, 0, api.OK}, {[]api.Edge{{0, 1}}, 0, api.ErrEdge}, {[]api.Edge{{0, 2}, {2, 1}}, 1, api.ErrEdge}} {
		line.Fixed = x.fixed
		checked(t, line, x.want, x.wantError)
	}
}

// spoiled is data with something changed.
func spoiled(r *rand.Rand, m api.Mesh) api.Mesh {
	m = cloned(m)
	number := func() int { return r.IntN(len(m.Points)+3) - 1 }
	switch r.IntN(12) {
	case 0:
		m.Points = append(m.Points, at(some(r, coordinates()[0]), some(r, coordinates()[0])))
	case 1:
		m.Points = m.Points[:max(0, len(m.Points)-1)]
	case 2:
		m.Gone = append(m.Gone, number())
		slices.Sort(m.Gone)
	case 3:
		m.Gone = append(m.Gone, number())
	case 4:
		m.Gone = m.Gone[:max(0, len(m.Gone)-1)]
	case 5:
		m.Fixed = append(m.Fixed, api.Edge{number(), number()})
		slices.SortFunc(m.Fixed, edgeOrder)
	case 6:
		m.Tris = append(m.Tris, told(number(), number(), number()))
		slices.SortFunc(m.Tris, triOrder)
	case 7:
		if i := r.IntN(len(m.Tris) + 1); i < len(m.Tris) {
			m.Tris = slices.Delete(m.Tris, i, i+1)
		}
	case 8:
		if i := r.IntN(len(m.Tris) + 1); i < len(m.Tris) {
			m.Tris[i][r.IntN(3)] = number()
		}
	case 9:
		if i := r.IntN(len(m.Tris) + 1); i < len(m.Tris) {
			m.Tris[i] = told(m.Tris[i][0], number(), m.Tris[i][2])
			slices.SortFunc(m.Tris, triOrder)
		}
	case 10:
		if i := r.IntN(len(m.Points) + 1); i < len(m.Points) {
			m.Points[i].X = some(r, append(strange(), of(1), of(2), 0))
		}
	case 11:
		if i := r.IntN(len(m.Points) + 1); i < len(m.Points) {
			m.Points[i] = at(some(r, coordinates()[2]), some(r, coordinates()[2]))
		}
	}
	return m
}

func TestCheckOfSpoiledData(t *testing.T) {
	found := map[api.Errno]int{}
	samples(40, 250, func(r *rand.Rand, m api.Mesh) {
		for range 1 + r.IntN(3) {
			m = spoiled(r, m)
		}
		want, e := checkOf(m)
		checked(t, m, want, e)
		found[e]++
	})
	for _, e := range []api.Errno{api.OK, api.ErrFinite, api.ErrSite, api.ErrSame, api.ErrTri, api.ErrMesh, api.ErrEdge} {
		if found[e] < 10 {
			t.Errorf("P1702: only %d spoiled data with error %d", found[e], e)
		}
	}
}

func TestCheckOfAnyTriangles(t *testing.T) { // all choices of triangles of few points
	for _, points := range [][]api.Point{
		square(), append(square(), at(1, 1)), append(square()[:3], at(1, 1)), {at(0, 0), at(4, 0), at(1, 1), at(0, 4)}, {at(0, 0), at(1, 0), at(2, 0), at(1, 1)}, {at(0, 0), at(tiny, 0), at(0, tiny), at(top, top)},
	} {
		var all []api.Tri
		for a := range points {
			for b := range points {
				for c := range points {
					if x := (api.Tri{a, b, c}); isTri(api.Mesh{Points: points}, x) {
						all = append(all, x)
					}
				}
			}
		}
		for mask := range 1 << len(all) {
			m := api.Mesh{Points: points}
			for i, x := range all {
				if mask>>i&1 > 0 {
					m.Tris = append(m.Tris, x)
				}
			}
			want, e := checkOf(m)
			checked(t, m, want, e)
		}
	}
}
