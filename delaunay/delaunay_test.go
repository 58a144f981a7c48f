package delaunay

import (
	"math"
	"math/rand/v2"
	"slices"
	"testing"

	"plumb/api"
	"plumb/mesh"
)

func TestExamples(t *testing.T) {
	for _, by := range []float64{1, tiny, 0x1p-200, 0x1p140, 0x1p1020} {
		p := func(x, y float64) api.Point { return at(x*by, y*by) }
		triangles(t, "P2105", []api.Point{p(0, 0), p(1, 0), p(1, 1), p(0, 1)}, []api.Tri{{0, 1, 3}, {1, 2, 3}})
		triangles(t, "P2105", []api.Point{p(1, 1), p(0, 1), p(0, 0), p(1, 0)}, []api.Tri{{0, 1, 3}, {1, 2, 3}})
		triangles(t, "P2105", []api.Point{p(0, 0), p(1, 1), p(2, 2)}, nil)
		l := []api.Point{p(0, 0), p(4, 0), p(0, 4), p(1, 1), p(0, 0)}
		triangles(t, "P2105", l, []api.Tri{{0, 1, 3}, {0, 3, 2}, {1, 2, 3}})
		unbuilt(t, l, 4, api.ErrSame)
	}
	treed(t, api.Mesh{Points: []api.Point{at(0, 0), at(4, 0), at(0, 4), at(1, 1)}, Tris: []api.Tri{{0, 1, 3}, {0, 3, 2}, {1, 2, 3}}}, 22, api.Edge{0, 3}, api.Edge{1, 3}, api.Edge{2, 3})
	unbuilt(t, []api.Point{at(0, 0), {X: api.NaN}}, 1, api.ErrFinite)
}

func TestBuild(t *testing.T) {
	sets(t, 1, 38, func(_ *rand.Rand, points []api.Point) {
		m := built(t, points)
		want := api.Mesh{Points: points, Tris: delaunayOf(api.Mesh{Points: points})}
		if !alike(m, want) {
			t.Errorf("P2102: Build(%v): %v; want %v", points, m, want)
		}
		opened(t, m)
	})
}

func TestBuildOfFew(t *testing.T) {
	for _, l := range [][]api.Point{nil, {}, {at(3, 4)}, {at(3, 4), at(-3, 4)}, {at(0, 0), at(top, top), at(-top, -top)}} {
		if m := built(t, l); !alike(m, api.Mesh{Points: l}) {
			t.Errorf("P2101: Build(%v): %v", l, m)
		}
	}
	for _, l := range [][]api.Point{{at(0, 0), at(tiny, 0), at(0, tiny)}, {at(-top, -top), at(top, -top), at(0, top)}} {
		for _, k := range [][3]int{{0, 1, 2}, {1, 2, 0}, {2, 0, 1}, {0, 2, 1}, {2, 1, 0}, {1, 0, 2}} {
			turned := []api.Point{l[k[0]], l[k[1]], l[k[2]]}
			m := built(t, turned)
			if want := delaunayOf(api.Mesh{Points: turned}); len(want) != 1 || !slices.Equal(m.Tris, want) {
				t.Errorf("P2102: Build(%v): %v; want %v", turned, m, want)
			}
		}
	}
}

func TestBuildInNormalForm(t *testing.T) {
	zero := math.Copysign(0, -1)
	m := built(t, []api.Point{at(zero, zero), at(1, zero), at(zero, 1), at(zero, -1)})
	want := api.Mesh{Points: []api.Point{at(0, 0), at(1, 0), at(0, 1), at(0, -1)}, Tris: []api.Tri{{0, 1, 2}, {0, 3, 1}}}
	if !alike(m, want) {
		t.Errorf("P2101: Build with -0: %v; want %v", m, want)
	}
	for _, p := range []api.Point{at(zero, zero), at(0, zero), at(zero, 0), at(0, 0)} {
		unbuilt(t, []api.Point{at(1, 1), at(0, 0), p}, 2, api.ErrSame)
		unbuilt(t, []api.Point{p, at(1, 1), at(zero, zero)}, 2, api.ErrSame)
	}
}

func TestBuildIsRefused(t *testing.T) {
	good := []api.Point{at(0, 0), at(2, 0), at(0, 2), at(5, 5)}
	for _, p := range strange() {
		for place := range len(good) + 1 {
			l := slices.Insert(slices.Clone(good), place, p)
			unbuilt(t, l, place, api.ErrFinite)
			unbuilt(t, append(l, p, good[0]), place, api.ErrFinite) // the first one ends it
		}
		unbuilt(t, []api.Point{good[0], good[1], good[0], p}, 2, api.ErrSame)
		unbuilt(t, []api.Point{good[0], p, good[1], good[0]}, 1, api.ErrFinite)
	}
	for place := range good {
		unbuilt(t, append(slices.Clone(good), good[place]), len(good), api.ErrSame)
	}
}

func TestAgain(t *testing.T) {
	others, fixed := 0, 0
	samples(2, 57, func(_ *rand.Rand, data api.Mesh, _ []float64) {
		opened(t, data)
		m := again(t, data)
		want := api.Mesh{Points: data.Points, Gone: data.Gone, Tris: delaunayOf(data)}
		if !alike(m, want) {
			t.Fatalf("P2103: Again(%v): %v; want %v", data, m, want)
		}
		if !slices.Equal(data.Tris, want.Tris) {
			others++
		}
		fixed += len(data.Fixed)
		if !alike(again(t, m), m) {
			t.Errorf("P2103: Again of its own mesh: %v", m)
		}
	})
	if others < 100 || fixed < 100 {
		t.Errorf("P2103: %d other meshes, %d fixed edges: too few to tell", others, fixed)
	}
}

func TestIs(t *testing.T) {
	seen := map[bool]int{}
	samples(3, 57, func(r *rand.Rand, data api.Mesh, _ []float64) {
		want := slices.Equal(data.Tris, delaunayOf(data))
		seen[want]++
		asked(t, data, want)
		for _, l := range [][]api.Edge{nil, edgesOf(data)} { // whatever is fixed
			data.Fixed = l
			asked(t, data, want)
		}
		m := again(t, data)
		asked(t, m, true)
		m.Fixed = edgesOf(m)
		asked(t, m, true)
		if t.Failed() {
			t.Fatalf("in %v", data)
		}
	})
	if seen[true] < 100 || seen[false] < 100 {
		t.Errorf("P2104: %v: too few to tell", seen)
	}
}

// faulty are data that no mesh has, of each kind, and data with several faults.
func faulty() []api.Mesh {
	points := []api.Point{at(0, 0), at(2, 0), at(2, 2), at(0, 2), at(1, 1), at(9, 9)}
	good := api.Mesh{Points: points, Gone: []int{4, 5}, Tris: []api.Tri{{0, 1, 3}, {1, 2, 3}}}
	with := func(change func(m *api.Mesh)) api.Mesh {
		m := cloned(good)
		change(&m)
		return m
	}
	l := []api.Mesh{
		with(func(m *api.Mesh) { m.Points = make([]api.Point, api.MaxSites+1) }),
		with(func(m *api.Mesh) { m.Points[3] = api.Point{Y: minus0} }),
		with(func(m *api.Mesh) { m.Gone = []int{5, 4} }),
		with(func(m *api.Mesh) { m.Gone = []int{4, 6} }),
		with(func(m *api.Mesh) { m.Points[2] = m.Points[1] }),
		with(func(m *api.Mesh) { m.Tris = []api.Tri{{0, 3, 1}, {1, 2, 3}} }),
		with(func(m *api.Mesh) { m.Tris = []api.Tri{{1, 2, 3}, {0, 1, 3}} }),
		with(func(m *api.Mesh) { m.Tris = m.Tris[:1] }),
		with(func(m *api.Mesh) { m.Tris = nil }),
		with(func(m *api.Mesh) { m.Gone = []int{5} }),
		with(func(m *api.Mesh) { m.Fixed = []api.Edge{{0, 2}} }),
		with(func(m *api.Mesh) { m.Fixed = []api.Edge{{1, 3}, {0, 1}} }),
		with(func(m *api.Mesh) { m.Fixed, m.Tris = []api.Edge{{3, 1}}, nil }),
		with(func(m *api.Mesh) { m.Points[0], m.Gone, m.Tris = api.Point{X: api.Inf}, []int{-1}, []api.Tri{{}} }),
		with(func(m *api.Mesh) { m.Gone, m.Tris = []int{-1}, []api.Tri{{}} }),
	}
	for _, p := range strange() {
		l = append(l, with(func(m *api.Mesh) { m.Points[5] = p }))
	}
	return l
}

func TestFaultyMeshes(t *testing.T) {
	seen := map[api.Errno]bool{}
	for _, m := range faulty() {
		_, _, want := mesh.Open(m)
		if want == api.OK {
			t.Fatalf("%v is no faulty mesh", m)
		}
		seen[want] = true
		if o, e := Again(m); e != want || !alike(o, api.Mesh{}) {
			t.Errorf("P2103: Again: %v, error %d; want %d", o, e, want)
		}
		if is, e := Is(m); e != want || is {
			t.Errorf("P2104: Is: %v, error %d; want %d", is, e, want)
		}
		if l, sum, e := Tree(m); e != want || len(l) > 0 || sum.Neg || len(sum.Mag) > 0 || sum.Exp != 0 {
			t.Errorf("P2106: Tree: %v, %v, error %d; want %d", l, sum, e, want)
		}
	}
	for _, e := range []api.Errno{api.ErrMany, api.ErrFinite, api.ErrSite, api.ErrSame, api.ErrTri, api.ErrMesh, api.ErrEdge} {
		if !seen[e] {
			t.Errorf("no mesh has error %d", e)
		}
	}
}

func TestTriangles(t *testing.T) {
	twice := 0
	r := seeded(4)
	for _, from := range coordinates() {
		for i := range 42 {
			var l []api.Point
			for range i % 24 {
				p := at(some(r, from), some(r, from))
				if p.X == 0 && r.IntN(2) == 0 {
					p.X = minus0
				}
				l = append(l, p)
			}
			m := firsts(l)
			twice += len(m.Gone)
			triangles(t, "P2105", l, delaunayOf(m))
		}
	}
	if twice < 300 {
		t.Errorf("P2105: %d points are one place with an earlier one: too few to tell", twice)
	}
}

func TestTrianglesIsRefused(t *testing.T) {
	good := []api.Point{at(0, 0), at(2, 0), at(0, 2), at(0, 0)}
	for _, p := range strange() {
		for place := range len(good) + 1 {
			if l, e := Triangles(slices.Insert(slices.Clone(good), place, p)); e != api.ErrFinite || len(l) > 0 {
				t.Errorf("P2105: Triangles with %v: %v, error %d", p, l, e)
			}
		}
	}
	for _, n := range []int{api.MaxSites + 1, api.MaxSites + 2, 2 * api.MaxSites} {
		for _, p := range []api.Point{at(1, 1), {X: api.NaN}} { // too long, whatever they are
			if l, e := Triangles(slices.Repeat([]api.Point{p}, n)); e != api.ErrLong || len(l) > 0 {
				t.Errorf("P2105: Triangles of %d points: %v, error %d", n, l, e)
			}
		}
	}
	most := slices.Repeat([]api.Point{at(1, 1)}, api.MaxSites)
	triangles(t, "P2105", most, nil)
	most[7], most[api.MaxSites-1] = at(2, 1), at(1, 2)
	triangles(t, "P2105", most, []api.Tri{{0, 7, api.MaxSites - 1}})
	most[api.MaxSites-1] = api.Point{Y: api.Inf}
	if l, e := Triangles(most); e != api.ErrFinite || len(l) > 0 {
		t.Errorf("P2105: Triangles with the last one infinite: %v, error %d", l, e)
	}
}

func TestPlacesAlone(t *testing.T) { // with other numbers the same triangles
	sets(t, 5, 40, func(r *rand.Rand, points []api.Point) {
		want := byPlaces(points, built(t, points).Tris)
		for range 3 {
			other := slices.Clone(points)
			r.Shuffle(len(other), func(i, k int) { other[i], other[k] = other[k], other[i] })
			tris := built(t, other).Tris
			got := byPlaces(other, tris)
			if len(tris) != len(want) || len(got) != len(want) {
				t.Fatalf("P2107: %d triangles of %v; of %v %d", len(tris), other, points, len(want))
			}
			for x := range want {
				if !got[x] {
					t.Errorf("P2107: %v is none of the triangles of %v", x, other)
				}
			}
		}
	})
}

func TestOneLess(t *testing.T) { // the triangles without it stay, and those with one that comes within them go
	left, stayed := 0, 0
	samples(6, 19, func(_ *rand.Rand, data api.Mesh, _ []float64) {
		m := again(t, data)
		for _, id := range aliveOf(m) {
			less := api.Mesh{Points: m.Points, Gone: append(slices.Clone(m.Gone), id)}
			slices.Sort(less.Gone)
			less.Tris = delaunayOf(less)
			less = again(t, less)
			for _, x := range m.Tris {
				if !slices.Contains(x[:], id) && !slices.Contains(less.Tris, x) {
					t.Fatalf("P2108: %v goes with %d from %v", x, id, m)
				}
			}
			for _, x := range less.Tris {
				within := sideOf(m.Points, x[0], x[1], x[2], id) == 1
				if within == slices.Contains(m.Tris, x) {
					t.Fatalf("P2108: %d comes within %v: %v; in %v", id, x, within, m)
				}
				if within {
					left++
				} else {
					stayed++
				}
			}
		}
	})
	if left < 1000 || stayed < 1000 {
		t.Errorf("P2108: %d triangles went, %d stayed: too few to tell", left, stayed)
	}
}
