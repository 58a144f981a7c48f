package locate

import (
	"math"
	"math/rand/v2"
	"testing"

	"plumb/api"
	"plumb/mesh"
)

func TestExamplesOfIn(t *testing.T) {
	m := opened(t, squareMesh())
	inned(t, m, at(0, 0), site(0), api.OK)
	inned(t, m, at(1, 0), edge(0, 1), api.OK)
	inned(t, m, at(1, 1), edge(0, 2), api.OK)
	inned(t, m, at(1.5, 0.5), triangle(0, 1, 2), api.OK)
	inned(t, m, at(3, 0), api.Place{}, api.OK)
	inned(t, m, at(math.NaN(), 0), api.Place{}, api.ErrFinite)
}

func TestInAboutASquare(t *testing.T) {
	m := opened(t, squareMesh())
	up := math.Nextafter(1, 2)
	for _, x := range []struct {
		p    api.Point
		want api.Place
	}{
		{at(2, 0), site(1)}, {at(2, 2), site(2)}, {at(0, 2), site(3)}, {api.Point{X: minus0, Y: minus0}, site(0)}, {api.Point{X: of(2), Y: minus0}, site(1)},
		{at(2, 1), edge(1, 2)}, {at(1, 2), edge(2, 3)}, {at(0, 1), edge(0, 3)}, {api.Point{X: of(1), Y: minus0}, edge(0, 1)}, {at(tiny, 0), edge(0, 1)},
		{at(up, up), edge(0, 2)}, {at(1, up), triangle(0, 2, 3)}, {at(up, 1), triangle(0, 1, 2)}, {at(tiny, tiny), edge(0, 2)}, {at(0, tiny), edge(0, 3)}, // one step apart
		{at(2*tiny, tiny), triangle(0, 1, 2)}, {at(tiny, 2*tiny), triangle(0, 2, 3)},
		{at(-tiny, 0), api.Place{}}, {at(0, -tiny), api.Place{}}, {at(-tiny, -tiny), api.Place{}}, {at(1, -tiny), api.Place{}}, {at(-tiny, 1), api.Place{}}, // just outside
		{at(math.Nextafter(2, 3), 2), api.Place{}}, {at(2, math.Nextafter(2, 3)), api.Place{}}, {at(math.Nextafter(2, 1), math.Nextafter(2, 1)), edge(0, 2)},
		{at(-1, -1), api.Place{}}, {at(3, 3), api.Place{}}, {at(-1, 0), api.Place{}}, {at(0, 3), api.Place{}}, {at(top, top), api.Place{}}, {at(-top, 1), api.Place{}}, // in line with edges
	} {
		inned(t, m, x.p, x.want, api.OK)
	}
	for _, p := range strange() {
		inned(t, m, p, api.Place{}, api.ErrFinite)
	}
}

func TestInOnALine(t *testing.T) {
	m := opened(t, lineMesh()) // in order: 1, 0, 2, 4
	for _, x := range []struct {
		p    api.Point
		want api.Place
	}{
		{at(-2, -1), site(1)}, {at(4, 2), site(0)}, {at(6, 3), site(2)}, {at(100, 50), site(4)},
		{at(0, 0), edge(0, 1)}, // a site that is gone
		{at(3, 1.5), edge(0, 1)}, {at(5, 2.5), edge(0, 2)}, {at(8, 4), edge(2, 4)}, {api.Point{X: minus0, Y: minus0}, edge(0, 1)},
		{at(-4, -2), api.Place{}}, {at(102, 51), api.Place{}}, {at(-top, -top/2), api.Place{}}, {at(top, top/2), api.Place{}},
		{at(5, 2), api.Place{}}, {at(5, math.Nextafter(2.5, 3)), api.Place{}}, {at(tiny, 0), api.Place{}}, {at(0, tiny), api.Place{}},
	} {
		inned(t, m, x.p, x.want, api.OK)
	}
	upright := opened(t, api.Mesh{Points: []api.Point{at(1, 7), at(1, -3), at(1, 0)}})
	inned(t, upright, at(1, 1), edge(0, 2), api.OK)
	inned(t, upright, at(1, -1), edge(1, 2), api.OK)
	inned(t, upright, at(1, 8), api.Place{}, api.OK)
	inned(t, upright, at(2, 0), api.Place{}, api.OK)
	two := opened(t, api.Mesh{Points: []api.Point{at(top, top), at(-top, -top)}})
	inned(t, two, at(0, 0), edge(0, 1), api.OK)
	inned(t, two, at(tiny, tiny), edge(0, 1), api.OK)
	inned(t, two, at(tiny, 0), api.Place{}, api.OK)
}

func TestFewSites(t *testing.T) {
	empty := opened(t, api.Mesh{})
	allGone := opened(t, api.Mesh{Points: []api.Point{at(0, 0), at(1, 0), at(0, 1)}, Gone: []int{0, 1, 2}})
	for i, m := range []*mesh.Mesh{empty, allGone, {}, nil} {
		inned(t, m, at(0, 0), api.Place{}, api.OK)
		inned(t, m, at(math.Inf(1), 0), api.Place{}, api.ErrFinite)
		walked(t, m, api.Tri{0, 1, 2}, at(0, 0), api.Place{}, nil, api.ErrTri)
		walked(t, m, api.Tri{}, at(0, math.NaN()), api.Place{}, nil, api.ErrFinite)
		pierced(t, m, 0, 1, nil, api.ErrSite)
		pierced(t, m, 0, 0, nil, api.ErrSite)
		if t.Failed() {
			t.Fatalf("mesh %d", i)
		}
	}
	one := opened(t, api.Mesh{Points: []api.Point{at(9, 9), at(3, 4)}, Gone: []int{0}})
	inned(t, one, at(3, 4), site(1), api.OK)
	inned(t, one, at(9, 9), api.Place{}, api.OK)
	pierced(t, one, 1, 1, nil, api.ErrEdge)
	pierced(t, one, 0, 1, nil, api.ErrSite)
	pierced(t, one, 1, 0, nil, api.ErrSite)
	pierced(t, one, 0, 0, nil, api.ErrSite)
}

func TestEveryPointHasOnePlace(t *testing.T) {
	var seen [4]int
	samples(t, 1, 50, func(r *rand.Rand, data api.Mesh, from []float64) {
		m := opened(t, data)
		for _, p := range asked(r, data, from) {
			want := placesOf(data, p)
			if len(want) != 1 {
				t.Fatalf("P1801: %v has the places %v", p, want)
			}
			inned(t, m, p, want[0], api.OK)
			seen[want[0].Kind]++
		}
		if t.Failed() {
			t.Fatalf("in %v", data)
		}
	})
	for kind, n := range seen {
		if n < 1000 {
			t.Errorf("P1802: %d of kind %d: too few to tell", n, kind)
		}
	}
}
