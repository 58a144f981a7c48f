package grow

import (
	"math"
	"slices"
	"testing"

	"plumb/api"
	"plumb/legal"
	"plumb/mesh"
)

func TestExample(t *testing.T) {
	m := opened(t, api.Mesh{})
	inserted(t, m, at(0, 0), 0, api.OK)
	inserted(t, m, at(2, 0), 1, api.OK)
	inserted(t, m, at(1, 0), 2, api.OK)
	points := []api.Point{at(0, 0), at(2, 0), at(1, 0)}
	stands(t, "P2001", m, api.Mesh{Points: points})
	if l := m.Edges(); !slices.Equal(l, []api.Edge{{0, 2}, {1, 2}}) {
		t.Errorf("P2001: edges %v", l)
	}
	m.Fix(0, 2, true)
	inserted(t, m, at(0.5, 0), 3, api.OK)
	points = append(points, at(0.5, 0))
	stands(t, "P2001", m, api.Mesh{Points: points, Fixed: []api.Edge{{0, 3}, {2, 3}}})
	removed(t, m, 3, api.ErrFixed)
	removed(t, m, 1, api.OK)
	inserted(t, m, at(0, 1), 4, api.OK)
	want := api.Mesh{Points: append(points, at(0, 1)), Gone: []int{1}, Fixed: []api.Edge{{0, 3}, {2, 3}}, Tris: []api.Tri{{0, 3, 4}, {2, 4, 3}}}
	stands(t, "P2001", m, want)
	inserted(t, m, at(0, 1), 4, api.ErrSame)
	inserted(t, m, at(math.Inf(1), 0), 0, api.ErrFinite)
	removed(t, m, 1, api.ErrSite)
	stands(t, "P2004", m, want)
}

func TestASitesPlaceIsTaken(t *testing.T) {
	m := opened(t, squareMesh())
	for id, p := range squareMesh().Points {
		inserted(t, m, p, id, api.ErrSame)
	}
	inserted(t, m, api.Point{X: minus0, Y: minus0}, 0, api.ErrSame)
	inserted(t, m, api.Point{X: of(2), Y: minus0}, 1, api.ErrSame)
	inserted(t, m, api.Point{X: minus0, Y: of(2)}, 3, api.ErrSame)
	stands(t, "P2004", m, squareMesh())
	removed(t, m, 0, api.OK)
	inserted(t, m, api.Point{X: minus0, Y: minus0}, 4, api.OK) // its place is free again, its number is not
	inserted(t, m, at(0, 0), 4, api.ErrSame)
	points := append(squareMesh().Points, at(0, 0))
	stands(t, "P2001", m, api.Mesh{Points: points, Gone: []int{0}, Tris: []api.Tri{{1, 2, 3}, {1, 3, 4}}})
}

func TestNoPoints(t *testing.T) {
	flipped := opened(t, squareMesh())
	flipped.Flip(1, 3) // illegal: what is not finite is told first
	for _, m := range []*mesh.Mesh{nil, {}, opened(t, api.Mesh{}), opened(t, squareMesh()), flipped} {
		before := m.Tell()
		for _, p := range strange() {
			inserted(t, m, p, 0, api.ErrFinite)
		}
		if got := m.Tell(); !alike(got, before) {
			t.Errorf("P2004: %v; it was %v", got, before)
		}
	}
}

func TestNoSites(t *testing.T) {
	flipped := opened(t, squareMesh())
	flipped.Flip(1, 3)
	gone := opened(t, api.Mesh{Points: squareMesh().Points, Gone: []int{0, 1, 2, 3}})
	for _, m := range []*mesh.Mesh{nil, {}, opened(t, api.Mesh{}), gone, opened(t, squareMesh()), flipped} {
		before := m.Tell()
		for _, id := range []int{-1, math.MinInt, 4, 5, api.MaxSites, math.MaxInt} {
			removed(t, m, id, api.ErrSite)
		}
		if got := m.Tell(); !alike(got, before) {
			t.Errorf("P2004: %v; it was %v", got, before)
		}
	}
	for id := range 4 {
		removed(t, gone, id, api.ErrSite)
	}
	inserted(t, gone, at(0, 0), 4, api.OK)
	inserted(t, nil, at(0, 0), 0, api.ErrArg) // there is no mesh that could take it
}

func TestTheZeroMesh(t *testing.T) {
	var m mesh.Mesh
	removed(t, &m, 0, api.ErrSite)
	for id, p := range squareMesh().Points {
		inserted(t, &m, p, id, api.OK)
	}
	stands(t, "P2001: from the zero Mesh", &m, squareMesh())
	m.Fix(0, 1, true)
	removed(t, &m, 1, api.ErrFixed)
}

// kite is a mesh of which the edge 0 2 is illegal.
func kite() api.Mesh {
	return api.Mesh{Points: []api.Point{at(0, 0), at(4, 0), at(5, 3), at(0, 1)}, Tris: []api.Tri{{0, 1, 2}, {0, 2, 3}}}
}

func TestWhatIsNotTheOne(t *testing.T) {
	m := opened(t, kite())
	for _, p := range []api.Point{at(1, 0.5), at(2.5, 1.5), at(9, 9), at(0, 0.5), at(tiny, tiny)} {
		inserted(t, m, p, 0, api.ErrIllegal)
	}
	inserted(t, m, at(5, 3), 2, api.ErrSame)
	for id := range 4 {
		removed(t, m, id, api.ErrIllegal)
	}
	removed(t, m, 4, api.ErrSite)
	stands(t, "P2004", m, kite())
	m.Fix(0, 1, true)
	removed(t, m, 0, api.ErrFixed)
	removed(t, m, 3, api.ErrIllegal)
	m.Fix(0, 2, true) // legal, as it is fixed
	removed(t, m, 3, api.OK)
	inserted(t, m, at(0, 1), 4, api.OK)
	stands(t, "P2001: a fixed edge stays", m, api.Mesh{Points: append(kite().Points, at(0, 1)), Gone: []int{3}, Fixed: []api.Edge{{0, 1}, {0, 2}}, Tris: []api.Tri{{0, 1, 2}, {0, 2, 4}}})
	m.Fix(0, 2, false)
	removed(t, m, 4, api.ErrIllegal)
	legal.Lawson(m, 9)
	removed(t, m, 4, api.OK)
}

// numbered is a mesh that tells that as many numbers were given, all but those of the data gone.
func numbered(data api.Mesh, n int) api.Mesh {
	for id := len(data.Points); id < n; id++ {
		data.Points = append(data.Points, at(float64(id), -7))
		data.Gone = append(data.Gone, id)
	}
	return data
}

func TestAsManyAsThereMayBe(t *testing.T) {
	data := numbered(kite(), api.MaxSites)
	m := opened(t, data)
	inserted(t, m, at(1, 0.5), 0, api.ErrMany) // also where an edge is illegal
	inserted(t, m, at(9, -7), 0, api.ErrMany)  // the place of one that is gone
	inserted(t, m, at(4, 0), 1, api.ErrSame)
	inserted(t, m, at(math.NaN(), 0), 0, api.ErrFinite)
	stands(t, "P2004", m, data)
	legal.Lawson(m, 9)
	removed(t, m, 2, api.OK)
	inserted(t, m, at(5, 3), 0, api.ErrMany) // what goes makes no room

	m = opened(t, numbered(squareMesh(), api.MaxSites-1))
	inserted(t, m, at(1, 1), api.MaxSites-1, api.OK)
	inserted(t, m, at(1, 0.5), 0, api.ErrMany)
	if l := m.Tell().Tris; len(l) != 4 || l[3] != (api.Tri{2, 3, api.MaxSites - 1}) {
		t.Errorf("P2001: %v", l)
	}
	removed(t, m, api.MaxSites-1, api.OK)
	inserted(t, m, at(1, 1), 0, api.ErrMany)
	if l := m.Tell().Tris; !slices.Equal(l, squareMesh().Tris) {
		t.Errorf("P2002: %v", l)
	}

	m = opened(t, numbered(api.Mesh{}, api.MaxSites))
	inserted(t, m, at(0, 0), 0, api.ErrMany)
}

func TestPieces(t *testing.T) {
	square := squareMesh()
	square.Fixed = []api.Edge{{0, 1}, {1, 3}}
	m := opened(t, square)
	inserted(t, m, at(1, 1), 4, api.OK) // inside
	inserted(t, m, at(1, 0), 5, api.OK) // on the border
	inserted(t, m, at(2, 1), 6, api.OK) // on an edge that is not fixed
	inserted(t, m, at(1.5, math.Nextafter(0.5, 1)), 7, api.OK)
	inserted(t, m, at(1.5, 0.5), 8, api.OK) // on a piece
	want := square
	want.Points = append(want.Points, at(1, 1), at(1, 0), at(2, 1), at(1.5, math.Nextafter(0.5, 1)), at(1.5, 0.5))
	want.Fixed = []api.Edge{{0, 5}, {1, 5}, {1, 8}, {3, 4}, {4, 8}}
	stands(t, "P2001: pieces", m, theOne(t, seeded(8), want))
	for _, id := range []int{0, 1, 3, 4, 5, 8} {
		removed(t, m, id, api.ErrFixed)
	}
	removed(t, m, 7, api.OK)
	removed(t, m, 2, api.OK)
	removed(t, m, 6, api.OK)
	want.Gone = []int{2, 6, 7}
	stands(t, "P2002: pieces", m, theOne(t, seeded(9), want))
}

func TestPiecesOfALine(t *testing.T) {
	data := api.Mesh{Points: []api.Point{at(4, 2), at(-2, -1), at(6, 3), at(0, 0), at(100, 50)}, Gone: []int{3}, Fixed: []api.Edge{{0, 1}, {2, 4}}}
	m := opened(t, data)
	inserted(t, m, at(0, 0), 5, api.OK)    // on a fixed edge, where one went
	inserted(t, m, at(5, 2.5), 6, api.OK)  // on one that is not
	inserted(t, m, at(-4, -2), 7, api.OK)  // ahead of the line
	inserted(t, m, at(102, 51), 8, api.OK) // behind it
	data.Points = append(data.Points, at(0, 0), at(5, 2.5), at(-4, -2), at(102, 51))
	data.Fixed = []api.Edge{{0, 5}, {1, 5}, {2, 4}}
	stands(t, "P2001: pieces", m, data)
	removed(t, m, 7, api.OK)
	removed(t, m, 6, api.OK)
	removed(t, m, 5, api.ErrFixed)
	removed(t, m, 8, api.OK)
	m.Fix(0, 5, false)
	m.Fix(1, 5, false)
	removed(t, m, 5, api.OK)
	data.Gone, data.Fixed = []int{3, 5, 6, 7, 8}, []api.Edge{{2, 4}}
	stands(t, "P2002: pieces", m, data)
}

func TestALineAndBack(t *testing.T) { // on both sides of it, and upright; an apex comes and goes
	lines := [][]api.Point{
		{at(0, 0), at(1, 1), at(3, 3), at(2, 2)},
		{at(1, 7), at(1, -3), at(1, 0), at(1, 2)},
		{at(0, 0), at(-tiny, 0), at(top, 0), at(tiny, 0), at(-top, 0)},
		{at(3, 3), at(9, 9)},
	}
	for _, line := range lines {
		for _, apex := range []api.Point{at(5, 6), at(6, 5), at(-3, 9), at(7, -9), at(tiny, -tiny), at(-top, top)} {
			m := opened(t, api.Mesh{Points: line})
			k := pairing{t, seeded(10), m, m.Tell(), map[api.Errno]int{}}
			k.insert(apex)
			k.remove(len(line))
			k.insert(apex)
			k.remove(0)
			k.remove(1)
		}
	}
}

func TestFourAboutOne(t *testing.T) { // it lies between two of them, or two and two
	for _, l := range [][]api.Point{
		{at(0, -2), at(2, 0), at(0, 2), at(-2, 0)},
		{at(0, -2), at(3, -1), at(0, 2), at(-3, -1)},
		{at(0, -2), at(3, 1), at(0, 2), at(-3, -1)},
		{at(-1, -1), at(1, -1), at(1, 1), at(-1, 1)},
		{at(0, -3), at(9, -5), at(0, 1), at(-8, -4)},
		{at(0, -1), at(0, 2), at(3, -1), at(-4, -2)},
	} {
		for turns := range 4 {
			l = append(l[1:], l[0])
			k := pairing{t, seeded(11), opened(t, api.Mesh{}), api.Mesh{}, map[api.Errno]int{}}
			for _, p := range l {
				k.insert(p)
			}
			k.insert(at(0, 0))
			k.remove(4)
			k.insert(at(0, 0))
			k.remove(turns)
		}
	}
}

func TestOnTheBorder(t *testing.T) { // sites on straight pieces, corners, and behind corners
	square := squareMesh().Points
	for _, p := range []api.Point{
		at(1, 0), at(2, 1), at(1, 2), at(0, 1), // on
		at(3, 0), at(-1, 0), at(2, 3), at(2, -1), at(0, 9), at(0, -9), at(5, 2), at(-5, 2), at(3, 3), at(-1, -1), at(-1, 3), at(3, -1), // in line with a side, or a diagonal
		at(1, tiny), at(1, -tiny), at(-tiny, 1), at(tiny, 1), at(math.Nextafter(2, 3), 1), at(1, math.Nextafter(2, 1)), // next to it
		at(-top, top), at(top, -top), at(1, top),
	} {
		for turns := range 4 {
			k := pairing{t, seeded(12), opened(t, api.Mesh{}), api.Mesh{}, map[api.Errno]int{}}
			for i := range square {
				k.insert(square[(i+turns)%4])
			}
			k.insert(p)
			for id := range 4 {
				k.remove(id)
			}
		}
	}
}
