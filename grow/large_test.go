package grow

import (
	"math"
	"slices"
	"testing"

	"plumb/api"
	"plumb/legal"
)

// latticeTris are the triangles of a lattice of n by n sites, numbered row by row: the least site of each square is cut off.
func latticeTris(n int) []api.Tri {
	var l []api.Tri
	for i := range n * n {
		if i%n < n-1 && i/n < n-1 {
			l = append(l, api.Tri{i, i + 1, i + n}, api.Tri{i + 1, i + n + 1, i + n})
		}
	}
	slices.SortFunc(l, triOrder)
	return l
}

func TestALattice(t *testing.T) { // in an order that hangs on chance, with others between that go again
	const n = 24
	r := seeded(30)
	m := opened(t, api.Mesh{})
	to := make([]int, n*n)
	var others []int
	for _, i := range r.Perm(n * n) {
		id, e := Insert(m, at(float64(i%n), float64(i/n)))
		if e != api.OK {
			t.Fatalf("P2001: site %d: error %d", i, e)
		}
		to[i] = id
		if r.IntN(3) == 0 {
			other, e := Insert(m, at(float64(r.IntN(4*n))/4+0.125, float64(r.IntN(4*n))/4))
			if e == api.OK {
				others = append(others, other)
			}
		}
	}
	r.Shuffle(len(others), func(i, k int) { others[i], others[k] = others[k], others[i] })
	for _, id := range others {
		removed(t, m, id, api.OK)
	}
	var want []api.Tri
	for _, x := range latticeTris(n) {
		want = append(want, told(to[x[0]], to[x[1]], to[x[2]]))
	}
	slices.SortFunc(want, triOrder)
	if got := m.Tell(); !slices.Equal(got.Tris, want) {
		t.Errorf("P2003: the lattice is another one")
	}
}

func TestTakingALatticeApart(t *testing.T) { // each second row and column is a lattice again
	const n = 25
	data := api.Mesh{Tris: latticeTris(n)}
	for i := range n * n {
		data.Points = append(data.Points, at(float64(i%n), float64(i/n)))
	}
	m := opened(t, data)
	r := seeded(31)
	var want []api.Tri
	for _, x := range latticeTris((n + 1) / 2) {
		for k, i := range x {
			x[k] = i/((n+1)/2)*2*n + i%((n+1)/2)*2
		}
		want = append(want, x)
	}
	for _, i := range r.Perm(n * n) {
		if i%n%2 == 1 || i/n%2 == 1 {
			removed(t, m, i, api.OK)
		}
	}
	if got := m.Tell().Tris; !slices.Equal(got, want) {
		t.Errorf("P2003: the wide lattice is another one")
	}
}

// bowl are n sites on a curve, none of them between others.
func bowl(n int) api.Mesh {
	var m api.Mesh
	for i := range n {
		x := float64(i - n/2)
		m.Points = append(m.Points, at(x, x*x))
	}
	for i := range n - 2 {
		m.Tris = append(m.Tris, api.Tri{0, i + 1, i + 2})
	}
	return m
}

func TestAHub(t *testing.T) { // a site to which many edges lead
	const n = 1500
	m := opened(t, bowl(n))
	legal.Lawson(m, math.MaxInt)
	want := m.Tell().Tris
	inserted(t, m, at(0, n*n), n, api.OK) // far above
	inserted(t, m, at(0.25, 4), n+1, api.OK)
	if len(legal.Illegal(m)) > 0 {
		t.Errorf("P2001: %v are illegal", legal.Illegal(m))
	}
	removed(t, m, n, api.OK)
	removed(t, m, n+1, api.OK)
	if got := m.Tell().Tris; !slices.Equal(got, want) {
		t.Errorf("P2003: the bowl is another one")
	}
}

func TestAWheel(t *testing.T) { // fixed edges keep the hub's edges as they are, until it goes
	const n = 600
	data := bowl(n)
	data.Points = append(data.Points, at(0, 2*n*n))
	data.Tris = nil
	for i := range n - 1 {
		data.Tris = append(data.Tris, api.Tri{i, i + 1, n})
	}
	for i := range n - 1 {
		data.Fixed = append(data.Fixed, api.Edge{i, i + 1})
	}
	rim := opened(t, bowl(n))
	for i := range n - 1 {
		rim.Fix(i, i+1, true)
	}
	legal.Lawson(rim, math.MaxInt)
	m := opened(t, data)
	legal.Lawson(m, math.MaxInt)
	removed(t, m, n, api.OK)
	if got, want := m.Tell(), rim.Tell(); !slices.Equal(got.Tris, want.Tris) || !slices.Equal(got.Fixed, want.Fixed) {
		t.Errorf("P2002: the rim is another one")
	}
}

func TestALongLine(t *testing.T) { // as many as there may be, but the last one, beside it
	const n = api.MaxSites - 1
	var data api.Mesh
	for i := range n {
		data.Points = append(data.Points, at(float64(i), float64(3*i)))
	}
	m := opened(t, data)
	removed(t, m, 7, api.OK)
	inserted(t, m, at(7, 22), n, api.OK)
	if l := m.Tell().Tris; len(l) != n-2 || l[0] != (api.Tri{0, 1, n}) || l[n-3] != (api.Tri{n - 2, n - 1, n}) {
		t.Errorf("P2001: %d triangles", len(l))
	}
	removed(t, m, n, api.OK)
	edges := m.Edges()
	if l := m.Tell().Tris; len(l) > 0 || len(edges) != n-2 || edges[6] != (api.Edge{6, 8}) {
		t.Errorf("P2002: %d triangles, %d edges", len(l), len(edges))
	}
	inserted(t, m, at(7, 21), 0, api.ErrMany)
}
