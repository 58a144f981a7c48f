package legal

import (
	"math"
	"slices"
	"testing"

	"plumb/api"
)

func TestALattice(t *testing.T) { // as many sites as there may be; each square's edge is the wrong one
	const n = 256
	var data, want api.Mesh
	for i := range n * n {
		data.Points = append(data.Points, at(float64(i%n), float64(i/n)))
		if i%n < n-1 && i/n < n-1 {
			data.Tris = append(data.Tris, api.Tri{i, i + 1, i + n + 1}, api.Tri{i, i + n + 1, i + n})
			want.Tris = append(want.Tris, api.Tri{i, i + 1, i + n}, api.Tri{i + 1, i + n + 1, i + n})
		}
	}
	want.Points = data.Points
	slices.SortFunc(want.Tris, triOrder)
	m := opened(t, data)
	const all = (n - 1) * (n - 1)
	if l := Illegal(m); len(l) != all || l[0] != (api.Edge{0, n + 1}) || l[all-1] != (api.Edge{n*n - n - 2, n*n - 1}) {
		t.Errorf("P1902: %d illegal ones", len(l))
	}
	lawson(t, m, all-1, all-1, false, api.OK)
	listed(t, m, api.Edge{n*n - n - 2, n*n - 1})
	lawson(t, m, all, 1, true, api.OK)
	if got := m.Tell(); !alike(got, want) {
		t.Errorf("P1904: the lattice is another one")
	}
}

func TestManyFlips(t *testing.T) { // from the fan of one end of a curve to that of the other
	const n = 400
	var data, want api.Mesh
	for i := range n { // the greater the number, the farther to the left
		x := float64(n - i)
		data.Points = append(data.Points, at(x, x*x))
	}
	for i := range n - 2 {
		data.Tris = append(data.Tris, api.Tri{0, i + 2, i + 1})
		want.Tris = append(want.Tris, api.Tri{i, n - 1, i + 1})
	}
	want.Points = data.Points
	m := opened(t, data)
	const all = (n - 2) * (n - 3) / 2 // of the n(n - 1)/2 that P1904 allows
	lawson(t, m, all-1, all-1, false, api.OK)
	lawson(t, m, math.MaxInt, 1, true, api.OK)
	slices.SortFunc(want.Tris, triOrder)
	stands(t, "P1904: the other fan", m, want)
}

func TestAHub(t *testing.T) { // many edges at one site, fixed and not
	const n = 1000
	var data api.Mesh
	for i := range n {
		x := float64(i - n/2)
		data.Points = append(data.Points, at(x, x*x))
	}
	data.Points = append(data.Points, at(0, 4*n*n))
	for i := range n - 1 {
		data.Tris = append(data.Tris, api.Tri{i, i + 1, n})
	}
	loose := opened(t, data)
	flips, done, errno := Lawson(loose, math.MaxInt)
	if !done || errno != api.OK || flips < n/2 || len(Illegal(loose)) > 0 {
		t.Errorf("P1903: %d flips, %v, error %d", flips, done, errno)
	}
	for i := range n {
		data.Fixed = append(data.Fixed, api.Edge{i, n})
	}
	lawson(t, opened(t, data), math.MaxInt, 0, true, api.OK)
	data.Fixed = slices.Delete(data.Fixed, 100, 101)
	m := opened(t, data)
	listed(t, m, api.Edge{100, n})
	lawson(t, m, math.MaxInt, 1, true, api.OK)
	asked(t, m, 99, 101, true, api.OK)
}
