package locate

import (
	"slices"
	"testing"

	"plumb/api"
)

func TestALattice(t *testing.T) {
	const n = 250
	m := opened(t, lattice(n))
	for i := range n - 1 { // each square of a diagonal, from the least site on
		x := float64(i)
		a := i + i*n
		inned(t, m, at(x+0.5, x+0.25), triangle(a, a+1, a+n+1), api.OK)
		inned(t, m, at(x+0.5, float64(n-2-i)+0.5), edge(i+(n-2-i)*n, i+1+(n-1-i)*n), api.OK)
	}
	last := n*n - 1
	got, been, e := Walk(m, api.Tri{0, 1, n + 1}, at(n-1, n-1))
	if got != site(last) || e != api.OK || len(been) != 2*n-3 {
		t.Errorf("P1803: along the diagonal: %v, %d triangles, error %d", got, len(been), e)
	}
	var want []api.Place
	for i := range n - 2 {
		want = append(want, site((i+1)*(n+1)))
	}
	pierced(t, m, 0, last, want, api.OK)
	slices.Reverse(want)
	pierced(t, m, last, 0, want, api.OK)
	l, e := Pierce(m, n-1, n*n-n)
	if len(l) != 2*n-3 || e != api.OK {
		t.Errorf("P1805: across the diagonals: %d, error %d", len(l), e)
	}
}

func TestALongLine(t *testing.T) {
	const n = api.MaxSites
	var data api.Mesh
	for i := range n {
		data.Points = append(data.Points, at(float64(i), float64(3*i)))
	}
	m := opened(t, data)
	inned(t, m, at(n-1.5, 3*(n-1.5)), edge(n-2, n-1), api.OK)
	inned(t, m, at(n, 3*n), api.Place{}, api.OK)
	inned(t, m, at(n-1, 3*(n-1)), site(n-1), api.OK)
	l, e := Pierce(m, n-1, 0)
	if len(l) != n-2 || e != api.OK || l[0] != site(n-2) || l[n-3] != site(1) {
		t.Errorf("P1805: along the line: %d, error %d", len(l), e)
	}
}

// bowl are as many sites as there may be, all on the border but the last one, to which all others have an edge.
func bowl() api.Mesh {
	const n = api.MaxSites - 1
	var m api.Mesh
	for i := range n {
		x := float64(i - n/2)
		m.Points = append(m.Points, at(x, x*x))
	}
	m.Points = append(m.Points, at(0, 1<<20))
	m.Tris = append(m.Tris, api.Tri{0, 1, n}, api.Tri{0, n, n - 1})
	for i := range n - 2 {
		m.Tris = append(m.Tris, api.Tri{i + 1, i + 2, n})
	}
	return m
}

func TestABowl(t *testing.T) {
	data := bowl()
	n := len(data.Points) - 1
	m := opened(t, data)
	for _, id := range []int{0, 1, n / 2, n/2 + 1, n - 2, n - 1, n} {
		inned(t, m, data.Points[id], site(id), api.OK)
	}
	inned(t, m, at(0, 1), edge(n/2, n), api.OK)
	inned(t, m, at(0x1p-20, 1), triangle(n/2, n/2+1, n), api.OK)
	inned(t, m, at(0, -tiny), api.Place{}, api.OK)
	l, e := Pierce(m, 1, n-2) // behind the hub, through the triangle of the ends
	if want := []api.Place{edge(0, n), edge(n-1, n)}; e != api.OK || !slices.Equal(l, want) {
		t.Errorf("P1805: behind the hub: %d, error %d", len(l), e)
	}
	l, e = Pierce(m, n/2-700, n/2+700) // ahead of it, across the spokes between
	if e != api.OK || len(l) != 1399 || l[0] != edge(n/2-699, n) || l[1398] != edge(n/2+699, n) {
		t.Errorf("P1805: ahead of the hub: %d, error %d", len(l), e)
	}
	got, been, e := Walk(m, api.Tri{0, 1, n}, at(0x1p-20, 1))
	if got != triangle(n/2, n/2+1, n) || e != api.OK || len(been) < 3 {
		t.Errorf("P1803: about the hub: %v, %d triangles, error %d", got, len(been), e)
	}
}

func TestLongWalksWhereAllIsLegal(t *testing.T) {
	r := seeded(10)
	for range 4 {
		var points []api.Point
		seen := map[api.Point]int{}
		for range 1500 {
			p := at(float64(r.IntN(400)), float64(r.IntN(400)))
			if seen[p]++; seen[p] == 1 {
				points = append(points, p)
			}
		}
		m := legal(t, made(points))
		data := m.Tell()
		for range 300 {
			p := at(float64(r.IntN(4200))/10-10, float64(r.IntN(4200))/10-10)
			place, e := In(m, p)
			got, been, walkError := Walk(m, some(r, data.Tris), p)
			if e != api.OK || walkError != api.OK || got != place {
				t.Fatalf("P1804: %v, error %d; In has %v, error %d", got, walkError, place, e)
			}
			slices.SortFunc(been, func(a, b api.Tri) int { return slices.Compare(a[:], b[:]) })
			if all := len(been); len(slices.Compact(been)) != all {
				t.Fatalf("P1803: in a triangle twice: %v", been)
			}
		}
	}
}
