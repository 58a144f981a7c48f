package locate

import (
	"math"
	"math/rand/v2"
	"slices"
	"testing"

	"plumb/api"
)

func TestExamplesOfPierce(t *testing.T) {
	m := opened(t, squareMesh())
	pierced(t, m, 1, 3, []api.Place{edge(0, 2)}, api.OK)
	pierced(t, m, 3, 1, []api.Place{edge(0, 2)}, api.OK)
	pierced(t, m, 0, 1, nil, api.OK)
	pierced(t, m, 2, 0, nil, api.OK)
	pierced(t, m, 0, 0, nil, api.ErrEdge)
}

func TestPierceIsRefused(t *testing.T) {
	data := squareMesh()
	data.Points, data.Gone = append(data.Points, at(1, 1)), []int{4}
	m := opened(t, data)
	for _, no := range []int{-1, 4, 5, math.MinInt, math.MaxInt, 1 << 32} {
		for _, other := range []int{0, 3, no, -1} { // also of the same number twice: that there is no site comes first
			pierced(t, m, no, other, nil, api.ErrSite)
			pierced(t, m, other, no, nil, api.ErrSite)
		}
	}
	for id := range 4 {
		pierced(t, m, id, id, nil, api.ErrEdge)
	}
	pierced(t, m, 1, 3, []api.Place{edge(0, 2)}, api.OK) // what is gone is no site on the way
}

func TestPierceOnALine(t *testing.T) {
	m := opened(t, lineMesh()) // in order: 1, 0, 2, 4
	pierced(t, m, 1, 4, []api.Place{site(0), site(2)}, api.OK)
	pierced(t, m, 4, 1, []api.Place{site(2), site(0)}, api.OK)
	pierced(t, m, 0, 4, []api.Place{site(2)}, api.OK)
	pierced(t, m, 0, 1, nil, api.OK)
	pierced(t, m, 1, 3, nil, api.ErrSite)
	pierced(t, m, 2, 2, nil, api.ErrEdge)
}

// lattice are n times n sites: the number is x + n y.
func lattice(n int) api.Mesh {
	var m api.Mesh
	for i := range n * n {
		m.Points = append(m.Points, at(float64(i%n), float64(i/n)))
	}
	for i := range n * n {
		if i%n < n-1 && i/n < n-1 {
			m.Tris = append(m.Tris, api.Tri{i, i + 1, i + n + 1}, api.Tri{i, i + n + 1, i + n})
		}
	}
	return m
}

func TestPierceByTurns(t *testing.T) { // sites and edges, one behind the other
	m := opened(t, lattice(5))
	pierced(t, m, 0, 4, []api.Place{site(1), site(2), site(3)}, api.OK) // along edges of the border
	pierced(t, m, 14, 10, []api.Place{site(13), site(12), site(11)}, api.OK)
	pierced(t, m, 0, 24, []api.Place{site(6), site(12), site(18)}, api.OK)
	pierced(t, m, 4, 20, []api.Place{edge(3, 9), site(8), edge(7, 13), site(12), edge(11, 17), site(16), edge(15, 21)}, api.OK) // across each diagonal
	pierced(t, m, 0, 22, []api.Place{edge(5, 6), site(11), edge(16, 17)}, api.OK)
	pierced(t, m, 22, 0, []api.Place{edge(16, 17), site(11), edge(5, 6)}, api.OK)
	pierced(t, m, 4, 12, []api.Place{edge(3, 9), site(8), edge(7, 13)}, api.OK)
	pierced(t, m, 20, 14, []api.Place{edge(15, 21), edge(16, 21), edge(16, 22), site(17), edge(12, 18), edge(13, 18), edge(13, 19)}, api.OK)
}

func TestPierces(t *testing.T) {
	var sites, edges, both int
	samples(t, 6, 60, func(_ *rand.Rand, data api.Mesh, _ []float64) {
		m := opened(t, data)
		for a := range len(data.Points) + 1 {
			for b := range len(data.Points) + 1 {
				want, wantError := pierceOf(data, a, b)
				pierced(t, m, a, b, want, wantError)
				n := 0
				for _, x := range want {
					if x.Kind == api.AtSite {
						n++
					}
				}
				sites += n
				edges += len(want) - n
				if n > 0 && n < len(want) {
					both++
				}
			}
		}
		if t.Failed() {
			t.Fatalf("in %v", data)
		}
	})
	if sites < 1000 || edges < 1000 || both < 100 {
		t.Errorf("P1805: %d sites, %d edges, %d with both: too few to tell", sites, edges, both)
	}
}

func TestThereAndBack(t *testing.T) { // the order turns with the way
	samples(t, 7, 30, func(_ *rand.Rand, data api.Mesh, _ []float64) {
		m := opened(t, data)
		for _, a := range aliveOf(data) {
			for _, b := range aliveOf(data) {
				there, _ := Pierce(m, a, b)
				back, _ := Pierce(m, b, a)
				slices.Reverse(back)
				if !slices.Equal(there, back) {
					t.Fatalf("P1805: from %d to %d %v; back %v", a, b, there, back)
				}
				if _, e := m.Fixed(a, b); e == api.OK && len(there) > 0 {
					t.Fatalf("P1805: on the edge %d %d: %v", a, b, there)
				}
			}
		}
	})
}
