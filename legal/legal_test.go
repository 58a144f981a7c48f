package legal

import (
	"math"
	"math/rand/v2"
	"testing"

	"plumb/api"
	"plumb/mesh"
)

func TestExamples(t *testing.T) {
	for _, by := range []float64{1, tiny, 0x1p-200, 0x1p148, 0x1p1020} {
		data := kiteMesh(by)
		m := opened(t, data)
		asked(t, m, 1, 3, true, api.OK)
		listed(t, m)
		lawson(t, m, 9, 0, true, api.OK)
		m.Flip(1, 3)
		asked(t, m, 0, 2, false, api.OK)
		asked(t, m, 1, 3, false, api.ErrEdge)
		listed(t, m, api.Edge{0, 2})
		lawson(t, m, 0, 0, false, api.OK)
		listed(t, m, api.Edge{0, 2})
		lawson(t, m, 9, 1, true, api.OK)
		stands(t, "P1903: flipped back", m, data)
	}
}

func TestASquareInEveryOrder(t *testing.T) { // four on a circle: the least point is cut off, whatever its number is
	square := squareMesh()
	for n := range 256 {
		to := [4]int{n & 3, n >> 2 & 3, n >> 4 & 3, n >> 6}
		data := api.Mesh{Points: make([]api.Point, 4)}
		seen := map[int]bool{}
		for i, id := range to {
			data.Points[id] = square.Points[i]
			seen[id] = true
		}
		if len(seen) < 4 {
			continue
		}
		for _, x := range square.Tris {
			data.Tris = append(data.Tris, told(to[x[0]], to[x[1]], to[x[2]]))
		}
		if triOrder(data.Tris[0], data.Tris[1]) > 0 {
			data.Tris[0], data.Tris[1] = data.Tris[1], data.Tris[0]
		}
		m := opened(t, data)
		asked(t, m, to[0], to[2], false, api.OK)
		listed(t, m, pair(to[0], to[2]))
		lawson(t, m, 1, 1, true, api.OK)
		asked(t, m, to[1], to[3], true, api.OK)
		asked(t, m, to[0], to[2], false, api.ErrEdge)
		listed(t, m)
	}
}

func TestNextToACircle(t *testing.T) { // one step of one coordinate tells
	up, down := math.Nextafter(2, 3), math.Nextafter(2, 1)
	for _, x := range []struct {
		p     api.Point
		legal bool // the edge 1 3, with site 2 there
	}{
		{at(2, 2), true}, {at(up, 2), true}, {at(2, up), true}, {at(up, up), true},
		{at(down, 2), false}, {at(2, down), false}, {at(down, down), false}, {at(down, up), true}, {at(up, down), true},
	} {
		data := squareMesh()
		data.Points[2] = x.p
		data.Tris = []api.Tri{{0, 1, 3}, {1, 2, 3}}
		m := opened(t, data)
		asked(t, m, 1, 3, x.legal, api.OK)
		m.Flip(1, 3)
		asked(t, m, 0, 2, !x.legal, api.OK)
	}
}

func TestWhatIsLegalAtAnyRate(t *testing.T) {
	data := kiteMesh(1)
	data.Tris = []api.Tri{{0, 1, 2}, {0, 2, 3}}
	m := opened(t, data)
	asked(t, m, 0, 2, false, api.OK)
	for _, e := range []api.Edge{{0, 1}, {1, 2}, {2, 3}, {0, 3}} { // on the border
		asked(t, m, e[0], e[1], true, api.OK)
	}
	m.Fix(0, 2, true)
	asked(t, m, 0, 2, true, api.OK)
	listed(t, m)
	lawson(t, m, 9, 0, true, api.OK)
	m.Fix(2, 0, false)
	asked(t, m, 0, 2, false, api.OK)
	line := opened(t, api.Mesh{Points: []api.Point{at(4, 2), at(-2, -1), at(6, 3), at(0, 0), at(100, 50)}, Gone: []int{3}})
	for _, e := range []api.Edge{{0, 1}, {0, 2}, {2, 4}} {
		asked(t, line, e[0], e[1], true, api.OK)
	}
	for _, e := range []api.Edge{{1, 2}, {0, 4}, {1, 4}, {0, 3}, {3, 3}, {0, 0}} {
		asked(t, line, e[0], e[1], false, api.ErrEdge)
	}
	listed(t, line)
	lawson(t, line, 9, 0, true, api.OK)
}

func TestWhatIsNoEdge(t *testing.T) {
	m := opened(t, squareMesh())
	strange := []int{-1, -2, 4, 5, api.MaxSites, math.MinInt, math.MaxInt}
	for _, a := range strange {
		for _, b := range append(strange, 0, 1, 2, 3) {
			asked(t, m, a, b, false, api.ErrEdge)
		}
	}
	for id := range 4 {
		asked(t, m, id, id, false, api.ErrEdge)
	}
	asked(t, m, 1, 3, false, api.ErrEdge)
	stands(t, "P1905: asked alone", m, squareMesh())
}

func TestFewSites(t *testing.T) {
	gone := api.Mesh{Points: squareMesh().Points, Gone: []int{0, 1, 2, 3}}
	one := api.Mesh{Points: squareMesh().Points, Gone: []int{0, 1, 3}}
	for _, m := range []*mesh.Mesh{nil, {}, opened(t, api.Mesh{}), opened(t, gone), opened(t, one)} {
		asked(t, m, 0, 1, false, api.ErrEdge)
		asked(t, m, 2, 2, false, api.ErrEdge)
		listed(t, m)
		lawson(t, m, 0, 0, true, api.OK)
		lawson(t, m, math.MaxInt, 0, true, api.OK)
		lawson(t, m, -1, 0, false, api.ErrArg)
	}
	two := opened(t, api.Mesh{Points: squareMesh().Points, Gone: []int{0, 3}})
	asked(t, two, 1, 2, true, api.OK)
	lawson(t, two, 0, 0, true, api.OK)
}

func TestEveryPair(t *testing.T) {
	seen := map[api.Errno]int{}
	illegal, held := 0, 0
	samples(1, 69, func(_ *rand.Rand, data api.Mesh) {
		m := opened(t, data)
		for a := range len(data.Points) + 2 {
			for b := range a + 1 {
				want, wantError := legalOf(data, a-1, b-1)
				asked(t, m, a-1, b-1, want, wantError)
				seen[wantError]++
			}
		}
		l := illegalOf(data)
		listed(t, m, l...)
		illegal += len(l)
		data.Fixed = nil
		held += len(illegalOf(data)) - len(l) // those that are legal as they are fixed
		if t.Failed() {
			t.Fatalf("in %v", data)
		}
	})
	if seen[api.OK] < 1000 || seen[api.ErrEdge] < 1000 || illegal < 500 || held < 100 {
		t.Errorf("P1901, P1902: %v, %d illegal ones, %d held by fixing: too few to tell", seen, illegal, held)
	}
}
