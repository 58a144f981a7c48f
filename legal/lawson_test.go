package legal

import (
	"math"
	"math/rand/v2"
	"slices"
	"testing"

	"plumb/api"
)

func TestLawsonIsRefused(t *testing.T) {
	data := kiteMesh(1)
	data.Tris = []api.Tri{{0, 1, 2}, {0, 2, 3}}
	m := opened(t, data)
	for _, most := range []int{-1, -2, math.MinInt} {
		lawson(t, m, most, 0, false, api.ErrArg)
		stands(t, "P1903: refused", m, data)
	}
	lawson(t, m, math.MaxInt, 1, true, api.OK)
	lawson(t, m, -1, 0, false, api.ErrArg) // also where there is nothing to do
}

func TestEachFlip(t *testing.T) { // as many as asked for, the least one first, from the first mesh on and from each one between
	flips, longest := 0, 0
	samples(2, 69, func(_ *rand.Rand, data api.Mesh) {
		steps := stepsOf(data)
		last := len(steps) - 1
		longest = max(longest, last)
		flips += last
		inPieces := opened(t, data)
		for n, want := range steps {
			m := opened(t, data)
			lawson(t, m, n, n, n == last, api.OK)
			stands(t, "P1903: at once", m, want)
			stands(t, "P1903: one by one", inPieces, want)
			lawson(t, m, math.MaxInt, last-n, true, api.OK)
			stands(t, "P1903: in two pieces", m, steps[last])
			lawson(t, inPieces, 1, min(1, last-n), n >= last-1, api.OK)
		}
		for _, more := range []int{last + 1, last + 2, 2*last + 9, math.MaxInt} {
			m := opened(t, data)
			lawson(t, m, more, last, true, api.OK)
			stands(t, "P1903: as many as it takes", m, steps[last])
		}
		if t.Failed() {
			t.Fatalf("in %v", data)
		}
	})
	if flips < 1000 || longest < 12 {
		t.Errorf("P1903: %d flips, %d in one: too few to tell", flips, longest)
	}
}

func TestFlipTakesEveryIllegalEdge(t *testing.T) {
	samples(3, 69, func(_ *rand.Rand, data api.Mesh) {
		for _, e := range illegalOf(data) {
			m := opened(t, data)
			if errno := m.Flip(e[0], e[1]); errno != api.OK {
				t.Errorf("P1904: Flip(%v): error %d; in %v", e, errno, data)
			}
			a, b := thirdOf(data, e[0], e[1]), thirdOf(data, e[1], e[0])
			asked(t, m, a, b, true, api.OK)
		}
	})
}

func TestNoEdgeComesAgain(t *testing.T) {
	samples(4, 46, func(_ *rand.Rand, data api.Mesh) {
		m := opened(t, data)
		away := map[api.Edge]bool{}
		n := len(aliveOf(data))
		flips := 0
		for done := false; !done; flips++ {
			before := m.Edges()
			_, done, _ = Lawson(m, 1)
			after := m.Edges()
			for _, e := range before {
				away[e] = away[e] || !slices.Contains(after, e)
			}
			if i := slices.IndexFunc(after, func(e api.Edge) bool { return away[e] }); i >= 0 {
				t.Fatalf("P1904: %v comes again; in %v", after[i], data)
			}
		}
		if flips > max(1, n*(n-1)/2) {
			t.Errorf("P1904: %d flips of %d sites", flips, n)
		}
	})
}

func TestTheOne(t *testing.T) { // whatever it began with
	others := 0
	samples(5, 46, func(r *rand.Rand, data api.Mesh) {
		m := opened(t, data)
		Lawson(m, math.MaxInt)
		want := m.Tell()
		listed(t, m)
		if len(data.Fixed) == 0 && !slices.Equal(want.Tris, oneOf(data)) {
			t.Fatalf("P1904: %v; the triangles without a site within their circles are %v", want, oneOf(data))
		}
		for range 4 {
			other := laid(r, data, data.Fixed)
			if !slices.Equal(other.Tris, data.Tris) {
				others++
			}
			m := opened(t, other)
			Lawson(m, math.MaxInt)
			if got := m.Tell(); !alike(got, want) {
				t.Fatalf("P1904: from %v to %v; from %v to %v", data.Tris, want, other.Tris, got)
			}
		}
	})
	if others < 200 {
		t.Errorf("P1904: %d other meshes: too few to tell", others)
	}
}

func TestTheOneByPlaces(t *testing.T) { // with other numbers the same triangles
	samples(6, 46, func(r *rand.Rand, data api.Mesh) {
		to := r.Perm(len(data.Points))
		other := renumbered(data, to)
		m, o := opened(t, data), opened(t, other)
		Lawson(m, math.MaxInt)
		Lawson(o, math.MaxInt)
		stands(t, "P1904: with other numbers", o, renumbered(m.Tell(), to))
	})
}

// renumbered are the data with other numbers.
func renumbered(m api.Mesh, to []int) api.Mesh {
	o := api.Mesh{Points: make([]api.Point, len(m.Points))}
	for id, p := range m.Points {
		o.Points[to[id]] = p
	}
	for _, id := range m.Gone {
		o.Gone = append(o.Gone, to[id])
	}
	for _, e := range m.Fixed {
		o.Fixed = append(o.Fixed, pair(to[e[0]], to[e[1]]))
	}
	for _, x := range m.Tris {
		o.Tris = append(o.Tris, told(to[x[0]], to[x[1]], to[x[2]]))
	}
	slices.Sort(o.Gone)
	slices.SortFunc(o.Fixed, edgeOrder)
	slices.SortFunc(o.Tris, triOrder)
	return o
}
