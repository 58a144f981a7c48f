package delaunay

import (
	"math/rand/v2"
	"slices"
	"testing"

	"plumb/api"
	"plumb/orient"
)

func bend(points []api.Point, a, b, c int) int {
	v, _ := orient.Sign(points[a], points[b], points[c])
	return v.Sign
}

func aliveOf(m api.Mesh) []int {
	var l []int
	for id := range m.Points {
		if !slices.Contains(m.Gone, id) {
			l = append(l, id)
		}
	}
	return l
}

// pairs are all two of some numbers, the lesser one first.
func pairs(l []int) []api.Edge {
	var all []api.Edge
	for i, a := range l {
		for _, b := range l[i+1:] {
			all = append(all, api.Edge{a, b})
		}
	}
	return all
}

// isLess is the order of points.
func isLess(p, q api.Point) bool {
	if p.X != q.X {
		return value(p.X) < value(q.X)
	}
	return value(p.Y) < value(q.Y)
}

// isWithin tells whether c lies on the segment of two others, and not at an end.
func isWithin(points []api.Point, e api.Edge, c int) bool {
	a, b := e[0], e[1]
	return c != a && c != b && bend(points, a, b, c) == 0 && isLess(points[a], points[c]) == isLess(points[c], points[b])
}

// isFree tells whether a new edge would neither cross one that is there nor have a site in it.
func isFree(m api.Mesh, edges []api.Edge, e api.Edge) bool {
	p := m.Points
	if slices.ContainsFunc(aliveOf(m), func(c int) bool { return isWithin(p, e, c) }) {
		return false
	}
	return !slices.ContainsFunc(edges, func(f api.Edge) bool {
		return bend(p, e[0], e[1], f[0])*bend(p, e[0], e[1], f[1]) < 0 && bend(p, f[0], f[1], e[0])*bend(p, f[0], f[1], e[1]) < 0
	})
}

// laid are the data with the triangles of a triangulation that hangs on chance, some of its edges fixed.
func laid(r *rand.Rand, m api.Mesh) api.Mesh {
	var edges []api.Edge
	all := pairs(aliveOf(m))
	r.Shuffle(len(all), func(i, k int) { all[i], all[k] = all[k], all[i] })
	for _, e := range all { // as many edges as can be, without regard to what comes of it
		if isFree(m, edges, e) {
			edges = append(edges, e)
		}
	}
	slices.SortFunc(edges, edgesRise)
	m.Tris, m.Fixed = nil, nil
	for _, e := range edges {
		if r.IntN(5) == 0 {
			m.Fixed = append(m.Fixed, e)
		}
		for c := range len(m.Points) - e[1] {
			if c += e[1]; slices.Contains(edges, api.Edge{e[0], c}) && slices.Contains(edges, api.Edge{e[1], c}) {
				m.Tris = append(m.Tris, emptyTri(m, e[0], e[1], c)...)
			}
		}
	}
	slices.SortFunc(m.Tris, trisRise)
	return m
}

// emptyTri is the triangle of three sites, if it is one, and none lies within.
func emptyTri(m api.Mesh, a, b, c int) []api.Tri {
	p := m.Points
	if bend(p, a, b, c) < 0 {
		b, c = c, b
	}
	if bend(p, a, b, c) == 0 || slices.ContainsFunc(aliveOf(m), func(d int) bool { return bend(p, a, b, d) > 0 && bend(p, b, c, d) > 0 && bend(p, c, a, d) > 0 }) {
		return nil
	}
	return []api.Tri{told(a, b, c)}
}

// coordinates are lists from which points are drawn: close together, so that many lie on one circle or one line, and some not tame.
func coordinates() [][]float64 {
	return [][]float64{
		{0, 1, 2, 3},
		{-1, 0, 1},
		{0, 1, 2, 3, 4, 5, 6, 7, 8, 9, 10, 11, 12},
		{0.1, 0.2, 0.3, 0.4, 0.5, 0.6, 0.7},
		{-tiny, 0, tiny, 2 * tiny, 3 * tiny},
		{-top, -1, -tiny, 0, tiny, 1, top},
		{1, 1 + 0x1p-52, 1 + 0x1p-51, 2, 3, 0x1p200, -0x1p-200},
	}
}

// drawn are n points, of which those that have the place of another one, and some more, are gone.
func drawn(r *rand.Rand, from []float64, n int) api.Mesh {
	var m api.Mesh
	alive := map[api.Point]bool{}
	for id := range n {
		p := at(some(r, from), some(r, from))
		if alive[p] || r.IntN(8) == 0 {
			m.Gone = append(m.Gone, id)
		} else {
			alive[p] = true
		}
		m.Points = append(m.Points, p)
	}
	return m
}

// distinct are the places of those that are alive.
func distinct(m api.Mesh) []api.Point {
	var l []api.Point
	for _, id := range aliveOf(m) {
		l = append(l, m.Points[id])
	}
	return l
}

// samples calls f with many meshes, and with coordinates about the sites.
func samples(seed uint64, rounds int, f func(r *rand.Rand, data api.Mesh, from []float64)) {
	r := seeded(seed)
	for _, from := range coordinates() {
		for i := range rounds {
			f(r, laid(r, drawn(r, from, i%19)), from)
		}
	}
}

// sets calls f with many lists of places, each one of which comes once.
func sets(t testing.TB, seed uint64, rounds int, f func(r *rand.Rand, points []api.Point)) {
	r := seeded(seed)
	for _, from := range coordinates() {
		for i := range rounds {
			f(r, distinct(drawn(r, from, i%25)))
			if t.Failed() {
				return
			}
		}
	}
}
