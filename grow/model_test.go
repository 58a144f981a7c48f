package grow

import (
	"math"
	"math/rand/v2"
	"slices"
	"testing"

	"plumb/api"
	"plumb/legal"
	"plumb/tie"
)

// The functions here go by the document's words over data alone; the one is made from another triangulation by Lawson's flips.

func edgesOf(m api.Mesh) []api.Edge {
	var l []api.Edge
	for _, x := range m.Tris {
		for i := range 3 {
			l = append(l, pair(x[i], x[(i+1)%3]))
		}
	}
	if len(m.Tris) == 0 {
		order := aliveOf(m)
		slices.SortFunc(order, func(a, b int) int {
			if isLess(m.Points[a], m.Points[b]) {
				return -1
			}
			return 1
		})
		for i := range max(0, len(order)-1) {
			l = append(l, pair(order[i], order[i+1]))
		}
	}
	slices.SortFunc(l, edgeOrder)
	return slices.Compact(l)
}

// sideOf is the rule for ties of four sites.
func sideOf(m api.Mesh, a, b, c, d int) int {
	v, _ := tie.Side(m.Points[a], m.Points[b], m.Points[c], m.Points[d])
	return v.Sign
}

// isLegal tells whether no edge is illegal.
func isLegal(m api.Mesh) bool {
	third := map[[2]int]int{}
	for _, x := range m.Tris {
		for i := range 3 {
			third[[2]int{x[i], x[(i+1)%3]}] = x[(i+2)%3]
		}
	}
	return !slices.ContainsFunc(edgesOf(m), func(e api.Edge) bool {
		c, left := third[[2]int{e[0], e[1]}]
		d, right := third[[2]int{e[1], e[0]}]
		return left && right && !slices.Contains(m.Fixed, e) && sideOf(m, e[0], e[1], c, d) == 1
	})
}

// theOne is the mesh of the data's sites and fixed edges of which all other edges are legal.
func theOne(t testing.TB, r *rand.Rand, m api.Mesh) api.Mesh {
	t.Helper()
	o := opened(t, laid(r, m))
	if _, done, errno := legal.Lawson(o, math.MaxInt); !done || errno != api.OK {
		t.Fatalf("Lawson of %v: %v, error %d", m, done, errno)
	}
	return o.Tell()
}

// delaunayOf are the triangles of three sites that turn left within whose circle, by the rule for ties, there is no other site.
func delaunayOf(m api.Mesh) []api.Tri {
	var l []api.Tri
	alive := aliveOf(m)
	for _, e := range pairs(alive) {
		for _, c := range alive {
			isOther := func(d int) bool { return d != e[0] && d != e[1] && d != c }
			if c > e[0] && bend(m.Points, e[0], e[1], c) > 0 && !slices.ContainsFunc(alive, func(d int) bool { return isOther(d) && sideOf(m, e[0], e[1], c, d) != -1 }) {
				l = append(l, api.Tri{e[0], e[1], c})
			}
		}
	}
	slices.SortFunc(l, triOrder)
	return l
}

func isNone(b int) bool { return b&api.Inf == api.Inf }

// normal are the bits with 0 for -0.
func normal(b int) int {
	if b == minus0 {
		return 0
	}
	return b
}

// pieces are the fixed edges when a site has come: those on which it lies are two each.
func pieces(points []api.Point, l []api.Edge, id int) []api.Edge {
	var all []api.Edge
	for _, e := range l {
		if isWithin(points, e, id) {
			all = append(all, pair(e[0], id), pair(e[1], id))
		} else {
			all = append(all, e)
		}
	}
	slices.SortFunc(all, edgeOrder)
	return all
}

// insertOf is Insert: the data behind it, and what is answered.
func insertOf(t testing.TB, r *rand.Rand, m api.Mesh, p api.Point) (api.Mesh, int, api.Errno) {
	p = api.Point{X: normal(p.X), Y: normal(p.Y)}
	if isNone(p.X) || isNone(p.Y) {
		return m, 0, api.ErrFinite
	}
	for _, id := range aliveOf(m) {
		if m.Points[id] == p {
			return m, id, api.ErrSame
		}
	}
	switch {
	case len(m.Points) >= api.MaxSites:
		return m, 0, api.ErrMany
	case !isLegal(m):
		return m, 0, api.ErrIllegal
	}
	id := len(m.Points)
	m.Points = append(slices.Clone(m.Points), p)
	m.Fixed = pieces(m.Points, m.Fixed, id)
	return theOne(t, r, m), id, api.OK
}

// removeOf is Remove.
func removeOf(t testing.TB, r *rand.Rand, m api.Mesh, id int) (api.Mesh, api.Errno) {
	switch {
	case !slices.Contains(aliveOf(m), id):
		return m, api.ErrSite
	case slices.ContainsFunc(m.Fixed, func(e api.Edge) bool { return e[0] == id || e[1] == id }):
		return m, api.ErrFixed
	case !isLegal(m):
		return m, api.ErrIllegal
	}
	m.Gone = append(slices.Clone(m.Gone), id)
	slices.Sort(m.Gone)
	return theOne(t, r, m), api.OK
}

// renumbered are the data with other numbers.
func renumbered(m api.Mesh, to []int) api.Mesh {
	o := api.Mesh{Points: make([]api.Point, len(m.Points))}
	for id, p := range m.Points {
		o.Points[to[id]] = p
	}
	for _, id := range m.Gone {
		o.Gone = append(o.Gone, to[id])
	}
	for _, e := range m.Fixed {
		o.Fixed = append(o.Fixed, pair(to[e[0]], to[e[1]]))
	}
	for _, x := range m.Tris {
		o.Tris = append(o.Tris, told(to[x[0]], to[x[1]], to[x[2]]))
	}
	slices.Sort(o.Gone)
	slices.SortFunc(o.Fixed, edgeOrder)
	slices.SortFunc(o.Tris, triOrder)
	return o
}
