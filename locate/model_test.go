package locate

import (
	"math/big"
	"slices"

	"plumb/api"
)

// The functions here go by the document's words over data alone.

func leastFirst(a, b, c int) api.Tri {
	for min(b, c) < a {
		a, b, c = b, c, a
	}
	return api.Tri{a, b, c}
}

func orderOf(m api.Mesh) []int {
	l := aliveOf(m)
	slices.SortFunc(l, func(a, b int) int { return before(m.Points[a], m.Points[b]) })
	return l
}

func aliveOf(m api.Mesh) []int {
	var l []int
	for id := range m.Points {
		if !slices.Contains(m.Gone, id) {
			l = append(l, id)
		}
	}
	return l
}

func edgesOf(m api.Mesh) []api.Edge {
	var l []api.Edge
	for _, x := range m.Tris {
		for i := range 3 {
			a, b := x[i], x[(i+1)%3]
			l = append(l, api.Edge{min(a, b), max(a, b)})
		}
	}
	if order := orderOf(m); len(m.Tris) == 0 {
		for i := range len(order) - 1 {
			l = append(l, api.Edge{min(order[i], order[i+1]), max(order[i], order[i+1])})
		}
	}
	slices.SortFunc(l, func(a, b api.Edge) int { return slices.Compare(a[:], b[:]) })
	return slices.Compact(l)
}

// placesOf are all sites at a point; where there is none, all edges on which it lies; else all triangles; else the outside.
func placesOf(m api.Mesh, p api.Point) []api.Place {
	var l []api.Place
	for _, id := range aliveOf(m) {
		if before(m.Points[id], p) == 0 {
			l = append(l, site(id))
		}
	}
	for _, e := range edgesOf(m) {
		if len(l) == 0 && within(m.Points[e[0]], p, m.Points[e[1]]) {
			l = append(l, edge(e[0], e[1]))
		}
	}
	for _, x := range m.Tris {
		a, b, c := m.Points[x[0]], m.Points[x[1]], m.Points[x[2]]
		if len(l) == 0 && bend(a, b, p) > 0 && bend(b, c, p) > 0 && bend(c, a, p) > 0 {
			l = append(l, triangle(x[0], x[1], x[2]))
		}
	}
	if len(l) == 0 {
		l = append(l, api.Place{})
	}
	return l
}

// beyondOf is the triangle with a directed side.
func beyondOf(m api.Mesh, a, b int) (api.Tri, bool) {
	for _, x := range m.Tris {
		for i := range 3 {
			if x[i] == a && x[(i+1)%3] == b {
				return x, true
			}
		}
	}
	return api.Tri{}, false
}

// walkOf is Walk, of a point that is one.
func walkOf(m api.Mesh, from api.Tri, p api.Point) (api.Place, []api.Tri, api.Errno) {
	if !slices.Contains(m.Tris, from) {
		return api.Place{}, nil, api.ErrTri
	}
	been := []api.Tri{from}
	for {
		x := been[len(been)-1]
		i := slices.IndexFunc([]int{0, 1, 2}, func(i int) bool { return bend(m.Points[x[i]], m.Points[x[(i+1)%3]], p) < 0 })
		if i < 0 {
			return placesOf(m, p)[0], been, api.OK
		}
		next, ok := beyondOf(m, x[(i+1)%3], x[i])
		if !ok {
			return api.Place{}, been, api.OK
		}
		if slices.Contains(been, next) {
			return api.Place{}, nil, api.ErrWalk
		}
		been = append(been, next)
	}
}

// met is what a segment comes to, and at which part of it.
type met struct {
	place api.Place
	part  *big.Rat
}

// pierceOf is Pierce.
func pierceOf(m api.Mesh, a, b int) ([]api.Place, api.Errno) {
	alive := aliveOf(m)
	switch {
	case !slices.Contains(alive, a) || !slices.Contains(alive, b):
		return nil, api.ErrSite
	case a == b:
		return nil, api.ErrEdge
	}
	p, q := m.Points[a], m.Points[b]
	var l []met
	for _, id := range alive {
		if c := m.Points[id]; within(p, c, q) {
			l = append(l, met{site(id), partTo(p, c, q)})
		}
	}
	for _, e := range edgesOf(m) {
		c, d := m.Points[e[0]], m.Points[e[1]]
		if bend(p, q, c)*bend(p, q, d) < 0 && bend(c, d, p)*bend(c, d, q) < 0 {
			from, to := twice(c, d, p), twice(c, d, q)
			l = append(l, met{edge(e[0], e[1]), new(big.Rat).SetFrac(from, new(big.Int).Sub(from, to))})
		}
	}
	slices.SortFunc(l, func(x, y met) int { return x.part.Cmp(y.part) })
	var places []api.Place
	for _, x := range l {
		places = append(places, x.place)
	}
	return places, api.OK
}

// partTo is the part of the way from p to q at which c lies.
func partTo(p, c, q api.Point) *big.Rat {
	if less(q.X, p.X).Sign() != 0 {
		return new(big.Rat).SetFrac(less(c.X, p.X), less(q.X, p.X))
	}
	return new(big.Rat).SetFrac(less(c.Y, p.Y), less(q.Y, p.Y))
}
