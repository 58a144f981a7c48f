package delaunay

import (
	"slices"

	"plumb/api"
	"plumb/dyadic"
	"plumb/measure"
	"plumb/sites"
)

// reach is an edge with the square of its length.
type reach struct {
	edge   api.Edge
	square api.Num
}

// treeOf is the least spanning tree of a set's sites, rising, and the sum of its squares. All its edges are edges of the web: no other site lies in the circle around one, on it neither.
func treeOf(set *sites.Set) ([]api.Edge, api.Num) {
	joined := newParts(set.Given())
	var tree []api.Edge
	var squares []api.Num
	for _, r := range reaches(webOf(set)) {
		if joined.join(r.edge[0], r.edge[1]) {
			tree = append(tree, r.edge)
			squares = append(squares, r.square)
		}
	}
	slices.SortFunc(tree, edgeOrder)
	sum, _ := dyadic.Sum(squares) // of some 4,300 bits at most
	return tree, sum
}

// reaches are all edges, the shortest one first, those of one length rising.
func reaches(w *web) []reach {
	var l []reach
	for e := range w.edges() {
		square, _ := measure.Square(w.points[e[0]], w.points[e[1]])
		l = append(l, reach{e, square})
	}
	slices.SortFunc(l, func(a, b reach) int {
		if order, _ := dyadic.Cmp(a.square, b.square); order != 0 {
			return order
		}
		return edgeOrder(a.edge, b.edge)
	})
	return l
}

func edgeOrder(a, b api.Edge) int { return slices.Compare(a[:], b[:]) }

// parts are sites that hang together: each one leads to another one of its part, or to itself.
type parts []int

func newParts(n int) parts {
	p := make(parts, n)
	for id := range p {
		p[id] = id
	}
	return p
}

// head is the site of a part to which all others lead.
func (p parts) head(id int) int {
	for p[id] != id {
		p[id] = p[p[id]]
		id = p[id]
	}
	return id
}

// join makes the parts of two sites one; false: they are one already.
func (p parts) join(a, b int) bool {
	a, b = p.head(a), p.head(b)
	p[a] = b
	return a != b
}
