package delaunay

import (
	"math/big"
	"slices"

	"plumb/api"
	"plumb/tie"
)

// The functions here go by the document's words over data alone.

// sideOf is the rule for ties of four sites.
func sideOf(points []api.Point, a, b, c, d int) int {
	v, _ := tie.Side(points[a], points[b], points[c], points[d])
	return v.Sign
}

// isOfTheOne tells whether three sites turn left and Side is -1 for every other alive one.
func isOfTheOne(points []api.Point, alive []int, a, b, c int) bool {
	return bend(points, a, b, c) > 0 && !slices.ContainsFunc(alive, func(d int) bool {
		return d != a && d != b && d != c && sideOf(points, a, b, c, d) != -1
	})
}

// delaunayOf are the triangles of the alive sites, by all three of them.
func delaunayOf(m api.Mesh) []api.Tri {
	var l []api.Tri
	alive := aliveOf(m)
	for i, a := range alive {
		for _, b := range alive[i+1:] {
			for _, c := range alive[i+1:] {
				if isOfTheOne(m.Points, alive, a, b, c) {
					l = append(l, api.Tri{a, b, c})
				}
			}
		}
	}
	return l
}

// units is the value of bits in units of 2^-1074, read from the bits: no float is looked at.
func units(b int) *big.Int {
	mag, exp := b&(1<<52-1), b>>52&0x7FF
	if exp > 0 {
		mag |= 1 << 52
		exp--
	}
	n := new(big.Int).Lsh(big.NewInt(int64(mag)), uint(exp))
	if b < 0 {
		n.Neg(n)
	}
	return n
}

// squareOf is the square of a distance, in units of 2^-2148.
func squareOf(p, q api.Point) *big.Int {
	x, y := new(big.Int).Sub(units(p.X), units(q.X)), new(big.Int).Sub(units(p.Y), units(q.Y))
	return x.Add(x.Mul(x, x), y.Mul(y, y))
}

// wholeOf is an exact number in the same units.
func wholeOf(x api.Num) *big.Int {
	n := new(big.Int)
	for _, d := range slices.Backward(x.Mag) {
		n.Add(n.Lsh(n, 30), big.NewInt(int64(d)))
	}
	if x.Neg {
		n.Neg(n)
	}
	return n.Lsh(n, uint(x.Exp+2148))
}

type length struct {
	edge   api.Edge
	square *big.Int
}

// lengths are all pairs of alive sites, the nearest ones first, those of one distance by an order of edges.
func lengths(m api.Mesh, order func(a, b api.Edge) int) []length {
	var l []length
	for _, e := range pairs(aliveOf(m)) {
		l = append(l, length{e, squareOf(m.Points[e[0]], m.Points[e[1]])})
	}
	slices.SortFunc(l, func(a, b length) int {
		if c := a.square.Cmp(b.square); c != 0 {
			return c
		}
		return order(a.edge, b.edge)
	})
	return l
}

// treeBy is the least spanning tree that takes the edges of one length by an order of edges, and the sum of its squares.
func treeBy(m api.Mesh, order func(a, b api.Edge) int) ([]api.Edge, *big.Int) {
	part := make([]int, len(m.Points))
	for id := range part {
		part[id] = id
	}
	var tree []api.Edge
	sum := new(big.Int)
	for _, l := range lengths(m, order) {
		a, b := part[l.edge[0]], part[l.edge[1]]
		if a == b {
			continue
		}
		for id := range part {
			if part[id] == a {
				part[id] = b
			}
		}
		tree = append(tree, l.edge)
		sum.Add(sum, l.square)
	}
	slices.SortFunc(tree, edgesRise)
	return tree, sum
}

// edgesOf are the triangles' sides; where there is none, from each alive site to the next one on the line.
func edgesOf(m api.Mesh) []api.Edge {
	var l []api.Edge
	for _, x := range m.Tris {
		l = append(l, pair(x[0], x[1]), pair(x[1], x[2]), pair(x[2], x[0]))
	}
	if len(m.Tris) == 0 {
		alive := aliveOf(m)
		slices.SortFunc(alive, func(a, b int) int {
			if isLess(m.Points[a], m.Points[b]) {
				return -1
			}
			return 1
		})
		for i := range max(0, len(alive)-1) {
			l = append(l, pair(alive[i], alive[i+1]))
		}
	}
	slices.SortFunc(l, edgesRise)
	return slices.Compact(l)
}

// firsts are the data of points as sites with their numbers in the list, of which those of one place with an earlier one don't count.
func firsts(points []api.Point) api.Mesh {
	var m api.Mesh
	for i, p := range points {
		if p.X == minus0 {
			p.X = 0
		}
		if p.Y == minus0 {
			p.Y = 0
		}
		if slices.Contains(m.Points, p) {
			m.Gone = append(m.Gone, i)
		}
		m.Points = append(m.Points, p)
	}
	return m
}
