package legal

import (
	"math"
	"slices"

	"plumb/api"
	"plumb/tie"
)

// The functions here go by the document's words over data alone.

// isLess is the order of points.
func isLess(p, q api.Point) bool {
	x, y := math.Float64frombits(uint64(p.X)), math.Float64frombits(uint64(q.X))
	if x != y {
		return x < y
	}
	return math.Float64frombits(uint64(p.Y)) < math.Float64frombits(uint64(q.Y))
}

func edgesOf(m api.Mesh) []api.Edge {
	var l []api.Edge
	for _, x := range m.Tris {
		for i := range 3 {
			l = append(l, pair(x[i], x[(i+1)%3]))
		}
	}
	if len(m.Tris) == 0 {
		order := aliveOf(m)
		slices.SortFunc(order, func(a, b int) int {
			if isLess(m.Points[a], m.Points[b]) {
				return -1
			}
			return 1
		})
		for i := range max(0, len(order)-1) {
			l = append(l, pair(order[i], order[i+1]))
		}
	}
	slices.SortFunc(l, edgeOrder)
	return slices.Compact(l)
}

func pair(a, b int) api.Edge { return api.Edge{min(a, b), max(a, b)} }

// thirdOf is the third corner of the triangle with a directed side; -1: there is none.
func thirdOf(m api.Mesh, a, b int) int {
	for _, x := range m.Tris {
		for i := range 3 {
			if x[i] == a && x[(i+1)%3] == b {
				return x[(i+2)%3]
			}
		}
	}
	return -1
}

// sideOf is the rule for ties of four sites.
func sideOf(m api.Mesh, a, b, c, d int) int {
	v, _ := tie.Side(m.Points[a], m.Points[b], m.Points[c], m.Points[d])
	return v.Sign
}

// legalOf is Legal.
func legalOf(m api.Mesh, a, b int) (bool, api.Errno) {
	c, d := thirdOf(m, a, b), thirdOf(m, b, a)
	switch {
	case !slices.Contains(edgesOf(m), pair(a, b)):
		return false, api.ErrEdge
	case slices.Contains(m.Fixed, pair(a, b)) || c < 0 || d < 0:
		return true, api.OK
	}
	return sideOf(m, a, b, c, d) != 1, api.OK
}

// illegalOf is Illegal.
func illegalOf(m api.Mesh) []api.Edge {
	return slices.DeleteFunc(edgesOf(m), func(e api.Edge) bool {
		legal, _ := legalOf(m, e[0], e[1])
		return legal
	})
}

// flipOf are the data behind a flip.
func flipOf(m api.Mesh, e api.Edge) api.Mesh {
	a, b := e[0], e[1]
	c, d := thirdOf(m, a, b), thirdOf(m, b, a)
	m.Tris = slices.DeleteFunc(slices.Clone(m.Tris), func(x api.Tri) bool { return x == told(a, b, c) || x == told(b, a, d) })
	m.Tris = append(m.Tris, told(c, a, d), told(d, b, c))
	slices.SortFunc(m.Tris, triOrder)
	return m
}

// stepsOf are the data ahead of each flip of a Lawson, and behind the last one.
func stepsOf(m api.Mesh) []api.Mesh {
	steps := []api.Mesh{m}
	for l := illegalOf(m); len(l) > 0; l = illegalOf(m) {
		m = flipOf(m, l[0])
		steps = append(steps, m)
	}
	return steps
}

// oneOf are the triangles of three sites that turn left within whose circle, by the rule for ties, there is no other site.
func oneOf(m api.Mesh) []api.Tri {
	var l []api.Tri
	alive := aliveOf(m)
	for _, e := range pairs(alive) {
		for _, c := range alive {
			isOther := func(d int) bool { return d != e[0] && d != e[1] && d != c }
			if c > e[0] && bend(m.Points, e[0], e[1], c) > 0 && !slices.ContainsFunc(alive, func(d int) bool { return isOther(d) && sideOf(m, e[0], e[1], c, d) != -1 }) {
				l = append(l, api.Tri{e[0], e[1], c})
			}
		}
	}
	slices.SortFunc(l, triOrder)
	return l
}
