package delaunay

import "plumb/api"

// side is a triangle's, which lies on its left.
type side struct{ from, to int }

func (s side) back() side { return side{s.to, s.from} }

// tri is a triangle, counterclockwise. When it is gone, the triangles from first on, up to end, came in its place.
type tri struct {
	corners    [3]int
	first, end int
}

func (t tri) isGone() bool { return t.end > 0 }

func (t tri) sides() [3]side {
	c := t.corners
	return [3]side{{c[0], c[1]}, {c[1], c[2]}, {c[2], c[0]}}
}

// beside is the corner that is no end of a side.
func (t tri) beside(s side) int {
	return t.corners[0] + t.corners[1] + t.corners[2] - s.from - s.to
}

// told is a triangle with its least corner first.
func (t tri) told() api.Tri {
	a, b, c := t.corners[0], t.corners[1], t.corners[2]
	for min(b, c) < a {
		a, b, c = b, c, a
	}
	return api.Tri{a, b, c}
}
