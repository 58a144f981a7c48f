package locate

import (
	"plumb/api"
	"plumb/mesh"
	"plumb/orient"
)

// turn is the orientation of two sites and a point, which is finite.
func turn(m *mesh.Mesh, a, b int, p api.Point) int {
	from, _ := m.At(a)
	to, _ := m.At(b)
	v, _ := orient.Sign(from, to, p)
	return v.Sign
}

// told is a triangle with its least number first.
func told(a, b, c int) api.Tri {
	switch min(a, b, c) {
	case b:
		return api.Tri{b, c, a}
	case c:
		return api.Tri{c, a, b}
	}
	return api.Tri{a, b, c}
}

func isTri(m *mesh.Mesh, t api.Tri) bool {
	third, errno := m.Across(t[0], t[1])
	return errno == api.OK && third == t[2] && t[0] < min(t[1], t[2])
}

func atSite(id int) api.Place { return api.Place{Kind: api.AtSite, A: id} }

func onEdge(a, b int) api.Place { return api.Place{Kind: api.OnEdge, A: min(a, b), B: max(a, b)} }

func inTri(a, b, c int) api.Place {
	t := told(a, b, c)
	return api.Place{Kind: api.InTri, A: t[0], B: t[1], C: t[2]}
}

// placeIn is the place of a point that lies right of no side of a triangle.
func placeIn(m *mesh.Mesh, t api.Tri, p api.Point) api.Place {
	var on []side
	for i := range len(t) {
		if s := sideOf(t, i); turn(m, s.from, s.to, p) == 0 {
			on = append(on, s)
		}
	}
	switch {
	case len(on) == 0:
		return inTri(t[0], t[1], t[2])
	case len(on) == 1:
		return onEdge(on[0].from, on[0].to)
	case on[0].to == on[1].from:
		return atSite(on[0].to)
	}
	return atSite(on[0].from)
}

// side is an edge that is gone along, with a triangle on its left.
type side struct{ from, to int }

// sideOf is one of the sides A B, B C, C A of a triangle.
func sideOf(t api.Tri, i int) side { return side{t[i], t[(i+1)%len(t)]} }

// rim is what was visited, by its outline: the visited triangles' sides beyond which nothing was. A side that two of them have in common is none of these: so crossing a side of a visited triangle leads to another visited one just where it is not here.
type rim map[side]struct{}

func (r rim) has(s side) bool {
	_, ok := r[s]
	return ok
}

// take takes in a triangle that was not visited until then.
func (r rim) take(t api.Tri) {
	for i := range len(t) {
		s := sideOf(t, i)
		if back := (side{s.to, s.from}); r.has(back) {
			delete(r, back)
		} else {
			r[s] = struct{}{}
		}
	}
}
