package legal

import (
	"slices"

	"plumb/api"
	"plumb/mesh"
	"plumb/tie"
)

// quad are the sites a, b, c, d of an edge a b between the triangles a b c and b a d.
type quad [4]int

// quadOf is that of an edge; false: it is no side of two triangles.
func quadOf(m *mesh.Mesh, a, b int) (quad, bool) {
	c, left := m.Across(a, b)
	d, right := m.Across(b, a)
	if left != api.OK || right != api.OK {
		return quad{}, false
	}
	return quad{a, b, c, d}, true
}

// isWrong tells whether one of the two triangles has the other one's third corner within its circle.
func (q quad) isWrong(m *mesh.Mesh) bool {
	var at [4]api.Point
	for i, id := range q {
		at[i], _ = m.At(id)
	}
	v, _ := tie.Side(at[0], at[1], at[2], at[3])
	return v.Sign == 1
}

// rim are the two triangles' other sides.
func (q quad) rim() [4]api.Edge {
	a, b, c, d := q[0], q[1], q[2], q[3]
	return [4]api.Edge{edgeOf(a, c), edgeOf(c, b), edgeOf(b, d), edgeOf(d, a)}
}

// edgeOf is the edge of two sites, in either order.
func edgeOf(a, b int) api.Edge { return api.Edge{min(a, b), max(a, b)} }

func edgeOrder(a, b api.Edge) int { return slices.Compare(a[:], b[:]) }
