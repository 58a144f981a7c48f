package grow

import (
	"slices"

	"plumb/api"
	"plumb/legal"
	"plumb/mesh"
)

// newcomer is a site that comes.
type newcomer struct {
	m     *mesh.Mesh
	p     api.Point
	place api.Place
	id    int
	sees  [][2]int // the sides on whose left it lies, with nothing between
	fixed bool     // whether the edge on which it lies is
}

// steps are what is to be done, in this order.
func (n *newcomer) steps() []func() {
	switch n.place.Kind {
	case api.InTri:
		return []func(){n.seeTri, n.put}
	case api.OnEdge:
		return []func(){n.seeEdge, n.put, n.fixPieces}
	}
	return []func(){n.seeOutline, n.put}
}

// seeTri sees the sides of the triangle in which it lies.
func (n *newcomer) seeTri() {
	a, b, c := n.place.A, n.place.B, n.place.C
	n.sees = [][2]int{{a, b}, {b, c}, {c, a}}
}

// seeEdge sees the other sides of the triangles beside the edge on which it lies, where there are any.
func (n *newcomer) seeEdge() {
	a, b := n.place.A, n.place.B
	n.fixed, _ = n.m.Fixed(a, b)
	for _, s := range [2][2]int{{a, b}, {b, a}} {
		if c, errno := n.m.Across(s[0], s[1]); errno == api.OK {
			n.sees = append(n.sees, [2]int{s[1], c}, [2]int{c, s[0]})
		}
	}
}

// seeOutline sees, from outside, what is turned towards it: nothing, if it lies on the line of all sites.
func (n *newcomer) seeOutline() {
	l := outline(n.m)
	for i, to := range l {
		from := l[(i+1)%len(l)]
		if turn(n.m, from, to, n.p) > 0 {
			n.sees = append(n.sees, [2]int{from, to})
		}
	}
}

func (n *newcomer) put() { n.m.Put(n.p, n.place, n.sees) }

// fixPieces fixes the pieces of the edge on which it lies, if that was fixed.
func (n *newcomer) fixPieces() {
	n.m.Fix(n.id, n.place.A, n.fixed)
	n.m.Fix(n.id, n.place.B, n.fixed)
}

// mend makes all edges legal again. The sides that it sees alone may not be: its own edges are the one's from the first.
func (n *newcomer) mend() {
	var doubtful []api.Edge
	for _, s := range n.sees {
		doubtful = append(doubtful, edgeOf(s[0], s[1]))
	}
	legal.Mend(n.m, doubtful)
}

// outline are the sites around a mesh, with the outside on the right of the way: the border; where all lie on one line, there and back.
func outline(m *mesh.Mesh) []int {
	l := m.Border()
	if len(l) < 3 {
		return l
	}
	if _, errno := m.Across(l[0], l[1]); errno == api.OK {
		return l
	}
	back := slices.Clone(l[1 : len(l)-1])
	slices.Reverse(back)
	return append(l, back...)
}
