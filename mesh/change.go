package mesh

import (
	"plumb/api"
	"plumb/hull"
	"plumb/sites"
)

// Given tells how many numbers were given: the next site gets this one.
func (m *Mesh) Given() int { return m.held().set.Given() }

// Put puts a site in, for packages that know its place (chapter 18's), where there is none, and the sides that it sees: those of edges on whose left it lies, with nothing between. The triangle of such a side goes, one of the side and the site comes. The edge on which it lies goes too, fixed or not, and those to its ends come, not fixed.
func (m *Mesh) Put(p api.Point, place api.Place, sees [][2]int) (int, api.Errno) {
	if m == nil {
		var none *sites.Set // which takes none
		return none.Add(p)
	}
	m.begin()
	id, errno := m.set.Add(p)
	if errno != api.OK {
		return id, errno
	}
	m.net.leads = append(m.net.leads, nil)
	switch {
	case place.Kind == api.OnEdge:
		m.split(place.A, place.B, id)
	case len(sees) == 0:
		m.lengthen(id)
	}
	for _, s := range sees {
		m.net.lay(s[0], s[1], id)
	}
	if m.isOutermost(id) {
		m.border = hull.Boundary(m.set)
	}
	return id, api.OK
}

// Take takes a site away, its edges, fixed or not, and its triangles, for packages that know which ones fill the hole. (On a line there are none: its two neighbours are joined.)
func (m *Mesh) Take(id int, filling []api.Tri) api.Errno {
	star, errno := m.Star(id)
	if errno != api.OK {
		return errno
	}
	outermost := m.isOutermost(id)
	m.leave(id, star)
	for _, t := range filling {
		m.net.lay(t[0], t[1], t[2])
	}
	m.set.Drop(id)
	if outermost {
		m.border = hull.Boundary(m.set)
	}
	return api.OK
}

// begin makes the zero Mesh one that takes sites.
func (m *Mesh) begin() {
	if m.set == nil {
		*m = Mesh{set: sites.New(), net: net{third: map[side]int{}}, fixed: map[api.Edge]struct{}{}}
	}
}

// isOutermost tells whether a site is on the border.
func (m *Mesh) isOutermost(id int) bool {
	return len(m.net.leads[id]) == 0 || len(m.net.rightmost(id)) > 0
}

// split exchanges an edge for those from its ends to a site on it.
func (m *Mesh) split(a, b, id int) {
	m.part(a, b)
	m.net.connect(a, id)
	m.net.connect(id, b)
}

// lengthen joins a site to the end of the line behind which it lies.
func (m *Mesh) lengthen(id int) {
	last := len(m.border) - 1
	switch {
	case last < 0:
	case m.placeOrder(id, m.border[0]) < 0:
		m.net.connect(id, m.border[0])
	default:
		m.net.connect(id, m.border[last])
	}
}

// leave takes away a site's triangles and edges; on a line, its two neighbours are joined.
func (m *Mesh) leave(id int, star []int) {
	ends := m.net.rightmost(id) // two only between two sites of a line
	for _, to := range star {
		m.net.lift(id, to)
	}
	for _, to := range star {
		m.part(id, to)
	}
	if len(ends) == 2 {
		m.net.connect(ends[0], ends[1])
	}
}

// part takes an edge away.
func (m *Mesh) part(a, b int) {
	m.net.cut(side{a, b})
	m.net.cut(side{b, a})
	delete(m.fixed, edgeOf(a, b))
}
