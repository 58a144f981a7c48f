package mesh

import (
	"cmp"
	"slices"

	"plumb/api"
	"plumb/hull"
	"plumb/orient"
	"plumb/point"
	"plumb/sites"
)

func triOrder(a, b api.Tri) int   { return slices.Compare(a[:], b[:]) }
func edgeOrder(a, b api.Edge) int { return slices.Compare(a[:], b[:]) }

// edgeOf is the edge of two sites, in either order.
func edgeOf(a, b int) api.Edge { return api.Edge{min(a, b), max(a, b)} }

// wrong finds the place of the first item that is not right by itself, or not above the one ahead of it; -1: there is none.
func wrong[T any](l []T, order func(a, b T) int, right func(T) bool) int {
	for i := range len(l) {
		if !right(l[i]) || i > 0 && order(l[i-1], l[i]) >= 0 {
			return i
		}
	}
	return -1
}

// sitesOf is the set of a mesh's sites; with an error the place of what is wrong.
func sitesOf(points []api.Point, gone []int) (*sites.Set, int, api.Errno) {
	if len(points) > api.MaxSites {
		return nil, 0, api.ErrMany
	}
	if place := slices.IndexFunc(points, isNone); place >= 0 {
		return nil, place, api.ErrFinite
	}
	isNumber := func(id int) bool { return id >= 0 && id < len(points) }
	if place := wrong(gone, cmp.Compare[int], isNumber); place >= 0 {
		return nil, place, api.ErrSite
	}
	return sites.Of(points, gone)
}

// isNone tells whether a point has no place in a mesh: it is not finite, or has a -0.
func isNone(p api.Point) bool {
	normal, errno := point.Normal(p)
	return errno != api.OK || normal != p
}

// wrongTri finds the first triangle that is none of three sites.
func wrongTri(set *sites.Set, tris []api.Tri) int {
	return wrong(tris, triOrder, func(t api.Tri) bool {
		return t[0] < min(t[1], t[2]) && turns(set, t[0], t[1], t[2]) > 0
	})
}

// turns is the orientation of three sites; 0, if one of the numbers is none of a site.
func turns(set *sites.Set, a, b, c int) int {
	var at [3]api.Point
	for i, id := range [3]int{a, b, c} {
		p, errno := set.At(id)
		if errno != api.OK {
			return 0
		}
		at[i] = p
	}
	v, _ := orient.Sign(at[0], at[1], at[2])
	return v.Sign
}

// tile lays triangles, each one of three sites, within the border; false: they do not tile it.
func (m *Mesh) tile(tris []api.Tri) bool {
	m.net = net{make(map[side]int, 3*len(tris)), make([][]int, m.set.Given())}
	for _, t := range tris {
		if !m.net.addTri(t) {
			return false
		}
	}
	m.border = hull.Boundary(m.set)
	line := m.set.Line()
	for _, s := range rim(m.border, line) { // where a triangle's side has no opposite, the outside must be
		if !m.net.add(s, outside) {
			return false
		}
	}
	if !m.net.isPaired() {
		return false
	}
	for _, id := range m.set.Alive() {
		if len(m.net.leads[id]) == 0 && !line {
			return false
		}
		slices.Sort(m.net.leads[id])
	}
	return true
}

// rim are the sides with the outside on their left; where all sites lie on one line, it lies on both.
func rim(border []int, line bool) []side {
	var l []side
	for i := range len(border) - 1 {
		a, b := border[i], border[i+1]
		l = append(l, side{b, a})
		if line {
			l = append(l, side{a, b})
		}
	}
	if !line {
		l = append(l, side{border[0], border[len(border)-1]})
	}
	return l
}

// wrongFixed finds the first one that can't be a fixed edge.
func (n *net) wrongFixed(l []api.Edge) int {
	return wrong(l, edgeOrder, func(e api.Edge) bool { return e[0] < e[1] && n.has(e[0], e[1]) })
}
