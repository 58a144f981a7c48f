package grow

import (
	"slices"

	"plumb/api"
	"plumb/legal"
	"plumb/mesh"
	"plumb/orient"
)

// leaver is a site that goes.
type leaver struct {
	m        *mesh.Mesh
	id       int
	doubtful []api.Edge // what came: the other edges are the one's without the site, too
}

// flipAway flips the site's edges to those about it, until none can be flipped any more. Then, if it is inside, three sites are about it, or four, between two of which it lies; if it is on the border, no two triangles beside each other make a corner that sticks out, but where it lies on a straight piece of the border: there, two triangles are left, which make one without it.
func (l *leaver) flipAway(star []int) {
	for work := star; len(work) > 0; {
		last := len(work) - 1
		to := work[last]
		work = work[:last]
		left, _ := l.m.Across(l.id, to)
		right, _ := l.m.Across(to, l.id)
		if l.m.Flip(l.id, to) == api.OK {
			l.doubtful = append(l.doubtful, edgeOf(left, right))
			work = append(work, left, right) // with other triangles beside them: perhaps they can be flipped now
		}
	}
}

// leave takes the site away, and fills what is left.
func (l *leaver) leave() {
	about, _ := l.m.Star(l.id)
	here, _ := l.m.At(l.id)
	if len(about) == 4 && turn(l.m, about[0], about[2], here) != 0 { // then it lies between the two others
		about = append(about[1:], about[0])
	}
	var filling []api.Tri
	for i := 2; i < len(about); i++ {
		third, _ := l.m.At(about[i])
		if turn(l.m, about[0], about[i-1], third) > 0 {
			filling = append(filling, api.Tri{about[0], about[i-1], about[i]})
			l.doubtful = append(l.doubtful, edgeOf(about[0], about[i]))
		}
	}
	l.m.Take(l.id, filling)
}

// mend makes all edges legal again.
func (l *leaver) mend() { legal.Mend(l.m, l.doubtful) }

// isHeld tells whether a fixed edge ends at a site.
func isHeld(m *mesh.Mesh, id int, star []int) bool {
	return slices.ContainsFunc(star, func(to int) bool {
		fixed, _ := m.Fixed(id, to)
		return fixed
	})
}

// edgeOf is the edge of two sites, in either order.
func edgeOf(a, b int) api.Edge { return api.Edge{min(a, b), max(a, b)} }

// turn is the orientation of two sites and a point.
func turn(m *mesh.Mesh, a, b int, p api.Point) int {
	from, _ := m.At(a)
	to, _ := m.At(b)
	v, _ := orient.Sign(from, to, p)
	return v.Sign
}
