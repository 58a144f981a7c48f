package locate

import (
	"plumb/api"
	"plumb/measure"
	"plumb/mesh"
	"plumb/point"
)

// trail is a straight way from a site to a point, and what it has come to.
type trail struct {
	m    *mesh.Mesh
	to   api.Point
	been []api.Place
}

// straight goes from a site straight to a point: the sites that it comes to, the edges that it crosses, and last the point's place. Each is farther on than the one ahead of it, so that it ends in every mesh, also in one in which a walk comes round.
func straight(m *mesh.Mesh, from int, to api.Point) []api.Place {
	t := trail{m: m, to: to}
	for next, more := from, true; more; {
		t.come(atSite(next))
		next, more = t.leave(next)
	}
	return t.been
}

func (t *trail) come(p api.Place) { t.been = append(t.been, p) }

// end comes to the point's place: there is no next site.
func (t *trail) end(p api.Place) (int, bool) {
	t.come(p)
	return 0, false
}

// leave goes from a site to the next one on the way; false: the way ends ahead of it, or here.
func (t *trail) leave(id int) (int, bool) {
	here, _ := t.m.At(id)
	if same, _ := point.Same(here, t.to); same {
		return 0, false
	}
	star, _ := t.m.Star(id)
	for i := range len(star) {
		right := star[i]
		sign := turn(t.m, id, right, t.to)
		if sign == 0 && t.isAhead(id, right) {
			return t.follow(id, right)
		}
		left, errno := t.m.Across(id, right)
		if sign > 0 && errno == api.OK && turn(t.m, id, left, t.to) < 0 {
			return t.cross(id, right, left)
		}
	}
	return t.end(api.Place{})
}

// isAhead tells whether a site in line with the way lies ahead, as one sees it from another one.
func (t *trail) isAhead(from, id int) bool {
	here, _ := t.m.At(from)
	there, _ := t.m.At(id)
	v, _ := measure.Angle(there, here, t.to)
	return v.Sign > 0
}

// isShort tells whether the way from a site ends ahead of another one that lies ahead.
func (t *trail) isShort(from, id int) bool {
	here, _ := t.m.At(from)
	there, _ := t.m.At(id)
	v, _ := measure.Farther(here, t.to, here, there)
	return v.Sign < 0
}

// follow goes along an edge.
func (t *trail) follow(from, id int) (int, bool) {
	if t.isShort(from, id) {
		return t.end(onEdge(from, id))
	}
	return id, true
}

// cross goes from a site through the triangle that it has with one on the way's right and one on its left, and through those beyond.
func (t *trail) cross(from, right, left int) (int, bool) {
	for behind := from; ; {
		switch sign := turn(t.m, right, left, t.to); {
		case sign > 0:
			return t.end(inTri(behind, right, left))
		case sign == 0:
			return t.end(onEdge(right, left))
		}
		t.come(onEdge(right, left))
		ahead, errno := t.m.Across(left, right)
		if errno != api.OK {
			return t.end(api.Place{})
		}
		switch sign := turn(t.m, from, ahead, t.to); {
		case sign > 0:
			right, behind = ahead, right
		case sign < 0:
			left, behind = ahead, left
		case t.isShort(from, ahead):
			return t.end(inTri(left, right, ahead))
		default:
			return ahead, true
		}
	}
}
