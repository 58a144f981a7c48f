package delaunay

import (
	"cmp"
	"slices"

	"plumb/orient"
	"plumb/tie"
)

// turns is the orientation of a side and a site. Seen from a site on the way to above, those ahead of it in the order of points lie on the left.
func (w *web) turns(s side, id int) int {
	switch {
	case s.from < 0 && s.to < 0:
		return 1
	case s.to == above:
		return cmp.Compare(w.rank[s.from], w.rank[id])
	case s.to == below:
		return cmp.Compare(w.rank[id], w.rank[s.from])
	case s.from == above:
		return cmp.Compare(w.rank[id], w.rank[s.to])
	case s.from == below:
		return cmp.Compare(w.rank[s.to], w.rank[id])
	}
	v, _ := orient.Sign(w.points[s.from], w.points[s.to], w.points[id])
	return v.Sign
}

// isIllegal tells whether the far corner on a side's right lies within the circle through the side and a site on its left.
func (w *web) isIllegal(s side, id, far int) bool {
	switch {
	case far < 0:
		return false
	case s.from < 0: // sites alone have a circle: these three, if the way around them is one to the left
		return w.turns(side{far, s.to}, id) > 0
	case s.to < 0:
		return w.turns(side{s.from, far}, id) > 0
	}
	v, _ := tie.Side(w.points[s.from], w.points[s.to], w.points[id], w.points[far])
	return v.Sign > 0
}

// holder is the number of the triangle within which a site lies, or on a side of it: one goes from each triangle that is gone to the heir that holds the site.
func (w *web) holder(id int) int {
	t := 0
	for w.tris[t].isGone() {
		t = w.heir(t, id)
	}
	return t
}

// heir is the first of a triangle's heirs that holds a site that it held itself; the last one does, if none ahead of it.
func (w *web) heir(t, id int) int {
	gone := w.tris[t]
	heir := gone.first
	for heir < gone.end-1 && !w.holds(heir, gone.sides(), id) {
		heir++
	}
	return heir
}

// holds tells whether a site lies on no side's right, as it doesn't of those that are known.
func (w *web) holds(t int, known [3]side, id int) bool {
	for _, s := range w.tris[t].sides() {
		if !slices.Contains(known[:], s) && w.turns(s, id) < 0 {
			return false
		}
	}
	return true
}
