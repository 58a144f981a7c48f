package delaunay

import (
	"iter"
	"slices"

	"plumb/api"
	"plumb/sites"
)

// Two corners are no sites. Above stands so far away, straight up and a little to the left, that no circle through sites reaches it, below opposite. The triangles between the sites and these two leave no outside: so a site that comes always lies in a triangle, and sites on one line are like others.
const (
	above = -1
	below = -2
)

// web is a triangulation that grows, site by site.
type web struct {
	points []api.Point
	rank   []int // by numbers: the site's place in the order of points
	tris   []tri // all that ever were in it, the first one around all sites
	left   map[side]int
	doubt  worklist[side]
}

// webOf is the web of a set's sites, the Delaunay triangulation when all are in it.
// They come in an order that has nothing to do with their places: then each one changes few triangles, and few are gone through to find its own, however the sites lie.
func webOf(set *sites.Set) *web {
	order := set.Order()
	w := &web{points: set.Points(), rank: make([]int, set.Given()), left: make(map[side]int, 6*len(order))}
	if len(order) == 0 {
		return w
	}
	for i, id := range order {
		w.rank[id] = i
	}
	w.lay(order[0], below, above)
	for _, id := range mixed(order[1:]) {
		w.add(id)
	}
	return w
}

// mixed is a list with its items in another order, which hangs on their number alone.
func mixed(l []int) []int {
	mix := uint64(1)
	for i := range l {
		mix = mix*6364136223846793005 + 1442695040888963407
		k := int(mix>>33) % (i + 1)
		l[i], l[k] = l[k], l[i]
	}
	return l
}

// add puts a site in, and flips sides until all are legal again.
func (w *web) add(id int) {
	t := w.holder(id)
	for _, s := range w.tris[t].sides() {
		if w.turns(s, id) == 0 {
			w.part(w.left[s.back()], id)
		}
	}
	w.part(t, id)
	for s := range w.doubt.all() {
		other, ok := w.left[s.back()]
		if !ok { // one around all
			continue
		}
		if far := w.tris[other].beside(s.back()); w.isIllegal(s, id, far) {
			w.flip(s, id, far)
		}
	}
}

// part puts in the place of a triangle those of a site and its sides, but for one on which the site lies.
func (w *web) part(t, id int) {
	w.lift(t)
	first := len(w.tris)
	for _, s := range w.tris[t].sides() {
		if w.turns(s, id) > 0 {
			w.lay(s.from, s.to, id)
			w.doubt.push(s)
		}
	}
	w.inherit(t, first)
}

// flip puts the other diagonal in the place of a side between the triangles with a new site and with a far corner.
func (w *web) flip(s side, id, far int) {
	one, other := w.left[s], w.left[s.back()]
	w.lift(one)
	w.lift(other)
	first := len(w.tris)
	w.lay(s.from, far, id)
	w.lay(far, s.to, id)
	w.inherit(one, first)
	w.inherit(other, first)
	w.doubt.push(side{s.from, far})
	w.doubt.push(side{far, s.to})
}

// inherit has the triangles from the first one on stand for one that is gone.
func (w *web) inherit(t, first int) { w.tris[t].first, w.tris[t].end = first, len(w.tris) }

// lay puts in a triangle.
func (w *web) lay(a, b, c int) {
	t := tri{corners: [3]int{a, b, c}}
	for _, s := range t.sides() {
		w.left[s] = len(w.tris)
	}
	w.tris = append(w.tris, t)
}

// lift takes a triangle's sides away.
func (w *web) lift(t int) {
	for _, s := range w.tris[t].sides() {
		delete(w.left, s)
	}
}

// now goes over the triangles that are in it, those with corners that are no sites too.
func (w *web) now() iter.Seq[tri] {
	return func(yield func(tri) bool) {
		for _, t := range w.tris {
			if !t.isGone() && !yield(t) {
				return
			}
		}
	}
}

// triangles goes over those of three sites.
func (w *web) triangles() iter.Seq[api.Tri] {
	return func(yield func(api.Tri) bool) {
		for t := range w.now() {
			if slices.Min(t.corners[:]) >= 0 && !yield(t.told()) {
				return
			}
		}
	}
}

// edges goes over the edges between two sites, on a line too.
func (w *web) edges() iter.Seq[api.Edge] {
	return func(yield func(api.Edge) bool) {
		for t := range w.now() {
			for _, s := range t.sides() {
				if 0 <= s.from && s.from < s.to && !yield(api.Edge{s.from, s.to}) {
					return
				}
			}
		}
	}
}
