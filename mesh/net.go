package mesh

import (
	"slices"

	"plumb/api"
)

// side is an edge that is gone along: a triangle's, on whose left it lies, or one with the outside on its left.
type side struct{ from, to int }

// outside is no site: it stands for the third corner, where there is no triangle.
const outside = -1

// net is all edges, each as its two sides: so one that is no side of two triangles needs no other questions than one that is.
type net struct {
	third map[side]int // the third corner of the triangle on the left
	leads [][]int      // by numbers: the sites to which sides lead, rising
}

// add puts in a side with what lies on its left; false: it is there already. The sites to which sides lead are sorted later, at once.
func (n *net) add(s side, third int) bool {
	if n.has(s.from, s.to) {
		return false
	}
	n.third[s] = third
	n.leads[s.from] = append(n.leads[s.from], s.to)
	return true
}

// addTri puts in a triangle's three sides; false: one is there already.
func (n *net) addTri(t api.Tri) bool {
	return n.add(side{t[0], t[1]}, t[2]) && n.add(side{t[1], t[2]}, t[0]) && n.add(side{t[2], t[0]}, t[1])
}

func (n *net) has(a, b int) bool {
	_, ok := n.third[side{a, b}]
	return ok
}

// isPaired tells whether each side's opposite is there.
func (n *net) isPaired() bool {
	for s := range n.third {
		if !n.has(s.to, s.from) {
			return false
		}
	}
	return true
}

func (n *net) edges() []api.Edge {
	var l []api.Edge
	for a := range len(n.leads) {
		for _, b := range n.leads[a] {
			if a < b {
				l = append(l, api.Edge{a, b})
			}
		}
	}
	return l
}

// above finds the least triangle above another one, which need not be there any more.
func (n *net) above(t api.Tri) (api.Tri, bool) {
	least := t[1]
	for i := range len(n.leads) - t[0] {
		if next, ok := n.leastOf(t[0]+i, least, t); ok {
			return next, true
		}
		least = 0
	}
	return api.Tri{}, false
}

// leastOf finds the least triangle above t, with a as its first corner and a second one of at least least. As a side has one triangle, the second corner tells the third one.
func (n *net) leastOf(a, least int, t api.Tri) (api.Tri, bool) {
	first, _ := slices.BinarySearch(n.leads[a], max(a, least))
	for _, b := range n.leads[a][first:] {
		next := api.Tri{a, b, n.third[side{a, b}]}
		if next[2] > a && triOrder(next, t) > 0 {
			return next, true
		}
	}
	return api.Tri{}, false
}

// rightmost are the sites about a site with the outside on the right of the way to them.
func (n *net) rightmost(id int) []int {
	var l []int
	for _, to := range n.leads[id] {
		if n.third[side{to, id}] == outside {
			l = append(l, to)
		}
	}
	return l
}

// flip exchanges the triangles a b c and b a d for those on the edge of c and d.
func (n *net) flip(a, b, c, d int) {
	n.cut(side{a, b})
	n.cut(side{b, a})
	n.join(side{c, d}, b)
	n.join(side{d, c}, a)
	n.third[side{c, a}], n.third[side{a, d}] = d, c
	n.third[side{d, b}], n.third[side{b, c}] = c, d
}

// cut takes a side away.
func (n *net) cut(s side) {
	delete(n.third, s)
	l := n.leads[s.from]
	i, _ := slices.BinarySearch(l, s.to)
	n.leads[s.from] = slices.Delete(l, i, i+1)
}

// join puts in a side that is not there.
func (n *net) join(s side, third int) {
	n.third[s] = third
	l := n.leads[s.from]
	i, _ := slices.BinarySearch(l, s.to)
	n.leads[s.from] = slices.Insert(l, i, s.to)
}

// connect puts in an edge that is not there, with the outside on both sides.
func (n *net) connect(a, b int) {
	n.join(side{a, b}, outside)
	n.join(side{b, a}, outside)
}

// lay puts in a triangle, and those of its edges that are not there.
func (n *net) lay(a, b, c int) {
	for _, t := range [3]api.Tri{{a, b, c}, {b, c, a}, {c, a, b}} {
		if !n.has(t[0], t[1]) {
			n.connect(t[0], t[1])
		}
		n.third[side{t[0], t[1]}] = t[2]
	}
}

// lift takes away the triangle on the left of a side, if there is one; its edges stay.
func (n *net) lift(a, b int) {
	c := n.third[side{a, b}]
	if c == outside {
		return
	}
	for _, s := range [3]side{{a, b}, {b, c}, {c, a}} {
		n.third[s] = outside
	}
}
