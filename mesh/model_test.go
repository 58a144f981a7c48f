package mesh

import (
	"slices"

	"plumb/api"
)

// The functions here go by the document's words over data alone.

func aliveOf(m api.Mesh) []int {
	var l []int
	for id := range m.Points {
		if !slices.Contains(m.Gone, id) {
			l = append(l, id)
		}
	}
	return l
}

func orderOf(m api.Mesh) []int {
	l := aliveOf(m)
	slices.SortFunc(l, func(a, b int) int { return before(m.Points[a], m.Points[b]) })
	return l
}

func isLine(m api.Mesh) bool {
	l := aliveOf(m)
	for i := range l {
		if i > 1 && bend(m.Points[l[0]], m.Points[l[1]], m.Points[l[i]]) != 0 {
			return false
		}
	}
	return true
}

// follows tells whether b is next to a on the border: nothing lies right of the way, nothing on it.
func follows(m api.Mesh, a, b int) bool {
	for _, c := range aliveOf(m) {
		if a == b || bend(m.Points[a], m.Points[b], m.Points[c]) < 0 || within(m.Points[a], m.Points[c], m.Points[b]) {
			return false
		}
	}
	return true
}

func borderOf(m api.Mesh) []int {
	order := orderOf(m)
	if isLine(m) {
		return order
	}
	l := order[:1:1]
	for {
		a := l[len(l)-1]
		b := order[slices.IndexFunc(order, func(b int) bool { return follows(m, a, b) })]
		if b == l[0] {
			return l
		}
		l = append(l, b)
	}
}

type way struct{ from, to int }

// waysOf are the directed sides of all triangles, one behind the other.
func waysOf(m api.Mesh) []way {
	var l []way
	for _, t := range m.Tris {
		l = append(l, way{t[0], t[1]}, way{t[1], t[2]}, way{t[2], t[0]})
	}
	return l
}

func tiles(m api.Mesh) bool {
	if isLine(m) {
		return len(m.Tris) == 0
	}
	ways, corners := map[way]int{}, map[int]int{}
	for _, w := range waysOf(m) {
		ways[w]++
		corners[w.from]++
		if ways[w] > 1 {
			return false
		}
	}
	open, border := 0, borderOf(m)
	for w := range ways {
		if ways[way{w.to, w.from}] == 0 {
			open++
		}
	}
	for i, a := range border {
		if b := border[(i+1)%len(border)]; ways[way{a, b}] != 1 || ways[way{b, a}] != 0 {
			return false
		}
	}
	return open == len(border) && len(corners) == len(aliveOf(m))
}

func edgesOf(m api.Mesh) []api.Edge {
	var l []api.Edge
	for _, w := range waysOf(m) {
		l = append(l, api.Edge{min(w.from, w.to), max(w.from, w.to)})
	}
	if order := orderOf(m); isLine(m) {
		for i := range len(order) - 1 {
			l = append(l, api.Edge{min(order[i], order[i+1]), max(order[i], order[i+1])})
		}
	}
	slices.SortFunc(l, func(a, b api.Edge) int { return slices.Compare(a[:], b[:]) })
	return slices.Compact(l)
}

func isEdge(m api.Mesh, a, b int) bool {
	return slices.Contains(edgesOf(m), api.Edge{min(a, b), max(a, b)})
}

func isFixed(m api.Mesh, a, b int) bool {
	return slices.Contains(m.Fixed, api.Edge{min(a, b), max(a, b)})
}

// thirdOf is the third corner of the triangle with a directed side; -1: there is none.
func thirdOf(m api.Mesh, a, b int) int {
	if i := slices.Index(waysOf(m), way{a, b}); i >= 0 {
		return m.Tris[i/3][(i+2)%3]
	}
	return -1
}

// starOf sorts the sites at the other ends of a site's edges by the angle.
func starOf(m api.Mesh, id int) []int {
	var l []int
	for _, e := range edgesOf(m) {
		if e[0] == id || e[1] == id {
			l = append(l, e[0]+e[1]-id)
		}
	}
	p := m.Points[id]
	slices.SortFunc(l, func(a, b int) int {
		upper, other := before(p, m.Points[a]) < 0, before(p, m.Points[b]) < 0
		switch {
		case upper != other && upper:
			return -1
		case upper != other:
			return 1
		}
		return -bend(p, m.Points[a], m.Points[b])
	})
	if isLine(m) {
		slices.SortFunc(l, func(a, b int) int { return before(m.Points[a], m.Points[b]) })
		return l
	}
	first := slices.Min(l)
	if border := borderOf(m); slices.Contains(border, id) {
		first = border[(slices.Index(border, id)+1)%len(border)]
	}
	i := slices.Index(l, first)
	return slices.Concat(l[i:], l[:i])
}

func isStrange(p api.Point) bool {
	return slices.ContainsFunc([]int{p.X, p.Y}, func(b int) bool { return b&api.Inf == api.Inf || b == minus0 })
}

func isTri(m api.Mesh, t api.Tri) bool {
	alive := aliveOf(m)
	for _, id := range t {
		if !slices.Contains(alive, id) {
			return false
		}
	}
	return t[0] < t[1] && t[0] < t[2] && bend(m.Points[t[0]], m.Points[t[1]], m.Points[t[2]]) > 0
}

// checkOf is Check.
func checkOf(m api.Mesh) (int, api.Errno) {
	if len(m.Points) > api.MaxSites {
		return 0, api.ErrMany
	}
	for i, p := range m.Points {
		if isStrange(p) {
			return i, api.ErrFinite
		}
	}
	for i, id := range m.Gone {
		if id < 0 || id >= len(m.Points) || i > 0 && m.Gone[i-1] >= id {
			return i, api.ErrSite
		}
	}
	alive := aliveOf(m)
	for i, id := range alive {
		if slices.ContainsFunc(alive[:i], func(other int) bool { return m.Points[other] == m.Points[id] }) {
			return id, api.ErrSame
		}
	}
	for i, t := range m.Tris {
		if !isTri(m, t) || i > 0 && slices.Compare(m.Tris[i-1][:], t[:]) >= 0 {
			return i, api.ErrTri
		}
	}
	if !tiles(m) {
		return 0, api.ErrMesh
	}
	for i, e := range m.Fixed {
		if e[0] >= e[1] || i > 0 && slices.Compare(m.Fixed[i-1][:], e[:]) >= 0 || !isEdge(m, e[0], e[1]) {
			return i, api.ErrEdge
		}
	}
	return 0, api.OK
}

// flipOf is Flip: the data behind it, or an error.
func flipOf(m api.Mesh, a, b int) (api.Mesh, api.Errno) {
	c, d := thirdOf(m, a, b), thirdOf(m, b, a)
	switch {
	case !isEdge(m, a, b):
		return m, api.ErrEdge
	case isFixed(m, a, b):
		return m, api.ErrFixed
	case c < 0 || d < 0:
		return m, api.ErrBorder
	case bend(m.Points[c], m.Points[d], m.Points[a])*bend(m.Points[c], m.Points[d], m.Points[b]) != -1:
		return m, api.ErrReflex
	}
	m = cloned(m)
	m.Tris = slices.DeleteFunc(m.Tris, func(t api.Tri) bool { return t == told(a, b, c) || t == told(b, a, d) })
	m.Tris = append(m.Tris, told(c, a, d), told(d, b, c))
	slices.SortFunc(m.Tris, func(a, b api.Tri) int { return slices.Compare(a[:], b[:]) })
	return m, api.OK
}
