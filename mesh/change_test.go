package mesh

import (
	"math"
	"math/rand/v2"
	"slices"
	"testing"

	"plumb/api"
)

// sidesOf are the sides of a triangle.
func sidesOf(x api.Tri) [][2]int { return [][2]int{{x[0], x[1]}, {x[1], x[2]}, {x[2], x[0]}} }

// isLeft tells whether a point lies strictly on a side's left.
func isLeft(m api.Mesh, s [2]int, p api.Point) bool {
	return bend(m.Points[s[0]], m.Points[s[1]], p) > 0
}

// seenOf are the place of a point that is no site's, and the sides that it sees; false: it is a site's.
func seenOf(m api.Mesh, p api.Point) (api.Place, [][2]int, bool) {
	for _, id := range aliveOf(m) {
		if before(m.Points[id], p) == 0 {
			return api.Place{}, nil, false
		}
	}
	var place api.Place
	for _, e := range edgesOf(m) {
		if within(m.Points[e[0]], p, m.Points[e[1]]) {
			place = api.Place{Kind: api.OnEdge, A: e[0], B: e[1]}
		}
	}
	var sees [][2]int
	for _, x := range m.Tris { // in which it lies, or on the side of which
		sides := sidesOf(x)
		left := slices.DeleteFunc(slices.Clone(sides), func(s [2]int) bool { return !isLeft(m, s, p) })
		switch {
		case len(left) == 3:
			return api.Place{Kind: api.InTri, A: x[0], B: x[1], C: x[2]}, left, true
		case place.Kind == api.OnEdge && slices.Contains(x[:], place.A) && slices.Contains(x[:], place.B):
			sees = append(sees, left...)
		}
	}
	if place.Kind == api.Outside {
		for _, s := range outerOf(m) {
			if isLeft(m, s, p) {
				sees = append(sees, s)
			}
		}
	}
	return place, sees, true
}

// outerOf are the sides with the outside on their left.
func outerOf(m api.Mesh) [][2]int {
	var l [][2]int
	for _, e := range edgesOf(m) {
		for _, s := range [2][2]int{{e[0], e[1]}, {e[1], e[0]}} {
			if thirdOf(m, s[0], s[1]) < 0 {
				l = append(l, s)
			}
		}
	}
	return l
}

// putOf are the data with a site more, and the triangles that went.
func putOf(m api.Mesh, p api.Point, place api.Place, sees [][2]int) (api.Mesh, []api.Tri) {
	var gone []api.Tri
	o := cloned(m)
	id := len(m.Points)
	for _, s := range sees {
		if third := thirdOf(m, s[0], s[1]); third >= 0 {
			gone = append(gone, told(s[0], s[1], third))
		}
		o.Tris = append(o.Tris, told(s[0], s[1], id))
	}
	slices.SortFunc(gone, triOrder)
	gone = slices.Compact(gone)
	o.Tris = slices.DeleteFunc(o.Tris, func(x api.Tri) bool { return slices.Contains(gone, x) })
	slices.SortFunc(o.Tris, triOrder)
	o.Points = append(o.Points, p)
	if place.Kind == api.OnEdge {
		o.Fixed = slices.DeleteFunc(o.Fixed, func(e api.Edge) bool { return e == api.Edge{place.A, place.B} })
	}
	return o, gone
}

// asked are points about a mesh.
func asked(r *rand.Rand, m api.Mesh) []api.Point {
	value := func(b int) float64 { return math.Float64frombits(uint64(b)) }
	var l []api.Point
	for range 4 {
		l = append(l, at(float64(r.IntN(7))-1, float64(r.IntN(7))-1))
	}
	for _, e := range edgesOf(m) {
		p, q := m.Points[e[0]], m.Points[e[1]]
		l = append(l, at((value(p.X)+value(q.X))/2, (value(p.Y)+value(q.Y))/2), at(value(p.X)/2+value(q.X)/4+1, value(q.Y)))
	}
	l = slices.DeleteFunc(l, isStrange)
	r.Shuffle(len(l), func(i, k int) { l[i], l[k] = l[k], l[i] })
	return l[:min(len(l), 6)]
}

func TestPutAndTake(t *testing.T) {
	seen := map[int]int{}
	samples(90, 14, func(r *rand.Rand, data api.Mesh) {
		for _, p := range asked(r, data) {
			place, sees, ok := seenOf(data, p)
			if !ok {
				continue
			}
			seen[place.Kind]++
			m, id := opened(t, data), len(data.Points)
			want, gone := putOf(data, p, place, sees)
			if m.Given() != id {
				t.Errorf("P2001: %d numbers were given, of %d", m.Given(), id)
			}
			if got, e := m.Put(p, place, sees); got != id || e != api.OK {
				t.Fatalf("P2001: Put: %d, error %d; want %d", got, e, id)
			}
			checked(t, m.Tell(), 0, api.OK)
			looked(t, m, want)
			for _, to := range starOf(want, id) { // what is fixed goes with it
				m.Fix(id, to, r.IntN(2) > 0)
			}
			refused(t, "P2002: Take", m.Take(id, gone), api.OK)
			want = cloned(data)
			want.Points, want.Gone = append(want.Points, p), append(want.Gone, id)
			want.Fixed = slices.DeleteFunc(want.Fixed, func(e api.Edge) bool { return place.Kind == api.OnEdge && e == api.Edge{place.A, place.B} })
			looked(t, m, want)
			if t.Failed() {
				t.Fatalf("Put of %v in %v", p, data)
			}
		}
	})
	if len(seen) != 3 || seen[api.OnEdge] < 50 || seen[api.InTri] < 50 || seen[api.Outside] < 50 {
		t.Errorf("P2001: %v: too few to tell", seen)
	}
}

func TestPutIsRefused(t *testing.T) {
	full := squareMesh()
	for id := len(full.Points); id < api.MaxSites; id++ {
		full.Points, full.Gone = append(full.Points, at(9, 9)), append(full.Gone, id)
	}
	for _, x := range []struct {
		m    *Mesh
		p    api.Point
		id   int
		want api.Errno
	}{
		{nil, at(0, 0), 0, api.ErrArg},
		{nil, api.Point{X: api.NaN}, 0, api.ErrFinite},
		{&Mesh{}, api.Point{Y: api.Inf}, 0, api.ErrFinite},
		{opened(t, squareMesh()), at(2, 2), 2, api.ErrSame},
		{opened(t, squareMesh()), api.Point{X: minus0}, 0, api.ErrSame},
		{opened(t, full), at(9, 9), 0, api.ErrMany},
	} {
		before := x.m.Tell()
		if id, e := x.m.Put(x.p, api.Place{}, nil); id != x.id || e != x.want {
			t.Errorf("P2001: Put: %d, error %d; want %d, %d", id, e, x.id, x.want)
		}
		alike(t, "P2004: Put", x.m.Tell(), before)
	}
}

func TestTakeIsRefused(t *testing.T) {
	data := squareMesh()
	data.Points, data.Gone = append(data.Points, at(1, 1)), []int{4}
	for _, m := range []*Mesh{nil, {}, opened(t, data)} {
		before := m.Tell()
		for _, id := range []int{-1, math.MinInt, 4, 5, math.MaxInt} {
			refused(t, "P2002: Take", m.Take(id, nil), api.ErrSite)
		}
		alike(t, "P2004: Take", m.Tell(), before)
	}
}

func TestPutOntoNothing(t *testing.T) {
	var zero Mesh
	for _, m := range []*Mesh{&zero, opened(t, api.Mesh{})} {
		if m.Given() != 0 {
			t.Errorf("P2001: %d numbers were given", m.Given())
		}
		m.Put(api.Point{X: minus0, Y: of(1)}, api.Place{}, nil)
		looked(t, m, api.Mesh{Points: []api.Point{at(0, 1)}})
		m.Put(at(5, 1), api.Place{}, nil)
		m.Put(at(-3, 1), api.Place{}, nil)
		looked(t, m, api.Mesh{Points: []api.Point{at(0, 1), at(5, 1), at(-3, 1)}})
		m.Fix(0, 2, true)
		m.Put(at(1, 4), api.Place{}, [][2]int{{2, 0}, {0, 1}})
		looked(t, m, api.Mesh{Points: []api.Point{at(0, 1), at(5, 1), at(-3, 1), at(1, 4)}, Fixed: []api.Edge{{0, 2}}, Tris: []api.Tri{{0, 1, 3}, {0, 3, 2}}})
		m.Take(3, nil)
		m.Take(0, nil)
		looked(t, m, api.Mesh{Points: []api.Point{at(0, 1), at(5, 1), at(-3, 1), at(1, 4)}, Gone: []int{0, 3}})
		m.Take(1, nil)
		m.Take(2, nil)
		looked(t, m, api.Mesh{Points: []api.Point{at(0, 1), at(5, 1), at(-3, 1), at(1, 4)}, Gone: []int{0, 1, 2, 3}})
	}
	var none *Mesh
	if none.Given() != 0 {
		t.Errorf("P2001: %d numbers were given", none.Given())
	}
}
