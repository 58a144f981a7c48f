package mesh

import (
	"iter"
	"math/rand/v2"
	"slices"
	"testing"

	"plumb/api"
)

// nextOf is the least triangle above one.
func nextOf(m api.Mesh, last api.Tri) (api.Tri, bool) {
	i := slices.IndexFunc(m.Tris, func(t api.Tri) bool { return slices.Compare(t[:], last[:]) > 0 })
	if i < 0 {
		return api.Tri{}, false
	}
	return m.Tris[i], true
}

func TestAllWhileFlipping(t *testing.T) {
	thirds := 0
	samples(20, 60, func(r *rand.Rand, data api.Mesh) {
		m := opened(t, data)
		var last api.Tri
		often := r.IntN(4)
		for x := range m.All() {
			if want, ok := nextOf(m.Tell(), last); !ok || x != want {
				t.Fatalf("P1705: All yields %v behind %v; want %v", x, last, want)
			}
			if x[0] == last[0] && x[1] == last[1] {
				thirds++
			}
			last = x
			for range often {
				if l := m.Edges(); len(l) > 0 {
					e := some(r, l)
					m.Flip(e[0], e[1])
				}
			}
			if r.IntN(2) > 0 { // its own sides, so that it is gone
				m.Flip(x[1], x[2])
				m.Flip(x[2], x[0])
			}
		}
		if x, ok := nextOf(m.Tell(), last); ok {
			t.Fatalf("P1705: All ends behind %v, ahead of %v", last, x)
		}
	})
	if thirds == 0 {
		t.Error("P1705: no triangle came behind another one on the same side")
	}
}

func TestAllOverOneSide(t *testing.T) { // the triangle on the side 0 1 goes, a greater one comes
	m := opened(t, api.Mesh{Points: []api.Point{at(0, 0), at(2, 0), at(2, 2), at(0, 2)}, Tris: []api.Tri{{0, 1, 2}, {0, 2, 3}}})
	var l []api.Tri
	for x := range m.All() {
		l = append(l, x)
		if len(l) == 1 {
			m.Flip(0, 2)
		}
	}
	list(t, "P1705: All", l, []api.Tri{{0, 1, 2}, {0, 1, 3}, {1, 2, 3}})
	l = nil
	for x := range m.All() {
		l = append(l, x)
		if len(l) == 1 {
			m.Flip(1, 3) // a lesser one comes, which is not gone back to
		}
	}
	list(t, "P1705: All", l, []api.Tri{{0, 1, 3}, {0, 2, 3}})
}

func TestAllBeginsAnew(t *testing.T) {
	samples(21, 20, func(r *rand.Rand, data api.Mesh) {
		m := opened(t, data)
		all := m.All()
		for x := range all { // ended early
			if x != data.Tris[0] {
				t.Errorf("P1705: All begins with %v", x)
			}
			break
		}
		list(t, "P1705: All again", slices.Collect(all), data.Tris)
		var l []api.Tri
		for x := range all {
			l = append(l, x)
			list(t, "P1705: a range within a range", slices.Collect(all), data.Tris)
			for range all {
				break
			}
		}
		list(t, "P1705: the range around it", l, data.Tris)
		next, stop := iter.Pull(all)
		for i := range data.Tris {
			x, ok := next()
			if !ok || x != data.Tris[i] {
				t.Errorf("P1705: pulled: %v, %v", x, ok)
			}
			for range m.All() {
				break
			}
		}
		if x, ok := next(); ok {
			t.Errorf("P1705: pulled at the end: %v", x)
		}
		stop()
		for _, e := range m.Edges() { // what was asked for earlier sees what the mesh is now
			m.Flip(e[0], e[1])
		}
		list(t, "P1705: All of a changed mesh", slices.Collect(all), m.Tell().Tris)
	})
}

func TestAllStops(t *testing.T) {
	m := opened(t, squareMesh())
	n := 0
	m.All()(func(api.Tri) bool { n++; return false })
	if n != 1 {
		t.Errorf("P1705: All goes on, where it is told to end: %d", n)
	}
}
