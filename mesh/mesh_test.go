package mesh

import (
	"math"
	"math/rand/v2"
	"slices"
	"testing"

	"plumb/api"
)

func TestExamples(t *testing.T) {
	checked(t, squareMesh(), 0, api.OK)
	m := opened(t, squareMesh())
	list(t, "P1705: Edges", m.Edges(), []api.Edge{{0, 1}, {0, 2}, {0, 3}, {1, 2}, {2, 3}})
	list(t, "P1705: Border", m.Border(), []int{0, 1, 2, 3})
	starred(t, m, 0, 1, 2, 3)
	starred(t, m, 1, 2, 0)
	for _, x := range []struct {
		a, b, want int
		wantError  api.Errno
	}{{0, 2, 3, api.OK}, {2, 0, 1, api.OK}, {0, 1, 2, api.OK}, {1, 0, 0, api.ErrBorder}, {1, 3, 0, api.ErrEdge}} {
		if c, e := m.Across(x.a, x.b); c != x.want || e != x.wantError {
			t.Errorf("P1705: Across(%d, %d): %d, error %d; want %d, %d", x.a, x.b, c, e, x.want, x.wantError)
		}
	}
	refused(t, "P1707: Flip(0, 2)", m.Flip(0, 2), api.OK)
	list(t, "P1707: Tris", m.Tell().Tris, []api.Tri{{0, 1, 3}, {1, 2, 3}})
	refused(t, "P1707: Flip(0, 1)", m.Flip(0, 1), api.ErrBorder)
	refused(t, "P1707: Flip(0, 2) again", m.Flip(0, 2), api.ErrEdge)
	refused(t, "P1706: Fix(1, 3)", m.Fix(1, 3, true), api.OK)
	refused(t, "P1707: Flip(3, 1)", m.Flip(3, 1), api.ErrFixed)
}

func TestExamplesOfALine(t *testing.T) {
	m := opened(t, api.Mesh{Points: []api.Point{at(0, 0), at(1, 0), at(2, 0)}})
	list(t, "P1703: Edges of a line", m.Edges(), []api.Edge{{0, 1}, {1, 2}})
	m = opened(t, api.Mesh{Points: []api.Point{at(5, 5), at(1, 1), at(3, 3), at(0, 0)}, Fixed: []api.Edge{{0, 2}}})
	list(t, "P1703: Edges of a line", m.Edges(), []api.Edge{{0, 2}, {1, 2}, {1, 3}})
	list(t, "P1703: Border of a line", m.Border(), []int{3, 1, 2, 0})
	starred(t, m, 3, 1)
	starred(t, m, 1, 3, 2) // in order, not by numbers
	starred(t, m, 2, 1, 0)
	starred(t, m, 0, 2)
	refused(t, "P1707: Flip of a fixed one on a line", m.Flip(2, 0), api.ErrFixed)
	refused(t, "P1707: Flip of another one", m.Flip(2, 1), api.ErrBorder)
	refused(t, "P1707: Flip of no edge", m.Flip(1, 0), api.ErrEdge)
	for _, w := range [][2]int{{0, 2}, {2, 0}, {3, 1}, {1, 2}} {
		if c, e := m.Across(w[0], w[1]); c != 0 || e != api.ErrBorder {
			t.Errorf("P1705: Across(%v) on a line: %d, error %d", w, c, e)
		}
	}
	refused(t, "P1706: Fix on a line", m.Fix(1, 3, true), api.OK)
	refused(t, "P1706: Fix on a line", m.Fix(2, 0, false), api.OK)
	list(t, "P1706: Fixed", m.Tell().Fixed, []api.Edge{{1, 3}})
}

// starred holds Star to a list.
func starred(t testing.TB, m *Mesh, id int, want ...int) {
	t.Helper()
	l, e := m.Star(id)
	if e != api.OK {
		t.Errorf("P1705: Star(%d): error %d", id, e)
	}
	list(t, "P1705: Star", l, want)
}

// numbers are those of a mesh's points, and others.
func numbers(m api.Mesh) []int {
	l := []int{-1, math.MinInt, math.MaxInt, 1 << 32, len(m.Points) + 1}
	for id := range len(m.Points) + 1 {
		l = append(l, id)
	}
	return l
}

// looked holds all that a mesh tells to data.
func looked(t *testing.T, m *Mesh, data api.Mesh) {
	t.Helper()
	alike(t, "P1704: Tell", m.Tell(), data)
	list(t, "P1705: All", slices.Collect(m.All()), data.Tris)
	list(t, "P1705: Edges", m.Edges(), edgesOf(data))
	list(t, "P1705: Border", m.Border(), borderOf(data))
	set := m.Sites()
	list(t, "P1704: Sites' points", set.Points(), data.Points)
	list(t, "P1704: Sites' gone ones", set.Gone(), data.Gone)
	list(t, "P1704: Sites' order", set.Order(), orderOf(data))
	alive := aliveOf(data)
	for _, a := range numbers(data) {
		if l, e := m.Star(a); slices.Contains(alive, a) {
			starred(t, m, a, starOf(data, a)...)
		} else if len(l) > 0 || e != api.ErrSite {
			t.Errorf("P1705: Star(%d): %v, error %d", a, l, e)
		}
		for _, b := range numbers(data) {
			paired(t, m, data, a, b)
		}
	}
}

// paired holds what a mesh tells of two numbers to data.
func paired(t *testing.T, m *Mesh, data api.Mesh, a, b int) {
	t.Helper()
	edge, want, wantError := isEdge(data, a, b), thirdOf(data, a, b), api.OK
	fixedError := api.OK
	switch {
	case !edge:
		want, wantError, fixedError = 0, api.ErrEdge, api.ErrEdge
	case want < 0:
		want, wantError = 0, api.ErrBorder
	}
	if c, e := m.Across(a, b); c != want || e != wantError {
		t.Errorf("P1705: Across(%d, %d) of %v: %d, error %d; want %d, %d", a, b, data, c, e, want, wantError)
	}
	if f, e := m.Fixed(a, b); f != isFixed(data, a, b) || e != fixedError {
		t.Errorf("P1705: Fixed(%d, %d) of %v: %v, error %d", a, b, data, f, e)
	}
}

func TestLooking(t *testing.T) {
	samples(1, 40, func(_ *rand.Rand, data api.Mesh) {
		checked(t, data, 0, api.OK)
		looked(t, opened(t, data), data)
	})
}

func TestFlips(t *testing.T) {
	samples(2, 30, func(r *rand.Rand, data api.Mesh) {
		m := opened(t, data)
		for range 30 {
			a, b := r.IntN(len(data.Points)+1), r.IntN(len(data.Points)+1)
			if l := edgesOf(data); len(l) > 0 && r.IntN(4) > 0 {
				e := some(r, l)
				a, b = e[0], e[1]
				if r.IntN(2) > 0 {
					a, b = b, a
				}
			}
			after, want := flipOf(data, a, b)
			if e := m.Flip(a, b); e != want {
				t.Fatalf("P1707: Flip(%d, %d) of %v: error %d; want %d", a, b, data, e, want)
			}
			data = after
			alike(t, "P1707: Tell", m.Tell(), data)
			checked(t, m.Tell(), 0, api.OK) // P1708
		}
		looked(t, m, data)
	})
}

func TestFlipsOfEveryPair(t *testing.T) {
	samples(3, 14, func(_ *rand.Rand, data api.Mesh) {
		for _, a := range numbers(data) {
			for _, b := range numbers(data) {
				m := opened(t, data)
				after, want := flipOf(data, a, b)
				refused(t, "P1707: Flip", m.Flip(a, b), want)
				alike(t, "P1707, P1709: Tell", m.Tell(), after)
			}
		}
	})
}

func TestReflex(t *testing.T) {
	m := opened(t, api.Mesh{Points: []api.Point{at(0, 0), at(4, 0), at(1, 1), at(0, 4)}, Tris: []api.Tri{{0, 1, 2}, {0, 2, 3}, {1, 3, 2}}})
	for _, e := range []api.Edge{{0, 2}, {2, 0}, {1, 2}, {2, 3}} {
		refused(t, "P1707: Flip of a reflex one", m.Flip(e[0], e[1]), api.ErrReflex)
	}
	// an end on the line of the other corners, and a step of the least float to either side of it
	for y, want := range map[float64]api.Errno{0: api.ErrReflex, -tiny: api.ErrReflex, tiny: api.OK} {
		m := opened(t, api.Mesh{Points: []api.Point{at(-1, 0), at(1, 0), at(0, 0-y), at(0, 1), at(0, -2)}, Tris: []api.Tri{{0, 2, 3}, {0, 4, 2}, {1, 2, 4}, {1, 3, 2}}})
		refused(t, "P1707: Flip(2, 3) beside a line", m.Flip(2, 3), want)
	}
}

func TestFlipAndBack(t *testing.T) {
	samples(4, 30, func(_ *rand.Rand, data api.Mesh) {
		m := opened(t, data)
		for _, e := range edgesOf(data) {
			c, d := thirdOf(data, e[0], e[1]), thirdOf(data, e[1], e[0])
			if m.Flip(e[0], e[1]) == api.OK {
				refused(t, "P1707: the flip back", m.Flip(d, c), api.OK)
			}
			alike(t, "P1707: Tell", m.Tell(), data)
		}
	})
}

func TestFix(t *testing.T) {
	samples(5, 20, func(r *rand.Rand, data api.Mesh) {
		m := opened(t, data)
		for range 40 {
			a, b, fixed := some(r, numbers(data)), some(r, numbers(data)), r.IntN(2) > 0
			if l := edgesOf(data); len(l) > 0 && r.IntN(3) > 0 {
				e := some(r, l)
				a, b = e[r.IntN(2)], e[0]+e[1]
				b -= a
			}
			e := api.Edge{min(a, b), max(a, b)}
			want := api.OK
			data = cloned(data)
			if !isEdge(data, a, b) {
				want = api.ErrEdge
			} else if data.Fixed = slices.DeleteFunc(data.Fixed, func(x api.Edge) bool { return x == e }); fixed {
				data.Fixed = append(data.Fixed, e)
				slices.SortFunc(data.Fixed, func(a, b api.Edge) int { return slices.Compare(a[:], b[:]) })
			}
			refused(t, "P1706: Fix", m.Fix(a, b, fixed), want)
			alike(t, "P1706: Tell", m.Tell(), data)
		}
		looked(t, m, data)
	})
}

func TestFixedEdgesStayWhereOthersAreFlipped(t *testing.T) {
	samples(6, 20, func(_ *rand.Rand, data api.Mesh) {
		m := opened(t, data)
		for _, e := range edgesOf(data) {
			m.Flip(e[0], e[1])
		}
		list(t, "P1707: Fixed", m.Tell().Fixed, data.Fixed)
		for _, e := range data.Fixed {
			refused(t, "P1706: Fix", m.Fix(e[1], e[0], false), api.OK)
		}
		if l := m.Tell().Fixed; len(l) > 0 {
			t.Errorf("P1706: still fixed: %v", l)
		}
	})
}

func TestMeshesWithoutSites(t *testing.T) {
	empty := opened(t, api.Mesh{})
	gone := opened(t, api.Mesh{Points: square(), Gone: []int{0, 1, 2, 3}})
	for i, m := range []*Mesh{empty, gone, {}, nil} {
		if m != gone {
			alike(t, "P1704: Tell", m.Tell(), api.Mesh{})
		}
		if len(m.Edges()) > 0 || len(m.Border()) > 0 || m.Sites() == nil || m.Sites().Len() > 0 {
			t.Errorf("P1705: mesh %d: %v, %v", i, m.Edges(), m.Border())
		}
		for x := range m.All() {
			t.Errorf("P1705: mesh %d: triangle %v", i, x)
		}
		for _, id := range []int{0, 1, -1, math.MaxInt} {
			l, e := m.Star(id)
			_, across := m.Across(id, 0)
			_, fixed := m.Fixed(0, id)
			if len(l) > 0 || e != api.ErrSite || across != api.ErrEdge || fixed != api.ErrEdge || m.Fix(id, 1, true) != api.ErrEdge || m.Fix(id, 1, false) != api.ErrEdge || m.Flip(id, 2) != api.ErrEdge {
				t.Errorf("P1705 to P1707: mesh %d, number %d: not refused as it should", i, id)
			}
		}
	}
	alike(t, "P1704: Tell", gone.Tell(), api.Mesh{Points: square(), Gone: []int{0, 1, 2, 3}})
}

func TestOneAndTwoSites(t *testing.T) {
	m := opened(t, api.Mesh{Points: square(), Gone: []int{0, 1, 3}})
	starred(t, m, 2)
	list(t, "P1705: Border", m.Border(), []int{2})
	list(t, "P1703: Edges", m.Edges(), nil)
	refused(t, "P1706: Fix", m.Fix(2, 2, true), api.ErrEdge)
	m = opened(t, api.Mesh{Points: square(), Gone: []int{0, 3}, Fixed: []api.Edge{{1, 2}}})
	starred(t, m, 2, 1)
	starred(t, m, 1, 2)
	list(t, "P1705: Border", m.Border(), []int{1, 2})
	list(t, "P1703: Edges", m.Edges(), []api.Edge{{1, 2}})
	refused(t, "P1706: Fix", m.Fix(1, 1, true), api.ErrEdge)
}

func TestAt(t *testing.T) {
	samples(30, 20, func(r *rand.Rand, data api.Mesh) {
		m := opened(t, data)
		set := m.Sites()
		for _, id := range numbers(data) {
			p, e := m.At(id)
			if want, wantError := set.At(id); p != want || e != wantError {
				t.Errorf("P1704: At(%d): %v, error %d; the sites' own is %v, %d", id, p, e, want, wantError)
			}
		}
	})
	for _, m := range []*Mesh{{}, nil} {
		p, e := m.At(0)
		if refused(t, "P1704: At", e, api.ErrSite); p != (api.Point{}) {
			t.Errorf("P1704: At: %v", p)
		}
	}
}
