package grow

import (
	"math/rand/v2"
	"slices"
	"testing"

	"plumb/api"
	"plumb/legal"
	"plumb/mesh"
)

// pairing is a mesh and what the document has it be.
type pairing struct {
	t    testing.TB
	r    *rand.Rand
	m    *mesh.Mesh
	want api.Mesh
	seen map[api.Errno]int
}

func (k *pairing) insert(p api.Point) {
	k.t.Helper()
	before := k.want
	var id int
	var e api.Errno
	k.want, id, e = insertOf(k.t, k.r, k.want, p)
	inserted(k.t, k.m, p, id, e)
	k.holds("P2001", before, e)
}

func (k *pairing) remove(id int) {
	k.t.Helper()
	before := k.want
	var e api.Errno
	k.want, e = removeOf(k.t, k.r, k.want, id)
	removed(k.t, k.m, id, e)
	k.holds("P2002", before, e)
}

func (k *pairing) holds(what string, before api.Mesh, e api.Errno) {
	k.t.Helper()
	k.seen[e]++
	stands(k.t, what, k.m, k.want)
	if k.t.Failed() {
		k.t.Fatalf("%s: from %v", what, before)
	}
	if e == api.OK && len(k.want.Fixed) == 0 && k.r.IntN(12) == 0 && !slices.Equal(k.want.Tris, delaunayOf(k.want)) {
		k.t.Fatalf("P2003: %v; the triangles without a site within their circles are %v", k.want, delaunayOf(k.want))
	}
}

// fix fixes one of the edges or lets it loose, so that it may be illegal then.
func (k *pairing) fix() {
	k.t.Helper()
	l := edgesOf(k.want)
	if len(l) == 0 {
		return
	}
	e := some(k.r, l)
	i, on := slices.BinarySearchFunc(k.want.Fixed, e, edgeOrder)
	if on {
		k.want.Fixed = slices.Delete(slices.Clone(k.want.Fixed), i, i+1)
	} else {
		k.want.Fixed = slices.Insert(slices.Clone(k.want.Fixed), i, e)
	}
	k.m.Fix(e[0], e[1], !on)
	stands(k.t, "P1706", k.m, k.want)
}

// flip flips one of the edges, so that others may be illegal then.
func (k *pairing) flip() {
	if l := edgesOf(k.want); len(l) > 0 {
		e := some(k.r, l)
		k.m.Flip(e[0], e[1])
		k.want = k.m.Tell()
	}
}

func (k *pairing) lawson() {
	k.t.Helper()
	legal.Lawson(k.m, len(k.want.Points)*len(k.want.Points))
	k.want = theOne(k.t, k.r, k.want)
	stands(k.t, "P1904", k.m, k.want)
}

// near is a point about the mesh: at a site, on an edge or within a triangle but for rounding, or anywhere.
func (k *pairing) near(from []float64) api.Point {
	points := k.want.Points
	mean := func(ids ...int) api.Point {
		var x, y float64
		for _, id := range ids {
			x += value(points[id].X) / float64(len(ids))
			y += value(points[id].Y) / float64(len(ids))
		}
		return at(x, y)
	}
	edges, tris := edgesOf(k.want), k.want.Tris
	switch k.r.IntN(8) {
	case 0, 1, 2:
		if len(edges) > 0 {
			e := some(k.r, edges)
			return mean(e[0], e[1])
		}
	case 3:
		if len(tris) > 0 {
			x := some(k.r, tris)
			return mean(x[0], x[1], x[2])
		}
	}
	return at(some(k.r, from), some(k.r, from))
}

func TestWhateverComesAndGoes(t *testing.T) {
	seen := map[api.Errno]int{}
	r := seeded(1)
	for _, from := range coordinates() {
		for i := range 15 {
			k := pairing{t, r, opened(t, api.Mesh{}), api.Mesh{}, seen}
			for range 50 {
				switch x := r.IntN(24); {
				case x < 12:
					k.insert(k.near(from))
				case x < 20 && len(aliveOf(k.want)) > 4+i/2, x == 20:
					k.remove(r.IntN(len(k.want.Points)+2) - 1)
				case x == 21 && i%3 > 0:
					k.fix()
				case x == 22 && i%3 > 1:
					k.flip()
				case x == 23:
					k.lawson()
				}
			}
		}
	}
	for _, e := range []api.Errno{api.OK, api.ErrSame, api.ErrSite, api.ErrFixed, api.ErrIllegal} {
		if seen[e] < 50 {
			t.Errorf("error %d came %d times: too few to tell", e, seen[e])
		}
	}
}

func TestInsertAnywhere(t *testing.T) {
	seen := map[api.Errno]int{}
	samples(t, 2, 38, func(r *rand.Rand, data api.Mesh, from []float64) {
		for range 4 {
			k := pairing{t, r, opened(t, data), data, seen}
			k.insert(k.near(from))
			k.insert(k.near(from))
		}
	})
	if seen[api.OK] < 600 || seen[api.ErrSame] < 100 {
		t.Errorf("P2001: %v: too few to tell", seen)
	}
}

func TestRemoveEach(t *testing.T) {
	seen := map[api.Errno]int{}
	samples(t, 3, 38, func(r *rand.Rand, data api.Mesh, from []float64) {
		for id := range len(data.Points) + 2 {
			k := pairing{t, r, opened(t, data), data, seen}
			k.remove(id - 1)
		}
	})
	if seen[api.OK] < 500 || seen[api.ErrSite] < 200 || seen[api.ErrFixed] < 200 {
		t.Errorf("P2002: %v: too few to tell", seen)
	}
}

func TestRemoveAll(t *testing.T) { // down to none, in any order
	samples(t, 4, 19, func(r *rand.Rand, data api.Mesh, from []float64) {
		data.Fixed = nil
		data = theOne(t, r, data)
		k := pairing{t, r, opened(t, data), data, map[api.Errno]int{}}
		for _, id := range r.Perm(len(data.Points)) {
			k.remove(id)
		}
		if l := aliveOf(k.want); len(l) > 0 {
			t.Fatalf("P2002: %v are left", l)
		}
		k.insert(at(5, 5)) // it goes on
		k.insert(at(6, 5))
		k.insert(at(6, 6))
	})
}

func TestThereAndBack(t *testing.T) { // what comes and goes leaves the mesh as it was but for the number
	samples(t, 5, 38, func(r *rand.Rand, data api.Mesh, from []float64) {
		data.Fixed = nil
		data = theOne(t, r, data)
		m := opened(t, data)
		k := pairing{t, r, m, data, nil}
		for range 8 {
			id, e := Insert(m, k.near(from))
			if e == api.ErrSame {
				continue
			}
			removed(t, m, id, api.OK)
		}
		if got := m.Tell(); !slices.Equal(got.Tris, data.Tris) {
			t.Fatalf("P2003: %v; it was %v", got, data)
		}
	})
}

func TestTheOrderIsNothing(t *testing.T) { // the same sites in another order, and others among them that go again
	samples(t, 6, 38, func(r *rand.Rand, data api.Mesh, from []float64) {
		data.Fixed, data.Gone = nil, slices.Clone(data.Gone)
		data = theOne(t, r, data)
		to := make([]int, len(data.Points))
		m := opened(t, api.Mesh{})
		var gone []int
		for _, id := range r.Perm(len(data.Points)) {
			if slices.Contains(data.Gone, id) {
				to[id] = -1
				continue
			}
			if other, e := Insert(m, at(some(r, from), some(r, from))); e == api.OK {
				gone = append(gone, other)
			}
			k, e := Insert(m, data.Points[id])
			if e == api.ErrSame { // the other one is there: it stays
				gone = slices.DeleteFunc(gone, func(other int) bool { return other == k })
			}
			to[id] = k
		}
		for _, id := range gone {
			removed(t, m, id, api.OK)
		}
		var want []api.Tri
		for _, x := range data.Tris {
			want = append(want, told(to[x[0]], to[x[1]], to[x[2]]))
		}
		slices.SortFunc(want, triOrder)
		if got := m.Tell().Tris; !slices.Equal(got, want) {
			t.Fatalf("P2003: %v; want %v; in %v", got, want, data)
		}
	})
}

func TestOtherNumbers(t *testing.T) {
	samples(t, 7, 38, func(r *rand.Rand, data api.Mesh, from []float64) {
		to := r.Perm(len(data.Points))
		m, o := opened(t, data), opened(t, renumbered(data, to))
		k := pairing{t, r, m, data, nil}
		for range 3 {
			p := k.near(from)
			id, e := Insert(m, p)
			other, otherError := Insert(o, p)
			if e == api.OK {
				to = append(to, id)
			}
			if e != otherError || other != to[id] {
				t.Fatalf("P2003: Insert(%v): %d, error %d; with other numbers %d, error %d", p, id, e, other, otherError)
			}
		}
		for id := range len(data.Points) {
			if e, otherError := Remove(m, id), Remove(o, to[id]); e != otherError {
				t.Fatalf("P2003: Remove(%d): error %d; with other numbers %d", id, e, otherError)
			}
		}
		stands(t, "P2003: with other numbers", o, renumbered(m.Tell(), to))
	})
}
