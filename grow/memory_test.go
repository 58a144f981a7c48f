package grow

import (
	"math/rand/v2"
	"slices"
	"testing"

	"plumb/api"
	"plumb/mesh"
)

// refusals are all kinds of calls that a mesh refuses.
func refusals(m *mesh.Mesh, data api.Mesh) {
	for _, p := range append(strange(), data.Points...) {
		if !slices.Contains(aliveOf(data), slices.Index(data.Points, p)) && !isNone(p.X) && !isNone(p.Y) {
			continue
		}
		Insert(m, p)
	}
	for _, id := range append(data.Gone, -1, len(data.Points), api.MaxSites) {
		Remove(m, id)
	}
	for _, e := range data.Fixed {
		Remove(m, e[0])
		Remove(m, e[1])
	}
}

func TestRefusedCallsChangeNothing(t *testing.T) {
	samples(t, 20, 19, func(r *rand.Rand, data api.Mesh, from []float64) {
		m := opened(t, data)
		refusals(m, data)
		stands(t, "P2004", m, data)
		for _, e := range m.Edges() { // not the one any more, if it can be flipped
			if m.Flip(e[0], e[1]) == api.OK {
				data = m.Tell()
				break
			}
		}
		if isLegal(data) {
			return
		}
		for range 8 {
			Insert(m, at(some(r, from), some(r, from)))
			Remove(m, r.IntN(len(data.Points)))
		}
		stands(t, "P2004", m, data)
	})
}

// marked writes over a list, its spare room too.
func marked[T any](l []T, mark T) {
	l = l[:cap(l)]
	for i := range l {
		l[i] = mark
	}
}

// changed puts many sites in, and takes many out.
func changed(r *rand.Rand, m *mesh.Mesh, from []float64) {
	for range 12 {
		Insert(m, at(some(r, from), some(r, from)))
		Remove(m, r.IntN(len(m.Tell().Points)+1))
	}
}

func TestMeshesAreApart(t *testing.T) {
	samples(t, 21, 19, func(r *rand.Rand, data api.Mesh, from []float64) {
		all := api.Mesh{ // with spare room
			Points: append(slices.Clone(data.Points), at(71, 71), at(72, 72)),
			Gone:   append(slices.Clone(data.Gone), 73, 74),
			Fixed:  append(slices.Clone(data.Fixed), api.Edge{75, 76}),
			Tris:   append(slices.Clone(data.Tris), api.Tri{77, 78, 79}),
		}
		kept := api.Mesh{Points: slices.Clone(all.Points), Gone: slices.Clone(all.Gone), Fixed: slices.Clone(all.Fixed), Tris: slices.Clone(all.Tris)}
		part := api.Mesh{Points: all.Points[:len(data.Points)], Gone: all.Gone[:len(data.Gone)], Fixed: all.Fixed[:len(data.Fixed)], Tris: all.Tris[:len(data.Tris)]}
		m, other := opened(t, part), opened(t, part)
		before, set := m.Tell(), m.Sites()
		border, edges := m.Border(), m.Edges()
		changed(r, m, from)
		if !alike(all, kept) {
			t.Fatalf("P2004: what a mesh was opened from is %v; it was %v", all, kept)
		}
		stands(t, "P2004: another mesh", other, data)
		if !alike(before, data) || !slices.Equal(border, other.Border()) || !slices.Equal(edges, other.Edges()) || !slices.Equal(set.Points(), data.Points) || !slices.Equal(set.Gone(), data.Gone) {
			t.Fatalf("P2004: what was told of %v changed with the mesh", data)
		}
		after := m.Tell()
		for _, told := range []api.Mesh{m.Tell(), before} {
			marked(told.Points, at(7, 7))
			marked(told.Gone, -7)
			marked(told.Fixed, api.Edge{-7, -7})
			marked(told.Tris, api.Tri{-7, -7, -7})
		}
		changed(r, other, from)
		stands(t, "P2004: the mesh", m, after)
	})
}

func TestTheSameTwice(t *testing.T) { // what a mesh tells hangs on what it was told alone
	samples(t, 22, 19, func(r *rand.Rand, data api.Mesh, from []float64) {
		m, other := opened(t, data), opened(t, data)
		seed := r.Uint64()
		changed(seeded(seed), m, from)
		changed(seeded(seed), other, from)
		stands(t, "P2003: the same again", m, other.Tell())
	})
}

func TestGrowingWhileRangedOver(t *testing.T) {
	samples(t, 23, 7, func(r *rand.Rand, data api.Mesh, from []float64) {
		k := pairing{t, r, opened(t, data), data, map[api.Errno]int{}}
		var last api.Tri
		for x := range k.m.All() {
			i := slices.IndexFunc(k.want.Tris, func(x api.Tri) bool { return triOrder(x, last) > 0 })
			if i < 0 || x != k.want.Tris[i] {
				t.Fatalf("P1705: All yields %v behind %v of %v", x, last, k.want.Tris)
			}
			last = x
			k.insert(k.near(from))
			k.remove(r.IntN(len(k.want.Points)))
			if len(k.want.Points) > 24 {
				break
			}
		}
	})
}
