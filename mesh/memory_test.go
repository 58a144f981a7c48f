package mesh

import (
	"math/rand/v2"
	"reflect"
	"slices"
	"testing"

	"plumb/api"
)

// marked writes over a list, its spare room too, and behind it.
func marked[T any](l []T, mark T) {
	l = l[:cap(l)]
	for i := range l {
		l[i] = mark
	}
	_ = append(l, mark, mark)
	_ = append(l[:0], mark, mark, mark)
}

func markedMesh(m api.Mesh) {
	marked(m.Points, api.Point{X: 7, Y: 7})
	marked(m.Gone, -7)
	marked(m.Fixed, api.Edge{-7, -7})
	marked(m.Tris, api.Tri{-7, -7, -7})
}

// roomy is data with spare room behind each list, which is not handed in.
func roomy(m api.Mesh) (api.Mesh, api.Mesh) {
	all := api.Mesh{
		Points: append(slices.Clone(m.Points), at(71, 71), at(72, 72)),
		Gone:   append(slices.Clone(m.Gone), 73, 74),
		Fixed:  append(slices.Clone(m.Fixed), api.Edge{75, 76}, api.Edge{77, 78}),
		Tris:   append(slices.Clone(m.Tris), api.Tri{79, 80, 81}, api.Tri{82, 83, 84}),
	}
	return all, api.Mesh{Points: all.Points[:len(m.Points)], Gone: all.Gone[:len(m.Gone)], Fixed: all.Fixed[:len(m.Fixed)], Tris: all.Tris[:len(m.Tris)]}
}

// flippedAll changes a mesh all over.
func flippedAll(m *Mesh) {
	for _, e := range m.Edges() {
		m.Fix(e[0], e[1], false)
		m.Flip(e[0], e[1])
		m.Fix(e[0], e[1], true)
	}
}

func TestWhatIsHandedIn(t *testing.T) {
	samples(60, 30, func(r *rand.Rand, data api.Mesh) {
		all, part := roomy(data)
		kept := cloned(all)
		m := opened(t, part)
		Check(part)
		Check(spoiled(r, part))
		alike(t, "P1709: what was handed in", all, kept)
		markedMesh(all) // were it kept, the mesh would show it
		looked(t, m, data)
		all, part = roomy(data)
		m = opened(t, part)
		flippedAll(m)
		alike(t, "P1709: what was handed in, when the mesh changes", all, kept)
	})
}

// lists are all lists that a mesh tells, each twice.
func lists(m *Mesh) (ints [][]int, edges [][]api.Edge, meshes []api.Mesh) {
	for range 2 {
		ints = append(ints, m.Border())
		edges = append(edges, m.Edges())
		meshes = append(meshes, m.Tell())
		for id := range m.Tell().Points {
			l, _ := m.Star(id)
			ints = append(ints, l)
		}
	}
	return ints, edges, meshes
}

func TestAnswersAreNewMemory(t *testing.T) {
	samples(61, 20, func(_ *rand.Rand, data api.Mesh) {
		m := opened(t, data)
		ints, edges, meshes := lists(m)
		wantInts, wantEdges, wantMeshes := lists(m)
		for i := range ints { // one after the other, so that what two share is seen
			list(t, "P1709: a list", ints[i], wantInts[i])
			marked(ints[i], -7)
		}
		for i := range edges {
			list(t, "P1709: edges", edges[i], wantEdges[i])
			marked(edges[i], api.Edge{-7, -7})
		}
		for i := range meshes {
			alike(t, "P1709: data", meshes[i], wantMeshes[i])
			markedMesh(meshes[i])
		}
		looked(t, m, data)
		flippedAll(m)
		checked(t, m.Tell(), 0, api.OK)
		ints, _, _ = lists(opened(t, data))
		if !reflect.DeepEqual(ints, wantInts) {
			t.Errorf("P1709: answers changed with the mesh: %v, then %v", wantInts, ints)
		}
	})
}

func TestOldAnswersStay(t *testing.T) {
	samples(62, 20, func(_ *rand.Rand, data api.Mesh) {
		m, other := opened(t, data), opened(t, data)
		ints, edges, meshes := lists(m)
		set := m.Sites()
		flippedAll(m)
		wantInts, wantEdges, wantMeshes := lists(other) // two meshes have nothing in common
		for i := range ints {
			list(t, "P1709: a list", ints[i], wantInts[i])
		}
		for i := range edges {
			list(t, "P1709: edges", edges[i], wantEdges[i])
		}
		for i := range meshes {
			alike(t, "P1709: data", meshes[i], wantMeshes[i])
		}
		list(t, "P1704: Sites", set.Points(), data.Points)
		looked(t, other, data)
	})
}

func TestSitesAreApart(t *testing.T) {
	samples(63, 20, func(_ *rand.Rand, data api.Mesh) {
		m := opened(t, data)
		set, second := m.Sites(), m.Sites()
		for _, id := range set.Alive() {
			set.Drop(id)
		}
		if id, e := set.Add(at(100, 100)); id != len(data.Points) || e != api.OK {
			t.Errorf("P1704: Add: %d, error %d", id, e)
		}
		list(t, "P1704: another set", second.Points(), data.Points)
		list(t, "P1704: another set", second.Gone(), data.Gone)
		looked(t, m, data)
		for _, id := range second.Alive() {
			p := data.Points[id]
			if found, ok := second.Find(p); found != id || !ok {
				t.Errorf("P1704: Find: %d, %v; want %d", found, ok, id)
			}
			if found, e := second.Add(p); found != id || e != api.ErrSame {
				t.Errorf("P1704: Add: %d, error %d; want %d", found, e, id)
			}
		}
	})
}

func TestRefusedCallsChangeNothing(t *testing.T) {
	samples(64, 14, func(_ *rand.Rand, data api.Mesh) {
		m := opened(t, data)
		for _, a := range numbers(data) {
			m.Star(a)
			for _, b := range numbers(data) {
				m.Across(a, b)
				m.Fixed(a, b)
				if !isEdge(data, a, b) {
					refused(t, "P1706: Fix", m.Fix(a, b, true), api.ErrEdge)
					refused(t, "P1706: Fix", m.Fix(a, b, false), api.ErrEdge)
				}
				if _, e := flipOf(data, a, b); e != api.OK {
					refused(t, "P1707: Flip", m.Flip(a, b), e)
				}
			}
		}
		looked(t, m, data)
	})
}
