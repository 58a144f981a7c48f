package delaunay

import (
	"math/rand/v2"
	"slices"
	"testing"

	"plumb/api"
)

// marked writes over a list, its spare room too.
func marked[T any](l []T, mark T) {
	l = l[:cap(l)]
	for i := range l {
		l[i] = mark
	}
}

// answers are what all calls answer, of data that are a mesh.
type answers struct {
	built, again api.Mesh
	is           bool
	tree         []api.Edge
	sum          api.Num
	tris         []api.Tri
}

func answersOf(data api.Mesh) answers {
	var a answers
	a.built, _, _ = Build(data.Points)
	a.again, _ = Again(data)
	a.is, _ = Is(data)
	a.tree, a.sum, _ = Tree(data)
	a.tris, _ = Triangles(data.Points)
	return a
}

func (a answers) equals(b answers) bool {
	return alike(a.built, b.built) && alike(a.again, b.again) && a.is == b.is && slices.Equal(a.tree, b.tree) && a.sum.Exp == b.sum.Exp && slices.Equal(a.sum.Mag, b.sum.Mag) && slices.Equal(a.tris, b.tris)
}

// spoil writes over all lists.
func (a answers) spoil() {
	for _, m := range []api.Mesh{a.built, a.again} {
		marked(m.Points, at(7, 7))
		marked(m.Gone, -7)
		marked(m.Fixed, api.Edge{-7, -7})
		marked(m.Tris, api.Tri{-7, -7, -7})
	}
	marked(a.tree, api.Edge{-7, -7})
	marked(a.sum.Mag, -7)
	marked(a.tris, api.Tri{-7, -7, -7})
}

func TestAnswersAreNewMemory(t *testing.T) {
	samples(9, 38, func(r *rand.Rand, data api.Mesh, _ []float64) {
		whole := api.Mesh{ // with spare room
			Points: append(slices.Clone(data.Points), at(71, 71), at(72, 72)),
			Gone:   append(slices.Clone(data.Gone), 73, 74),
			Fixed:  append(slices.Clone(data.Fixed), api.Edge{75, 76}),
			Tris:   append(slices.Clone(data.Tris), api.Tri{77, 78, 79}),
		}
		kept := cloned(whole)
		part := api.Mesh{Points: whole.Points[:len(data.Points)], Gone: whole.Gone[:len(data.Gone)], Fixed: whole.Fixed[:len(data.Fixed)], Tris: whole.Tris[:len(data.Tris)]}
		first, second := answersOf(part), answersOf(part)
		if !first.equals(second) {
			t.Fatalf("the same twice: %v and %v; of %v", first, second, data)
		}
		first.spoil()
		if !alike(whole, kept) {
			t.Fatalf("what was handed in is %v; it was %v", whole, kept)
		}
		if third := answersOf(part); !second.equals(third) {
			t.Fatalf("behind other calls: %v; it was %v; of %v", third, second, data)
		}
	})
}

func TestListsAreTheirOwn(t *testing.T) { // also where there is little in them
	for _, data := range []api.Mesh{
		{Points: []api.Point{at(1, 2)}},
		{Points: []api.Point{at(1, 2), at(3, 4)}, Gone: []int{1}},
		{Points: []api.Point{at(0, 0), at(2, 0), at(0, 2)}, Tris: []api.Tri{{0, 1, 2}}, Fixed: []api.Edge{{0, 1}}},
	} {
		want := cloned(data)
		answersOf(data).spoil()
		if !alike(data, want) {
			t.Errorf("what was handed in is %v; it was %v", data, want)
		}
		if m, e := Again(data); e != api.OK || len(m.Fixed) > 0 || !slices.Equal(m.Points, want.Points) {
			t.Errorf("P2103: Again(%v): %v, error %d", want, m, e)
		}
	}
}
