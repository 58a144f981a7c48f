package locate

import (
	"math/rand/v2"
	"reflect"
	"slices"
	"testing"

	"plumb/api"
	"plumb/mesh"
)

// marked writes over a list, its spare room too.
func marked[T any](l []T, mark T) {
	l = l[:cap(l)]
	for i := range l {
		l[i] = mark
	}
}

// answers are all lists that are told of a mesh.
func answers(m *mesh.Mesh, data api.Mesh, points []api.Point) (tris [][]api.Tri, places [][]api.Place) {
	for _, tri := range data.Tris {
		for _, p := range points {
			_, l, _ := Walk(m, tri, p)
			tris = append(tris, l)
		}
	}
	for a := range data.Points {
		for b := range data.Points {
			l, _ := Pierce(m, a, b)
			places = append(places, l)
		}
	}
	return tris, places
}

func equalLists[T comparable](a, b [][]T) bool { return slices.EqualFunc(a, b, slices.Equal[[]T]) }

func TestNothingChanges(t *testing.T) {
	samples(t, 8, 16, func(r *rand.Rand, data api.Mesh, from []float64) {
		m := opened(t, data)
		before := m.Tell()
		points := append(asked(r, data, from), strange()...)
		for _, p := range points {
			In(m, p)
		}
		tris, places := answers(m, data, points)
		if !reflect.DeepEqual(m.Tell(), before) {
			t.Fatalf("P1806: %v; it was %v", m.Tell(), before)
		}
		wantTris, wantPlaces := answers(m, data, points) // the same a second time
		for i := range tris {
			if !slices.Equal(tris[i], wantTris[i]) {
				t.Fatalf("P1806: %v; want %v", tris[i], wantTris[i])
			}
			marked(tris[i], api.Tri{-7, -7, -7}) // one after the other, so that what two share is seen
		}
		for i := range places {
			if !slices.Equal(places[i], wantPlaces[i]) {
				t.Fatalf("P1806: %v; want %v", places[i], wantPlaces[i])
			}
			marked(places[i], api.Place{Kind: -7})
		}
		if !reflect.DeepEqual(m.Tell(), before) {
			t.Fatalf("P1806: %v; it was %v, until what was answered was written over", m.Tell(), before)
		}
		tris, places = answers(m, data, points)
		if !equalLists(tris, wantTris) || !equalLists(places, wantPlaces) {
			t.Fatalf("P1806: other answers, since what was answered was written over")
		}
	})
}

func TestOldAnswersStay(t *testing.T) {
	samples(t, 9, 12, func(r *rand.Rand, data api.Mesh, from []float64) {
		m := opened(t, data)
		points := asked(r, data, from)
		tris, places := answers(m, data, points)
		wantTris, wantPlaces := answers(opened(t, data), data, points)
		for _, e := range m.Edges() {
			m.Fix(e[0], e[1], false)
			m.Flip(e[0], e[1])
		}
		if !equalLists(tris, wantTris) || !equalLists(places, wantPlaces) {
			t.Fatalf("P1806: answers changed with the mesh")
		}
		after := m.Tell() // and what is asked then is asked of the mesh as it is then
		for _, p := range points {
			inned(t, m, p, placesOf(after, p)[0], api.OK)
		}
	})
}
