package legal

import (
	"math/rand/v2"
	"slices"
	"testing"

	"plumb/api"
)

// marked writes over a list, its spare room too.
func marked(l []api.Edge) {
	l = l[:cap(l)]
	for i := range l {
		l[i] = api.Edge{-7, -7}
	}
}

func TestWhatIsAskedChangesNothing(t *testing.T) {
	samples(7, 23, func(_ *rand.Rand, data api.Mesh) {
		m := opened(t, data)
		for a := range len(data.Points) + 2 {
			for b := range len(data.Points) + 2 {
				Legal(m, a-1, b-1)
			}
		}
		first, second := Illegal(m), Illegal(m)
		if !slices.Equal(first, second) {
			t.Fatalf("P1905: %v, then %v", first, second)
		}
		marked(first)
		listed(t, m, second...)
		marked(second)
		listed(t, m, illegalOf(data)...)
		Lawson(m, 0)
		Lawson(m, -1)
		stands(t, "P1905: what was asked about", m, data)
	})
}

func TestLawsonChangesTrianglesAlone(t *testing.T) {
	samples(8, 46, func(_ *rand.Rand, data api.Mesh) {
		m, other := opened(t, data), opened(t, data)
		edges, told, set, border := Illegal(m), m.Tell(), m.Sites(), m.Border()
		want := slices.Clone(edges)
		Lawson(m, 3)
		marked(Illegal(m))
		Lawson(m, len(data.Points)*len(data.Points))
		after := m.Tell()
		if !slices.Equal(after.Points, data.Points) || !slices.Equal(after.Gone, data.Gone) || !slices.Equal(after.Fixed, data.Fixed) || !slices.Equal(m.Border(), border) {
			t.Fatalf("P1905: %v became %v", data, after)
		}
		if !slices.Equal(edges, want) || !alike(told, data) || !slices.Equal(set.Points(), data.Points) {
			t.Fatalf("P1905: what was answered has changed with the mesh %v", data)
		}
		stands(t, "P1905: another mesh", other, data)
		stands(t, "P1905: the mesh", opened(t, after), after)
	})
}
