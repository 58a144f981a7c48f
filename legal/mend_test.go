package legal

import (
	"math"
	"math/rand/v2"
	"slices"
	"testing"

	"plumb/api"
)

func TestMend(t *testing.T) { // of edges in any order, some twice, some legal, some none
	flips := 0
	samples(10, 46, func(r *rand.Rand, data api.Mesh) {
		m, o := opened(t, data), opened(t, data)
		doubtful := illegalOf(data)
		flips += len(doubtful)
		for range 6 {
			doubtful = append(doubtful, pair(r.IntN(len(data.Points)+1), r.IntN(len(data.Points)+1)))
		}
		doubtful = append(doubtful, doubtful...)
		r.Shuffle(len(doubtful), func(i, k int) { doubtful[i], doubtful[k] = doubtful[k], doubtful[i] })
		kept := slices.Clone(doubtful)
		Mend(m, doubtful)
		if !slices.Equal(doubtful, kept) {
			t.Fatalf("P1905: what was handed in is %v; it was %v", doubtful, kept)
		}
		Lawson(o, math.MaxInt)
		stands(t, "P1904: mended", m, o.Tell())
		listed(t, m)
	})
	if flips < 300 {
		t.Errorf("P1904: %d illegal ones: too few to tell", flips)
	}
}

func TestMendLooksAtTheDoubtfulAlone(t *testing.T) {
	data := kiteMesh(1)
	data.Tris = []api.Tri{{0, 1, 2}, {0, 2, 3}}
	m := opened(t, data)
	Mend(m, nil)
	Mend(m, []api.Edge{{0, 1}, {1, 2}, {1, 3}, {-1, 7}, {math.MinInt, math.MaxInt}})
	stands(t, "P1904: nothing doubtful", m, data)
	Mend(m, []api.Edge{{0, 2}})
	stands(t, "P1904: mended", m, kiteMesh(1))
	Mend(nil, []api.Edge{{0, 1}})
}
