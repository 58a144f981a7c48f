package mesh

import (
	"math/rand/v2"
	"slices"

	"plumb/api"
)

// maker lays triangles from the left to the right: each point, behind all that there are, is joined to what it sees.
type maker struct {
	points []api.Point
	rim    []int // counterclockwise; as long as all lie on one line: in order
	tris   []api.Tri
}

func (k *maker) bend(a, b, c int) int { return bend(k.points[a], k.points[b], k.points[c]) }

func (k *maker) lay(a, b, c int) { k.tris = append(k.tris, told(a, b, c)) }

// leave puts in the first point that is not on the line of the others.
func (k *maker) leave(id int) {
	l := k.rim
	if k.bend(l[0], l[1], id) < 0 {
		slices.Reverse(l)
	}
	for i := range len(l) - 1 {
		k.lay(l[i], l[i+1], id)
	}
	k.rim = append(l, id)
}

// join puts in a point where there are triangles.
func (k *maker) join(id int) {
	n := len(k.rim)
	sees := func(i int) bool { return k.bend(k.rim[i%n], k.rim[(i+1)%n], id) < 0 }
	first := 0
	for !sees(first) || sees(first+n-1) {
		first++
	}
	last := first
	for ; sees(last); last++ {
		k.lay(k.rim[last%n], id, k.rim[(last+1)%n])
	}
	rim := []int{id}
	for i := last; i <= first+n; i++ {
		rim = append(rim, k.rim[i%n])
	}
	k.rim = rim
}

// made is a triangulation of the points that are not gone.
func made(points []api.Point, gone ...int) api.Mesh {
	k := maker{points: points}
	order := []int{}
	for id := range points {
		if !slices.Contains(gone, id) {
			order = append(order, id)
		}
	}
	slices.SortFunc(order, func(a, b int) int { return before(points[a], points[b]) })
	for _, id := range order {
		switch {
		case len(k.tris) > 0:
			k.join(id)
		case len(k.rim) > 1 && k.bend(k.rim[0], k.rim[1], id) != 0:
			k.leave(id)
		default:
			k.rim = append(k.rim, id)
		}
	}
	slices.SortFunc(k.tris, func(a, b api.Tri) int { return slices.Compare(a[:], b[:]) })
	return api.Mesh{Points: points, Gone: gone, Tris: k.tris}
}

// coordinates are lists from which points are drawn: close together, so that many lie on one line, and some not tame.
func coordinates() [][]float64 {
	return [][]float64{
		{0, 1, 2, 3},
		{-1, 0, 1},
		{0, 1, 2, 3, 4, 5, 6, 7, 8, 9, 10, 11, 12},
		{0.1, 0.2, 0.3, 0.4, 0.5, 0.6, 0.7},
		{-tiny, 0, tiny, 2 * tiny, 3 * tiny},
		{-top, -1, -tiny, 0, tiny, 1, top},
		{1, 1 + 0x1p-52, 1 + 0x1p-51, 2, 3, 0x1p200, -0x1p-200},
	}
}

// drawn are n points, all of other places, of which some have the places of what is gone.
func drawn(r *rand.Rand, from []float64, n int) ([]api.Point, []int) {
	var points []api.Point
	var gone []int
	alive := map[api.Point]bool{}
	for range n {
		p := at(some(r, from), some(r, from))
		if alive[p] || r.IntN(5) == 0 {
			gone = append(gone, len(points))
		} else {
			alive[p] = true
		}
		points = append(points, p)
	}
	return points, gone
}

// sample is a mesh of drawn points with some edges fixed.
func sample(r *rand.Rand, from []float64, n int) api.Mesh {
	points, gone := drawn(r, from, n)
	m := made(points, gone...)
	for _, e := range edgesOf(m) {
		if r.IntN(4) == 0 {
			m.Fixed = append(m.Fixed, e)
		}
	}
	return m
}

// samples calls f with many meshes.
func samples(seed uint64, rounds int, f func(r *rand.Rand, m api.Mesh)) {
	r := seeded(seed)
	for _, from := range coordinates() {
		for i := range rounds {
			f(r, sample(r, from, i%14))
		}
	}
}
