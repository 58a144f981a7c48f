package locate

import (
	"math/rand/v2"
	"slices"
	"testing"

	"plumb/api"
	"plumb/mesh"
	"plumb/tie"
)

// maker lays triangles from the left to the right: each point, behind all that there are, is joined to what it sees.
type maker struct {
	points []api.Point
	rim    []int // counterclockwise; as long as all lie on one line: in order
	tris   []api.Tri
}

func (k *maker) bend(a, b, c int) int { return bend(k.points[a], k.points[b], k.points[c]) }

func (k *maker) lay(a, b, c int) { k.tris = append(k.tris, leastFirst(a, b, c)) }

// leave puts in the first point that is not on the line of the others.
func (k *maker) leave(id int) {
	l := k.rim
	if k.bend(l[0], l[1], id) < 0 {
		slices.Reverse(l)
	}
	for i := range len(l) - 1 {
		k.lay(l[i], l[i+1], id)
	}
	k.rim = append(l, id)
}

// join puts in a point where there are triangles.
func (k *maker) join(id int) {
	n := len(k.rim)
	sees := func(i int) bool { return k.bend(k.rim[i%n], k.rim[(i+1)%n], id) < 0 }
	first := 0
	for !sees(first) || sees(first+n-1) {
		first++
	}
	last := first
	for ; sees(last); last++ {
		k.lay(k.rim[last%n], id, k.rim[(last+1)%n])
	}
	rim := []int{id}
	for i := last; i <= first+n; i++ {
		rim = append(rim, k.rim[i%n])
	}
	k.rim = rim
}

// made is a triangulation of the points that are not gone.
func made(points []api.Point, gone ...int) api.Mesh {
	k := maker{points: points}
	order := orderOf(api.Mesh{Points: points, Gone: gone})
	for _, id := range order {
		switch {
		case len(k.tris) > 0:
			k.join(id)
		case len(k.rim) > 1 && k.bend(k.rim[0], k.rim[1], id) != 0:
			k.leave(id)
		default:
			k.rim = append(k.rim, id)
		}
	}
	slices.SortFunc(k.tris, func(a, b api.Tri) int { return slices.Compare(a[:], b[:]) })
	return api.Mesh{Points: points, Gone: gone, Tris: k.tris}
}

// coordinates are lists from which points are drawn: close together, so that many lie on one line, and some not tame.
func coordinates() [][]float64 {
	return [][]float64{
		{0, 1, 2, 3},
		{-1, 0, 1},
		{0, 1, 2, 3, 4, 5, 6, 7, 8, 9, 10, 11, 12},
		{0.1, 0.2, 0.3, 0.4, 0.5, 0.6, 0.7},
		{-tiny, 0, tiny, 2 * tiny, 3 * tiny},
		{-top, -1, -tiny, 0, tiny, 1, top},
		{1, 1 + 0x1p-52, 1 + 0x1p-51, 2, 3, 0x1p200, -0x1p-200},
	}
}

// drawn are n points, of which those that have the place of another one, and some more, are gone.
func drawn(r *rand.Rand, from []float64, n int) ([]api.Point, []int) {
	var points []api.Point
	var gone []int
	alive := map[api.Point]bool{}
	for range n {
		p := at(some(r, from), some(r, from))
		if alive[p] || r.IntN(6) == 0 {
			gone = append(gone, len(points))
		} else {
			alive[p] = true
		}
		points = append(points, p)
	}
	return points, gone
}

// flipped are data of which many edges were flipped, and some fixed.
func flipped(t testing.TB, r *rand.Rand, data api.Mesh) api.Mesh {
	m := opened(t, data)
	for range 3 {
		for _, e := range m.Edges() {
			if r.IntN(2) == 0 {
				m.Flip(e[0], e[1])
			}
		}
	}
	for _, e := range m.Edges() {
		m.Fix(e[0], e[1], r.IntN(5) == 0)
	}
	return m.Tell()
}

// samples calls f with many meshes, and with coordinates about their sites.
func samples(t testing.TB, seed uint64, rounds int, f func(r *rand.Rand, data api.Mesh, from []float64)) {
	r := seeded(seed)
	for _, from := range coordinates() {
		for i := range rounds {
			points, gone := drawn(r, from, i%16)
			f(r, flipped(t, r, made(points, gone...)), from)
		}
	}
}

// asked are points about a mesh: its sites, what lies on its edges and within its triangles but for rounding, and others.
func asked(r *rand.Rand, data api.Mesh, from []float64) []api.Point {
	l := slices.Clone(data.Points)
	mean := func(ids ...int) api.Point {
		var x, y float64
		for _, id := range ids {
			x += value(data.Points[id].X) / float64(len(ids))
			y += value(data.Points[id].Y) / float64(len(ids))
		}
		return at(x, y)
	}
	for _, e := range edgesOf(data) {
		p := mean(e[0], e[1])
		l = append(l, p, api.Point{X: nextTo(p.X), Y: p.Y}, api.Point{X: p.X, Y: nextTo(p.Y)})
	}
	for _, x := range data.Tris {
		l = append(l, mean(x[0], x[1], x[2]))
	}
	for range 8 {
		l = append(l, at(some(r, from), some(r, from)), at(2*some(r, from)-some(r, from), some(r, from)))
	}
	l = append(l, api.Point{X: minus0, Y: minus0}, at(top, top), at(-top, tiny), at(0, -top))
	return slices.DeleteFunc(l, func(p api.Point) bool { return p.X&api.Inf == api.Inf || p.Y&api.Inf == api.Inf })
}

// nextTo are the bits of the next float, away from 0.
func nextTo(b int) int { return b + 1 }

// legal is the mesh of the same sites of which all edges are legal, and none is fixed.
func legal(t testing.TB, data api.Mesh) *mesh.Mesh {
	data.Fixed = nil
	m := opened(t, data)
	for again := true; again; {
		again = false
		for _, e := range m.Edges() {
			a, b := e[0], e[1]
			c, left := m.Across(a, b)
			d, right := m.Across(b, a)
			if left != api.OK || right != api.OK {
				continue
			}
			v, _ := tie.Side(data.Points[a], data.Points[b], data.Points[c], data.Points[d])
			if v.Sign == 1 {
				m.Flip(a, b)
				again = true
			}
		}
	}
	return m
}
