package mesh

import (
	"math/big"
	"math/rand/v2"
	"slices"
	"testing"

	"plumb/api"
)

func TestCounts(t *testing.T) {
	samples(80, 40, func(r *rand.Rand, data api.Mesh) {
		m := opened(t, data)
		for range 3 {
			n, b := len(aliveOf(data)), len(m.Border())
			if !isLine(data) && (len(m.Tell().Tris) != 2*n-2-b || len(m.Edges()) != 3*n-3-b) {
				t.Errorf("P1708: %d sites, %d on the border: %d triangles, %d edges", n, b, len(m.Tell().Tris), len(m.Edges()))
			}
			if area, want := areas(m.Tell()), areaWithin(data); area.Cmp(want) != 0 {
				t.Errorf("P1708: the triangles have the area %d of %d", area, want)
			}
			flippedAll(m)
		}
	})
}

// areas are those of all triangles, twice.
func areas(m api.Mesh) *big.Int {
	sum := new(big.Int)
	for _, x := range m.Tris {
		sum.Add(sum, twice(m.Points[x[0]], m.Points[x[1]], m.Points[x[2]]))
	}
	return sum
}

// areaWithin is that of the hull, twice.
func areaWithin(m api.Mesh) *big.Int {
	sum, border := new(big.Int), borderOf(m)
	for i := range len(border) - 1 {
		sum.Add(sum, twice(m.Points[border[0]], m.Points[border[i]], m.Points[border[i+1]]))
	}
	return sum
}

// hub are as many sites as there may be: the last one in the middle of all others, which lie on the border.
func hub() api.Mesh {
	const n = api.MaxSites - 1
	var m api.Mesh
	for i := range n { // a bowl
		x := float64(i - n/2)
		m.Points = append(m.Points, at(x, x*x))
	}
	m.Points = append(m.Points, at(0, 1<<20))
	m.Tris = append(m.Tris, api.Tri{0, 1, n}, api.Tri{0, n, n - 1})
	for i := range n - 2 {
		m.Tris = append(m.Tris, api.Tri{i + 1, i + 2, n})
	}
	return m
}

func TestAHub(t *testing.T) {
	data := hub()
	n := len(data.Points) - 1
	m := opened(t, data)
	list(t, "P1705: All", slices.Collect(m.All()), data.Tris)
	star, _ := m.Star(n)
	if len(star) != n || star[0] != 0 || !slices.IsSorted(star) || len(m.Border()) != n || len(m.Edges()) != 2*n {
		t.Fatalf("P1705: %d about the hub, %d on the border, %d edges", len(star), len(m.Border()), len(m.Edges()))
	}
	flips := 0
	for x := range m.All() { // each spoke in its turn, while all are gone over
		if x[2] == n && m.Flip(x[1], n) == api.OK {
			flips++
		}
	}
	if flips < n/2 {
		t.Errorf("P1707: %d flips at the hub", flips)
	}
	checked(t, m.Tell(), 0, api.OK)
}

func TestAHubThatIsTheLeast(t *testing.T) { // all triangles have the same first corner
	const n = api.MaxSites - 1
	data := api.Mesh{Points: []api.Point{at(0, 1<<40)}}
	for i := range n {
		x := float64(i - n/2)
		data.Points = append(data.Points, at(x, 0-x*x))
	}
	for i := range n - 1 {
		data.Tris = append(data.Tris, api.Tri{0, i + 1, i + 2})
	}
	_, e := Check(data)
	refused(t, "P1702: a bowl that is upside down", e, api.ErrMesh)
	for i := range n { // now all of them see the hub, and the border is the rim
		data.Points[i+1] = at(float64(i-n/2), float64((i-n/2)*(i-n/2)))
	}
	m := opened(t, data)
	list(t, "P1705: All", slices.Collect(m.All()), data.Tris)
	flips := 0
	for x := range m.All() {
		if m.Flip(0, x[2]) == api.OK {
			flips++
		}
	}
	if flips < n/3 {
		t.Errorf("P1707: %d flips at the hub", flips)
	}
	checked(t, m.Tell(), 0, api.OK)
}

func TestAsManyAsThereMayBe(t *testing.T) {
	var line api.Mesh
	for i := range api.MaxSites {
		line.Points = append(line.Points, at(float64(i*40503%api.MaxSites), 3))
	}
	m := opened(t, line)
	if len(m.Edges()) != api.MaxSites-1 || len(m.Border()) != api.MaxSites {
		t.Errorf("P1703: %d edges of a line", len(m.Edges()))
	}
	starred(t, m, 0, m.Border()[1])
	for _, p := range []api.Point{at(-1, 3), line.Points[0], {X: api.NaN}, {X: minus0}} {
		more := api.Mesh{Points: append(slices.Clip(line.Points), p), Gone: []int{-1}, Tris: []api.Tri{{}}}
		_, e := Check(more)
		refused(t, "P1702: one too many", e, api.ErrMany)
		more.Points[3] = p // what else is wrong is not told
		place, e := Check(more)
		refused(t, "P1702: one too many", e, api.ErrMany)
		o, place2, _ := Open(more)
		if o != nil || place != 0 || place2 != 0 {
			t.Errorf("P1702: one too many: %d, %d", place, place2)
		}
	}
}

// grid is a mesh of side times side sites.
func grid(side int) api.Mesh {
	var m api.Mesh
	for i := range side * side {
		m.Points = append(m.Points, at(float64(i%side), float64(i/side)))
	}
	for i := range side * side {
		if i%side < side-1 && i/side < side-1 {
			m.Tris = append(m.Tris, api.Tri{i, i + 1, i + side + 1}, api.Tri{i, i + side + 1, i + side})
		}
	}
	return m
}

func TestAGrid(t *testing.T) {
	const side = 250
	data := grid(side)
	m := opened(t, data)
	list(t, "P1705: All", slices.Collect(m.All()), data.Tris)
	r := seeded(90)
	edges := m.Edges()
	flips := 0
	for range 200000 {
		e := some(r, edges)
		if m.Flip(e[0], e[1]) == api.OK {
			flips++
		}
	}
	after := m.Tell()
	checked(t, after, 0, api.OK)
	if n, b := side*side, 4*(side-1); flips < 10000 || len(after.Tris) != 2*n-2-b || len(m.Edges()) != 3*n-3-b || len(m.Border()) != b {
		t.Errorf("P1708: %d flips; %d triangles, %d edges", flips, len(after.Tris), len(m.Edges()))
	}
}
