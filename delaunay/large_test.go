package delaunay

import (
	"math"
	"slices"
	"testing"

	"plumb/api"
)

// lattice are n by n sites, row by row.
func lattice(n int) []api.Point {
	var l []api.Point
	for i := range n * n {
		l = append(l, at(float64(i%n), float64(i/n)))
	}
	return l
}

// latticeTris are its triangles: the least site of each square is cut off.
func latticeTris(n int) []api.Tri {
	var l []api.Tri
	for i := range n * n {
		if i%n < n-1 && i/n < n-1 {
			l = append(l, api.Tri{i, i + 1, i + n}, api.Tri{i + 1, i + n + 1, i + n})
		}
	}
	slices.SortFunc(l, trisRise)
	return l
}

func TestALattice(t *testing.T) { // as many sites as there may be
	const n = 256
	points := lattice(n)
	m := built(t, points)
	if !alike(m, api.Mesh{Points: points, Tris: latticeTris(n)}) {
		t.Errorf("P2102: the lattice is another one")
	}
	asked(t, m, true)
	tree, sum, e := Tree(m)
	if e != api.OK || len(tree) != n*n-1 || len(sum.Mag) != 1 || sum.Exp != 0 || sum.Mag[0] != n*n-1 {
		t.Errorf("P2106: %d edges, %v, error %d", len(tree), sum, e)
	}
	for _, e := range tree { // all that lead to the next row, as their numbers are least, and the first row's
		if e[1] != e[0]+n && (e[1] != e[0]+1 || e[1] >= n) {
			t.Errorf("P2106: %v is in the lattice's tree", e)
			break
		}
	}
	unbuilt(t, append(points, at(-1, -1)), n*n, api.ErrMany)
	unbuilt(t, append(points, at(5, 5)), n*n, api.ErrSame)
	unbuilt(t, append(points, api.Point{Y: api.NaN}), n*n, api.ErrFinite)
}

func TestManyByChance(t *testing.T) {
	const n = 20000
	r := seeded(10)
	var points []api.Point
	for range n {
		points = append(points, at(r.NormFloat64(), r.NormFloat64()))
	}
	m := built(t, points)
	o := opened(t, m)
	if want := 2*n - 2 - len(o.Border()); len(m.Tris) != want {
		t.Errorf("P2102: %d triangles; want %d", len(m.Tris), want)
	}
	asked(t, m, true)
	if tree, _, e := Tree(m); e != api.OK || len(tree) != n-1 {
		t.Errorf("P2106: %d edges, error %d", len(tree), e)
	}
}

func TestCurves(t *testing.T) { // on which each site that comes could change all triangles, did they come in turn
	const n = 4000
	for what, f := range map[string]func(x float64) float64{
		"a bowl":  func(x float64) float64 { return x * x },
		"a hill":  func(x float64) float64 { return -x * x },
		"a wave":  func(x float64) float64 { return x * x * x },
		"a slope": func(x float64) float64 { return 5 * x },
	} {
		for _, first := range []int{0, -n / 2, 1 - n} {
			var rising, falling []api.Point
			for i := range n {
				x := float64(first + i)
				rising = append(rising, at(x, f(x)))
			}
			falling = slices.Clone(rising)
			slices.Reverse(falling)
			m, o := built(t, rising), built(t, falling)
			asked(t, m, true)
			asked(t, o, true)
			if len(m.Tris) != len(o.Tris) || what == "a slope" && len(m.Tris) > 0 {
				t.Errorf("P2107: %s has %d triangles, and %d", what, len(m.Tris), len(o.Tris))
			}
			if _, _, e := Tree(m); e != api.OK {
				t.Errorf("P2106: error %d", e)
			}
		}
	}
}

func TestACircle(t *testing.T) { // many sites on one circle, about its centre and not
	for _, centre := range [][]api.Point{nil, {at(0, 0)}, {at(3, 0)}, {at(100, 0)}} {
		points := slices.Clone(centre)
		for x := -325; x <= 325; x++ {
			y := math.Sqrt(float64(325*325 - x*x))
			if y == math.Trunc(y) {
				points = append(points, at(float64(x), y))
				if y > 0 {
					points = append(points, at(float64(x), -y))
				}
			}
		}
		if len(points) < 60 { // 325 is 5 * 5 * 13
			t.Fatalf("%d points", len(points))
		}
		m := built(t, points)
		if want := delaunayOf(m); !slices.Equal(m.Tris, want) {
			t.Errorf("P2102: %v; want %v", m.Tris, want)
		}
	}
}

func TestWideOnes(t *testing.T) { // coordinates of all sizes
	const n = 120
	r := seeded(11)
	for range 4 {
		var points []api.Point
		for range n {
			x, y := math.Ldexp(r.Float64()-0.5, r.IntN(2000)-1000), math.Ldexp(r.Float64()-0.5, r.IntN(2000)-1000)
			points = append(points, at(x, y))
		}
		m := built(t, points)
		opened(t, m)
		asked(t, m, true)
		want, sum := treeBy(m, edgesRise)
		grown(t, m, want, sum)
	}
}
