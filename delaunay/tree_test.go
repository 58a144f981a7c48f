package delaunay

import (
	"math/big"
	"math/rand/v2"
	"slices"
	"testing"

	"plumb/api"
	"plumb/dyadic"
)

// treed holds Tree to a whole sum and edges.
func treed(t testing.TB, m api.Mesh, sum int64, want ...api.Edge) {
	t.Helper()
	units := new(big.Int).Lsh(big.NewInt(sum), 2148)
	grown(t, m, want, units)
}

// grown holds Tree to edges and a sum in units of 2^-2148.
func grown(t testing.TB, m api.Mesh, want []api.Edge, wantSum *big.Int) {
	t.Helper()
	l, sum, e := Tree(m)
	if e != api.OK || !slices.Equal(l, want) {
		t.Fatalf("P2106: Tree(%v): %v, error %d; want %v", m, l, e, want)
	}
	if !dyadic.Valid(sum) || wholeOf(sum).Cmp(wantSum) != 0 {
		t.Fatalf("P2106: Tree(%v): the sum is %v; want %v", m, sum, wantSum)
	}
}

func TestTree(t *testing.T) { // of whatever mesh of its sites, whatever is fixed
	samples(7, 70, func(_ *rand.Rand, data api.Mesh, _ []float64) {
		want, sum := treeBy(data, edgesRise)
		grown(t, data, want, sum)
		grown(t, again(t, data), want, sum)
	})
}

func TestTreeOfFew(t *testing.T) {
	treed(t, api.Mesh{}, 0)
	treed(t, api.Mesh{Points: []api.Point{at(7, 8)}}, 0)
	treed(t, api.Mesh{Points: []api.Point{at(7, 8), at(7, 8)}, Gone: []int{0}}, 0)
	treed(t, api.Mesh{Points: []api.Point{at(7, 8), at(7, 8)}, Gone: []int{0, 1}}, 0)
	treed(t, api.Mesh{Points: []api.Point{at(7, 8), at(4, 4)}}, 25, api.Edge{0, 1})
	treed(t, api.Mesh{Points: []api.Point{at(0, 0), at(9, 9), at(3, 3), at(1, 1), at(2, 2)}, Gone: []int{2}}, 2+2+98, api.Edge{0, 3}, api.Edge{1, 4}, api.Edge{3, 4})
}

func TestTreeOfTies(t *testing.T) { // of one length those with the least numbers
	square := api.Mesh{Points: []api.Point{at(0, 0), at(1, 0), at(1, 1), at(0, 1)}, Tris: []api.Tri{{0, 1, 2}, {0, 2, 3}}}
	treed(t, square, 3, api.Edge{0, 1}, api.Edge{0, 3}, api.Edge{1, 2})
	square = api.Mesh{Points: []api.Point{at(0, 0), at(1, 1), at(1, 0), at(0, 1)}, Tris: []api.Tri{{0, 1, 3}, {0, 2, 1}}}
	treed(t, square, 3, api.Edge{0, 2}, api.Edge{0, 3}, api.Edge{1, 2})
}

func TestTreeByLittle(t *testing.T) { // lengths that only exact numbers part
	for _, x := range []struct {
		points []api.Point
		want   []api.Edge
	}{
		{[]api.Point{at(0, 0), at(1, tiny), at(1, 1)}, []api.Edge{{0, 1}, {1, 2}}},
		{[]api.Point{at(0, 0), at(1, 0), at(0, 1), at(1+tiny, 1+0x1p-52)}, []api.Edge{{0, 1}, {0, 2}, {2, 3}}},
		{[]api.Point{at(-1, 0), at(0, tiny), at(1, 0), at(0, -1)}, []api.Edge{{0, 1}, {1, 2}, {1, 3}}},
		{[]api.Point{at(0x1p600, 0), at(0, 0), at(0, 0x1p600), at(tiny, 0x1p600)}, []api.Edge{{0, 1}, {1, 2}, {2, 3}}},
		{[]api.Point{at(0, top), at(tiny, 0), at(0, -top), at(-tiny, tiny)}, []api.Edge{{0, 3}, {1, 2}, {1, 3}}},
	} {
		m := built(t, x.points)
		want, sum := treeBy(m, edgesRise)
		grown(t, m, want, sum)
		if !slices.Equal(want, x.want) {
			t.Errorf("P2106: the model's tree of %v is %v; want %v", x.points, want, x.want)
		}
	}
}

func TestNeighbours(t *testing.T) { // the nearest ones, and all least spanning trees
	trees := 0
	sets(t, 8, 40, func(r *rand.Rand, points []api.Point) {
		m := built(t, points)
		edges := edgesOf(m)
		for a := range points {
			for _, b := range nearestOf(points, a) {
				if !slices.Contains(edges, pair(a, b)) {
					t.Errorf("P2109: %d is nearest to %d, but no neighbour in %v", b, a, m)
				}
			}
		}
		first, _ := treeBy(m, edgesRise)
		for range 4 {
			to := r.Perm(len(points))
			tree, _ := treeBy(m, func(a, b api.Edge) int { return edgesRise(pair(to[a[0]], to[a[1]]), pair(to[b[0]], to[b[1]])) })
			for _, e := range tree {
				if !slices.Contains(edges, e) {
					t.Errorf("P2109: %v is an edge of a least tree, but none of %v", e, m)
				}
			}
			if !slices.Equal(tree, first) {
				trees++
			}
		}
	})
	if trees < 200 {
		t.Errorf("P2109: %d other trees: too few to tell", trees)
	}
}

// nearestOf are the sites that are as near to one as can be.
func nearestOf(points []api.Point, a int) []int {
	var l []int
	var least *big.Int
	for b := range points {
		if b == a {
			continue
		}
		square := squareOf(points[a], points[b])
		if least == nil || square.Cmp(least) < 0 {
			l, least = nil, square
		}
		if square.Cmp(least) == 0 {
			l = append(l, b)
		}
	}
	return l
}
