package hull

import (
	"math"
	"testing"

	"plumb/api"
	"plumb/sites"
)

func square6(t testing.TB) *sites.Set {
	return set(t, at(0, 0), at(2, 0), at(2, 2), at(0, 2), at(1, 0), at(1, 1))
}

func TestExamples(t *testing.T) {
	s := square6(t)
	list(t, "P1601: Boundary", Boundary(s), 0, 4, 1, 2, 3)
	list(t, "P1602: Corners", Corners(s), 0, 1, 2, 3)
	sided(t, s, at(1, 1), 1)
	sided(t, s, at(1, 2), 0)
	sided(t, s, at(3, 1), -1)
	touched(t, s, at(3, 1), 2, 1, api.OK)
	touched(t, s, at(3, 0), 2, 1, api.OK)
	touched(t, s, at(1, 1), 0, 0, api.ErrInside)
	apart(t, s, 0, 2, api.OK)
	lists(t, "P1606: Layers", Layers(s), [][]int{{0, 4, 1, 2, 3}, {5}})
}

func TestExamplesOnALine(t *testing.T) {
	s := set(t, at(0, 0), at(1, 0), at(3, 0))
	list(t, "P1601: Boundary", Boundary(s), 0, 1, 2)
	list(t, "P1602: Corners", Corners(s), 0, 2)
	sided(t, s, at(2, 0), 0)
	sided(t, s, at(4, 0), -1)
	touched(t, s, at(4, 0), 2, 2, api.OK)
	touched(t, s, at(1, 1), 0, 2, api.OK)
	apart(t, s, 0, 2, api.OK)
	lists(t, "P1606: Layers", Layers(s), [][]int{{0, 1, 2}})
}

// bare holds a set without sites to what the document says of it.
func bare(t *testing.T, s *sites.Set) {
	t.Helper()
	list(t, "P1601: Boundary of none", Boundary(s))
	list(t, "P1602: Corners of none", Corners(s))
	sided(t, s, at(0, 0), -1)
	sided(t, s, at(top, -tiny), -1)
	touched(t, s, at(0, 0), 0, 0, api.ErrNone)
	apart(t, s, 0, 0, api.ErrNone)
	lists(t, "P1606: Layers of none", Layers(s), nil)
	for _, p := range strange() {
		if v, e := Side(s, p); v != 0 || e != api.ErrFinite {
			t.Errorf("P1603: Side of %#x: %d, error %d", p, v, e)
		}
		touched(t, s, p, 0, 0, api.ErrFinite) // ahead of ErrNone
	}
}

func TestNoSites(t *testing.T) {
	bare(t, sites.New())
	bare(t, &sites.Set{})
	bare(t, nil)
	s := square6(t)
	for id := range s.Given() {
		s.Drop(id)
	}
	bare(t, s)
}

func TestOneSite(t *testing.T) {
	s := set(t, at(7, 7), at(1, math.Copysign(0, -1)))
	s.Drop(0)
	list(t, "P1601: Boundary of one", Boundary(s), 1)
	list(t, "P1602: Corners of one", Corners(s), 1)
	sided(t, s, at(1, 0), 0)
	sided(t, s, api.Point{X: of(1), Y: minus0}, 0)
	sided(t, s, at(1, tiny), -1)
	sided(t, s, at(7, 7), -1)
	touched(t, s, at(7, 7), 1, 1, api.OK)
	touched(t, s, api.Point{X: of(1), Y: minus0}, 0, 0, api.ErrInside)
	apart(t, s, 0, 0, api.ErrNone)
	lists(t, "P1606: Layers of one", Layers(s), [][]int{{1}})
}

func TestTwoSites(t *testing.T) {
	s := set(t, at(3, 3), at(7, 7), at(1, 1))
	s.Drop(1)
	list(t, "P1601: Boundary of two", Boundary(s), 2, 0)
	list(t, "P1602: Corners of two", Corners(s), 2, 0)
	sided(t, s, at(1, 1), 0)
	sided(t, s, at(2, 2), 0)
	sided(t, s, at(3, 3), 0)
	sided(t, s, at(4, 4), -1)
	sided(t, s, at(2, math.Nextafter(2, 3)), -1)
	touched(t, s, at(4, 4), 0, 0, api.OK)
	touched(t, s, at(0, 0), 2, 2, api.OK)
	touched(t, s, at(2, 1), 0, 2, api.OK)
	touched(t, s, at(1, 2), 2, 0, api.OK)
	touched(t, s, at(2, 2), 0, 0, api.ErrInside)
	apart(t, s, 0, 2, api.OK)
	lists(t, "P1606: Layers of two", Layers(s), [][]int{{2, 0}})
}

func TestBoundaryStartsAtTheFirstInOrder(t *testing.T) {
	s := set(t, at(2, 1), at(1, 2), at(0, 1), at(0, 0), at(0, 0.5), at(2, 0), at(2, 2), at(2, 1.5), at(0.5, 1))
	list(t, "P1601: Boundary", Boundary(s), 3, 5, 0, 7, 6, 1, 2, 4)
	list(t, "P1602: Corners", Corners(s), 3, 5, 6, 1, 2)
	s.Drop(3)
	list(t, "P1601: Boundary", Boundary(s), 4, 5, 0, 7, 6, 1, 2)
	id, _ := s.Add(at(0, 0)) // under another number
	list(t, "P1602: Corners", Corners(s), id, 5, 6, 1, 2)
	s.Add(at(-1, 0))
	list(t, "P1602: Corners", Corners(s), 10, 5, 6, 1)
}

func TestUprightLine(t *testing.T) {
	s := set(t, at(1, 5), at(1, -5), at(1, 0), at(1, 2))
	list(t, "P1601: Boundary", Boundary(s), 1, 2, 3, 0)
	list(t, "P1602: Corners", Corners(s), 1, 0)
	sided(t, s, at(1, 3), 0)
	sided(t, s, at(1, 6), -1)
	sided(t, s, at(0, 0), -1)
	touched(t, s, at(1, 9), 0, 0, api.OK)
	touched(t, s, at(1, -9), 1, 1, api.OK)
	touched(t, s, at(0, 0), 1, 0, api.OK)
	touched(t, s, at(2, 0), 0, 1, api.OK)
	lists(t, "P1606: Layers", Layers(s), [][]int{{1, 2, 3, 0}})
}

func TestOnALineBesideOne(t *testing.T) { // all but one on a line
	s := set(t, at(0, 0), at(1, 1), at(2, 2), at(3, 3), at(1, math.Nextafter(1, 2)))
	list(t, "P1601: Boundary", Boundary(s), 0, 1, 2, 3, 4)
	list(t, "P1602: Corners", Corners(s), 0, 3, 4)
	s = set(t, at(0, 0), at(1, 1), at(2, 2), at(3, 3), at(math.Nextafter(1, 2), 1))
	list(t, "P1601: Boundary", Boundary(s), 0, 4, 3, 2, 1)
	list(t, "P1602: Corners", Corners(s), 0, 4, 3)
}

func TestSignsThatFloatsDoNotSee(t *testing.T) {
	s := set(t, at(0.5, 0.5), at(12, 12), at(24, 24+0x1p-48)) // 23 * 2^-49 to the left
	list(t, "P1601: Boundary", Boundary(s), 0, 1, 2)
	list(t, "P1602: Corners", Corners(s), 0, 1, 2)
	sided(t, s, at(12, math.Nextafter(12, 13)), -1)
	s = set(t, at(-top, -top), at(top, top), at(0, tiny), at(0, -tiny), at(0, 0))
	list(t, "P1601: Boundary", Boundary(s), 0, 3, 1, 2)
	sided(t, s, at(0, 0), 1)
	sided(t, s, at(tiny, 0), -1) // below the line to (top, top) by less than any float
	sided(t, s, at(tiny, tiny), 1)
	sided(t, s, at(tiny, -tiny), -1)
	sided(t, s, at(top, math.Nextafter(top, 0)), -1)
	apart(t, s, 0, 1, api.OK)
	lists(t, "P1606: Layers", Layers(s), [][]int{{0, 3, 1, 2}, {4}})
}

func TestTangentsInLineWithAnEdge(t *testing.T) {
	s := set(t, at(0, 0), at(1, 0), at(2, 0), at(2, 1), at(2, 2), at(0, 2)) // 1 and 3 are no corners
	touched(t, s, at(3, 0), 4, 2, api.OK)
	touched(t, s, at(-1, 0), 0, 5, api.OK)
	touched(t, s, at(2, 3), 5, 4, api.OK)
	touched(t, s, at(2, -1), 2, 0, api.OK)
	touched(t, s, at(2, -tiny), 2, 0, api.OK)
	for _, p := range []api.Point{at(0, 0), at(1, 0), at(1.5, 0), at(2, 0.5), at(1, 1), at(tiny, tiny), at(2, 2)} {
		touched(t, s, p, 0, 0, api.ErrInside)
	}
	for _, p := range strange() {
		touched(t, s, p, 0, 0, api.ErrFinite)
		if v, e := Side(s, p); v != 0 || e != api.ErrFinite {
			t.Errorf("P1603: Side of %#x: %d, error %d", p, v, e)
		}
	}
}

func TestFarOfManyThatAreAsFar(t *testing.T) {
	s := set(t, at(1, 0), at(0, 1), at(1, 1), at(0, 0)) // both diagonals: 0 1 and 2 3
	apart(t, s, 0, 1, api.OK)
	s = set(t, at(1, 1), at(0, 1), at(1, 0), at(0, 0))
	apart(t, s, 0, 3, api.OK)
	s = set(t, at(9, 9), at(0, 5), at(3, 4), at(4, 3), at(5, 0), at(4, -3), at(3, -4), at(0, -5), at(-3, -4), at(-4, -3), at(-5, 0), at(-4, 3), at(-3, 4))
	s.Drop(0)
	apart(t, s, 1, 7, api.OK)
	s.Drop(7)
	apart(t, s, 2, 8, api.OK)
	s.Drop(3)
	s.Drop(8)
	apart(t, s, 4, 10, api.OK)
	id, _ := s.Add(at(4, 3)) // 13: with 9
	apart(t, s, 4, 10, api.OK)
	s.Drop(10)
	s.Drop(11)
	s.Drop(6)
	apart(t, s, 9, id, api.OK)
}

func TestFarFromOneToSeveral(t *testing.T) { // at (0, 0), with all the others 25 from it
	s := set(t, at(7, 24), at(15, 20), at(20, 15), at(24, 7), at(0, 0), at(12, 12))
	apart(t, s, 0, 4, api.OK)
	s.Drop(0)
	apart(t, s, 1, 4, api.OK)
	s.Add(at(7, 24))
	apart(t, s, 1, 4, api.OK)
	s.Drop(1)
	s.Drop(2)
	s.Drop(3)
	apart(t, s, 4, 6, api.OK)
}

func TestLayersOfNestedSquares(t *testing.T) {
	var l []api.Point
	var want [][]int
	for i := range 40 {
		r := float64(40 - i)
		l = append(l, at(r, r), at(-r, -r), at(r, -r), at(-r, r), at(0, r))
		want = append(want, []int{5*i + 1, 5*i + 2, 5 * i, 5*i + 4, 5*i + 3})
	}
	s := set(t, append(l, at(0, 0))...)
	lists(t, "P1606: Layers", Layers(s), append(want, []int{200}))
}
