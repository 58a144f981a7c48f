package hull

import (
	"math"
	"math/rand/v2"
	"slices"
	"testing"

	"plumb/api"
	"plumb/sites"
)

// oneSide tells whether no spot lies right of a, b.
func oneSide(l []spot, a, b spot) bool {
	return !slices.ContainsFunc(l, func(c spot) bool { return bend(a, b, c) < 0 })
}

func onOneLine(l []spot) bool {
	for i, a := range l {
		for k, b := range l[:i] {
			for _, c := range l[:k] {
				if bend(a, b, c) != 0 {
					return false
				}
			}
		}
	}
	return true
}

// nearest is the spot that is nearest to p.
func nearest(p spot, l []spot) spot {
	return slices.MinFunc(l, func(a, b spot) int { return square(p, a).Cmp(square(p, b)) })
}

// boundaryOf goes from each spot to the nearest one of those that have all others on their left.
func boundaryOf(l []spot) []spot {
	if onOneLine(l) {
		return slices.SortedFunc(slices.Values(l), before)
	}
	first := slices.MinFunc(l, before)
	way := []spot{first}
	for p := first; ; way = append(way, p) {
		var next []spot
		for _, q := range l {
			if !q.same(p) && oneSide(l, p, q) {
				next = append(next, q)
			}
		}
		if p = nearest(p, next); p.same(first) {
			return way
		}
	}
}

// within tells whether p lies on the segment from a to b.
func within(a, p, b spot) bool { return bend(a, p, b) == 0 && dot(p, a, b) <= 0 }

// cornersOf are those of the boundary that lie on no segment between two others.
func cornersOf(l []spot) []spot {
	return slices.DeleteFunc(boundaryOf(l), func(p spot) bool {
		for i, a := range l {
			for _, b := range l[:i] {
				if !a.same(p) && !b.same(p) && within(a, p, b) {
					return true
				}
			}
		}
		return false
	})
}

// covered tells whether p lies in a triangle of spots, or on a segment between two, or at one.
func covered(l []spot, p spot) bool {
	for i, a := range l {
		for k, b := range l[:i+1] {
			if within(a, p, b) {
				return true
			}
			for _, c := range l[:k+1] {
				turns := []int{bend(a, b, p), bend(b, c, p), bend(c, a, p)}
				if bend(a, b, c) != 0 && !(slices.Contains(turns, 1) && slices.Contains(turns, -1)) {
					return true
				}
			}
		}
	}
	return false
}

func sideOf(l []spot, p spot) int {
	if !covered(l, p) {
		return -1
	}
	for _, q := range l {
		if len(l) == 1 || !q.same(p) && (oneSide(l, p, q) || oneSide(l, q, p)) {
			return 0
		}
	}
	return 1
}

func tangentsOf(l []spot, p spot) (int, int) {
	var right, left []spot
	for _, c := range cornersOf(l) {
		if oneSide(l, p, c) {
			right = append(right, c)
		}
		if oneSide(l, c, p) { // none right of c, p is none left of p, c
			left = append(left, c)
		}
	}
	return nearest(p, right).id, nearest(p, left).id
}

func farOf(l []spot) (int, int) {
	first, second := l[0], l[1]
	for i, a := range l { // by rising numbers, so that of several the first one stays
		for _, b := range l[i+1:] {
			if square(a, b).Cmp(square(first, second)) > 0 {
				first, second = a, b
			}
		}
	}
	return first.id, second.id
}

func ids(l []spot) []int {
	var n []int
	for _, p := range l {
		n = append(n, p.id)
	}
	return n
}

func layersOf(l []spot) [][]int {
	var layers [][]int
	for len(l) > 0 {
		layer := ids(boundaryOf(l))
		l = slices.DeleteFunc(slices.Clone(l), func(p spot) bool { return slices.Contains(layer, p.id) })
		layers = append(layers, layer)
	}
	return layers
}

// look holds all that is told of a set to the document's words.
func look(t *testing.T, s *sites.Set, points ...api.Point) {
	t.Helper()
	l := spots(s)
	if len(l) == 0 {
		bare(t, s)
		return
	}
	list(t, "P1601: Boundary", Boundary(s), ids(boundaryOf(l))...)
	list(t, "P1602: Corners", Corners(s), ids(cornersOf(l))...)
	lists(t, "P1606: Layers", Layers(s), layersOf(l))
	if len(l) > 1 {
		a, b := farOf(l)
		apart(t, s, a, b, api.OK)
	}
	for _, p := range points {
		q := spotOf(p, -1)
		side := sideOf(l, q)
		sided(t, s, p, side)
		if side >= 0 {
			touched(t, s, p, 0, 0, api.ErrInside)
			continue
		}
		r, l := tangentsOf(l, q)
		touched(t, s, p, r, l, api.OK)
	}
	if t.Failed() {
		t.Fatalf("at the sites %#x, gone %v, and the points %#x", s.Points(), s.Gone(), points)
	}
}

// places are few coordinates, so that many points lie on one line, are as far from each other.
func places() [][]float64 {
	minus := math.Copysign(0, -1)
	return [][]float64{
		{0, minus, 1, -1},
		{0, 1, 2, 3, 4},
		{0, 3, 4, -3, -4, 5, -5, minus},
		{0.1, 0.2, 0.3, 0.1 + 0.2, 0.7, 0.8},
		{1, 1 + 0x1p-52, 1 + 0x1p-51, 1 - 0x1p-53, 2},
		{0, minus, tiny, -tiny, 2 * tiny, 3 * tiny},
		{top, -top, math.Nextafter(top, 0), 0, 0x1p1000},
		{0, minus, tiny, 0x1p-600, 0x1p-150, 1, 0x1p150, 0x1p600, top, -top, -1},
	}
}

func drawn(r *rand.Rand, from []float64) api.Point {
	p := at(from[r.IntN(len(from))], from[r.IntN(len(from))])
	if r.IntN(4) == 0 { // on a line
		p.Y = p.X
	}
	return p
}

// mixed is a set to which points were put in, and from which some were taken away.
func mixed(r *rand.Rand, n int, from []float64) *sites.Set {
	s := sites.New()
	for range n {
		s.Add(drawn(r, from))
		if r.IntN(4) == 0 {
			s.Drop(r.IntN(s.Given()))
		}
	}
	return s
}

func TestManySets(t *testing.T) {
	for n, from := range places() {
		r := seeded(uint64(n))
		for range 150 {
			look(t, mixed(r, r.IntN(14), from), drawn(r, from), drawn(r, from), drawn(r, from), drawn(r, from))
		}
	}
}

func TestSetsOnALine(t *testing.T) {
	for n, from := range places() {
		r := seeded(uint64(100 + n))
		for k := range 120 {
			s := sites.New()
			for range r.IntN(8) {
				p := drawn(r, from)
				switch k % 3 {
				case 0:
					p.Y = p.X
				case 1:
					p.Y = of(from[0])
				case 2:
					p.X = of(from[0])
				}
				s.Add(p)
			}
			p := drawn(r, from)
			look(t, s, p, drawn(r, from), api.Point{X: p.X, Y: p.X}, api.Point{X: p.X, Y: of(from[0])}, api.Point{X: of(from[0]), Y: p.Y})
		}
	}
}

func TestSetsOnACircle(t *testing.T) { // many that are as far from each other
	ring := []api.Point{}
	for _, p := range [][2]float64{{0, 65}, {16, 63}, {25, 60}, {33, 56}, {39, 52}, {52, 39}, {56, 33}, {60, 25}, {63, 16}, {65, 0}} {
		for _, q := range [][2]float64{{1, 1}, {1, -1}, {-1, 1}, {-1, -1}} {
			ring = append(ring, at(p[0]*q[0], p[1]*q[1]))
		}
	}
	r := seeded(200)
	for range 150 {
		r.Shuffle(len(ring), func(i, k int) { ring[i], ring[k] = ring[k], ring[i] })
		s := sites.New()
		for range 3 + r.IntN(24) {
			s.Add(ring[r.IntN(len(ring))])
			if r.IntN(5) == 0 {
				s.Drop(r.IntN(s.Given()))
			}
		}
		look(t, s, ring[0], at(float64(r.IntN(131)-65), float64(r.IntN(131)-65)))
	}
}

func TestSetsAroundOne(t *testing.T) { // one site with many that are as far from it
	arc := []api.Point{at(65, 0), at(63, 16), at(60, 25), at(56, 33), at(52, 39), at(39, 52), at(33, 56), at(25, 60), at(16, 63), at(0, 65)}
	r := seeded(300)
	for range 100 {
		r.Shuffle(len(arc), func(i, k int) { arc[i], arc[k] = arc[k], arc[i] })
		s := sites.New()
		for _, p := range arc[:3+r.IntN(len(arc)-3)] {
			s.Add(p)
			if r.IntN(4) == 0 {
				s.Add(at(0, 0))
			}
		}
		look(t, s, at(0, 0), at(60, 25))
	}
}

func TestScatteredSets(t *testing.T) {
	r := seeded(400)
	for range 40 {
		s := sites.New()
		for range 10 + r.IntN(20) {
			s.Add(at(r.NormFloat64(), r.NormFloat64()))
		}
		look(t, s, at(r.NormFloat64(), r.NormFloat64()), at(2*r.NormFloat64(), 2*r.NormFloat64()))
	}
}

func TestPowersOfTwoChangeNothing(t *testing.T) { // W1: from tame to wild
	r := seeded(500)
	for range 40 {
		small, great := sites.New(), sites.New()
		for range 30 {
			x, y := float64(r.IntN(40)-20), float64(r.IntN(40)-20)
			small.Add(at(x, y))
			great.Add(at(x*0x1p900, y*0x1p900))
		}
		list(t, "W1: Boundary", Boundary(great), Boundary(small)...)
		list(t, "W1: Corners", Corners(great), Corners(small)...)
		lists(t, "W1: Layers", Layers(great), Layers(small))
		a, b, e := Far(small)
		apart(t, great, a, b, e)
		for range 20 {
			x, y := float64(r.IntN(60)-30), float64(r.IntN(60)-30)
			side, _ := Side(small, at(x, y))
			sided(t, great, at(x*0x1p900, y*0x1p900), side)
			right, left, e := Tangents(small, at(x, y))
			touched(t, great, at(x*0x1p900, y*0x1p900), right, left, e)
		}
	}
}
