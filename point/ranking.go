package point

import (
	"cmp"
	"slices"

	"plumb/api"
	"plumb/bits"
)

// place is a point by the values of its coordinates, so that 0 and -0 are one.
type place struct{ x, y float64 }

// placeOf tells the place of a point that was checked.
func placeOf(p api.Point) place { return place{bits.Float(p.X), bits.Float(p.Y)} }

// order tells whether p comes ahead of q: by x, then by y.
func (p place) order(q place) int {
	switch {
	case p.x < q.x:
		return -1
	case p.x > q.x:
		return 1
	case p.y < q.y:
		return -1
	case p.y > q.y:
		return 1
	}
	return 0
}

// places are those of a list of points.
type places []place

// order tells which of two numbers comes ahead. It calls no two numbers equal, so no answer hangs on the way of sorting.
func (l places) order(i, j int) int {
	return cmp.Or(l[i].order(l[j]), cmp.Compare(i, j))
}

// ranking is places, and their numbers to be sorted.
type ranking struct {
	places
	numbers []int
}

// rankingOf tells the places of a list whose points were checked, and their numbers, rising.
func rankingOf(l []api.Point) ranking {
	r := ranking{make(places, len(l)), make([]int, len(l))}
	for i, p := range l {
		r.places[i], r.numbers[i] = placeOf(p), i
	}
	return r
}

// sorted sorts the numbers by the order of their places.
func (r ranking) sorted() []int {
	slices.SortFunc(r.numbers, r.order)
	return r.numbers
}
