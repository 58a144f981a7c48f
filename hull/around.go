package hull

import (
	"slices"

	"plumb/api"
	"plumb/measure"
	"plumb/orient"
	"plumb/sites"
)

// site is a point of a set, and its number.
type site struct {
	id int
	at api.Point
}

// sorted are the sites of a set, in the order of points.
func sorted(s *sites.Set) []site {
	l := make([]site, 0, s.Len())
	for _, id := range s.Order() {
		at, _ := s.At(id)
		l = append(l, site{id, at})
	}
	return l
}

func numbers(l []site) []int {
	ids := make([]int, len(l))
	for i := range len(l) {
		ids[i] = l[i].id
	}
	return ids
}

// turn is the orientation of three points; all that come here are finite.
func turn(a, b, c api.Point) int {
	v, _ := orient.Sign(a, b, c)
	return v.Sign
}

// How much a way along the hull must turn to the left at a site, lest the site be left out.
const (
	goesOn = 0
	bends  = 1
)

// ahead is the order of sites around one of them: as a sees them, b comes ahead of c counterclockwise.
func ahead(least int) func(a, b, c site) bool {
	return func(a, b, c site) bool { return turn(a.at, b.at, c.at) >= least }
}

// around goes around the hull of sites that are given in the order of points.
func around(l []site, least int) []site {
	return joined(path(l, ahead(least)), path(backwards(l), ahead(least)), len(l))
}

func corners(s *sites.Set) []site { return around(sorted(s), bends) }

func backwards(l []site) []site {
	l = slices.Clone(l)
	slices.Reverse(l)
	return l
}

// path goes along l, and leaves out what does not come ahead of a later one in the order around the one before it.
func path[T any](l []T, ahead func(a, b, c T) bool) []T {
	var way []T
next:
	for i := range len(l) {
		for n := len(way); n > 1; n-- {
			if ahead(way[n-2], way[n-1], l[i]) {
				way = append(way[:n], l[i])
				continue next
			}
		}
		way = append(way[:min(1, len(way))], l[i])
	}
	return way
}

// joined is the way from the first one of n sites to the last one, and back on the other side.
func joined(there, back []site, n int) []site {
	if len(there)+len(back) == 2*n { // on one line: both sides have them all
		return there
	}
	return slices.Concat(there[:len(there)-1], back[:len(back)-1])
}

// side tells on which side of the hull with these corners a point lies.
func side(l []site, p api.Point) int {
	if len(l) == 0 {
		return -1
	}
	if len(l) < 3 { // no edge has an inside
		if on, _ := measure.Between(l[0].at, p, l[len(l)-1].at); on {
			return 0
		}
		return -1
	}
	least := 1
	for i := range len(l) {
		least = min(least, turn(l[i].at, l[(i+1)%len(l)].at, p))
	}
	return least
}

// Ways to look over the hull.
const (
	leftward  = 1
	rightward = -1
)

// seen is the order in which a point outside of the hull sees its sites; of those that lie behind each other the nearest comes first.
func seen(p api.Point, way int) func(a, b site) int {
	return func(a, b site) int {
		if v := turn(p, a.at, b.at); v != 0 {
			return -v * way
		}
		far, _ := measure.Farther(p, a.at, p, b.at)
		return far.Sign
	}
}
