package sites

import (
	"math"

	"plumb/api"
	"plumb/bits"
)

// site is a point that was put in, with 0 for -0.
type site struct {
	at    api.Point
	alive bool
}

// held is what a set holds: of a nil one nothing.
func (s *Set) held() Set {
	if s == nil {
		return Set{}
	}
	return *s
}

// put gives the next number to a point that may be put in.
func (s *Set) put(p api.Point) int {
	if s.numbers == nil {
		s.numbers = map[api.Point]int{}
	}
	id := len(s.given)
	s.given = append(s.given, site{p, true})
	s.numbers[p] = id
	return id
}

// which are the numbers of the sites that are alive, or of those that are not.
func (s *Set) which(alive bool) []int {
	var l []int
	for id := range s.Given() {
		if s.given[id].alive == alive {
			l = append(l, id)
		}
	}
	return l
}

// gathered is a set of points, each read in its own way and put in.
func gathered(points []api.Point, read func(api.Point) (api.Point, api.Errno)) (*Set, int, api.Errno) {
	s := New()
	for i, p := range points {
		p, errno := read(p)
		if errno == api.OK {
			_, errno = s.Add(p)
		}
		if errno != api.OK {
			return nil, i, errno
		}
	}
	return s, 0, api.OK
}

// widened is the point whose coordinates were given by the bits of binary32.
func widened(p api.Point) (api.Point, api.Errno) {
	x, errno := wide(p.X)
	if errno != api.OK {
		return api.Point{}, errno
	}
	y, errno := wide(p.Y)
	if errno != api.OK {
		return api.Point{}, errno
	}
	return api.Point{X: x, Y: y}, api.OK
}

// wide is the binary64 with the value of a binary32.
func wide(b int) (int, api.Errno) {
	switch {
	case b < 0 || b > math.MaxUint32:
		return 0, api.ErrArg
	case bits.Class32(b) >= api.IsInfinite:
		return 0, api.ErrFinite
	}
	return bits.Of(float64(bits.Float32(b))), api.OK
}

// box is the least and the greatest coordinates of points.
type box struct{ low, high api.Point }

// take widens the box to a point.
func (b *box) take(p api.Point) {
	b.low = api.Point{X: lesser(b.low.X, p.X), Y: lesser(b.low.Y, p.Y)}
	b.high = api.Point{X: greater(b.high.X, p.X), Y: greater(b.high.Y, p.Y)}
}

func lesser(a, b int) int {
	if bits.Less(b, a) {
		return b
	}
	return a
}

func greater(a, b int) int {
	if bits.Less(a, b) {
		return b
	}
	return a
}
