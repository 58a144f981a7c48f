package hull

import "plumb/measure"

// couple is two sites, the lesser number first.
type couple struct{ a, b site }

func coupleOf(a, b site) couple {
	if a.id > b.id {
		a, b = b, a
	}
	return couple{a, b}
}

// beats tells whether the sites are farther from each other than those of y, or as far, with lesser numbers.
func (x couple) beats(y couple) bool {
	far, _ := measure.Farther(x.a.at, x.b.at, y.a.at, y.b.at)
	switch {
	case far.Sign != 0:
		return far.Sign > 0
	case x.a.id != y.a.id:
		return x.a.id < y.a.id
	}
	return x.b.id < y.b.id
}

// search looks among the corners of a hull, counterclockwise, for the two that are farthest from each other.
type search struct {
	l    []site
	best couple
}

func farthest(l []site) couple {
	s := search{l, coupleOf(l[0], l[1])}
	s.look(0, len(l)-1, 1, len(l)-1)
	return s.best
}

// look goes through the corners from low on, below high, with those behind each: of these their farthest ones lie from first to last.
// The diagonals of four corners are longer, taken together, than two sides that don't meet. So whatever is farthest of those behind a later corner comes no earlier than what is farthest of those behind an earlier one: each corner parts the work in two.
func (s *search) look(low, high, first, last int) {
	if low == high {
		return
	}
	mid := (low + high) / 2
	far := s.behind(mid, max(first, mid+1), last)
	s.look(low, mid, first, far)
	s.look(mid+1, high, far, last)
}

// behind finds what is farthest from the corner i, from first to last.
func (s *search) behind(i, first, last int) int {
	far, best := first, coupleOf(s.l[i], s.l[first])
	for k := range last - first {
		if x := coupleOf(s.l[i], s.l[first+1+k]); x.beats(best) {
			far, best = first+1+k, x
		}
	}
	if best.beats(s.best) {
		s.best = best
	}
	return far
}
