package point

import (
	"cmp"
	"slices"
	"testing"

	"plumb/api"
)

// wanted sorts numbers by exact values, one after the other, each behind those that don't come after it.
func wanted(l []api.Point) []int {
	var out []int
	for i := range l {
		at := len(out)
		for at > 0 && order(l[i], l[out[at-1]]) < 0 {
			at--
		}
		out = slices.Insert(out, at, i)
	}
	return out
}

// someOf picks points, many of them more than once.
func someOf(s *seeded, l []api.Point, n int) []api.Point {
	var out []api.Point
	for range n {
		out = append(out, l[s.below(len(l))])
	}
	return out
}

func TestOrder(t *testing.T) {
	s := seeded(2)
	all := points()
	for n := range 120 {
		few := someOf(&s, all, 1+n/3) // so that many are of one place
		l := someOf(&s, few, n)
		if got, e := Order(l); !slices.Equal(got, wanted(l)) || e != api.OK {
			t.Errorf("P905: Order(%#x): %v, error %d", l, got, e)
		}
	}
}

func TestOrderOfOnePlace(t *testing.T) {
	zeros := []api.Point{{}, {X: least}, {Y: least}, {X: least, Y: least}}
	for n := range 70 {
		var l []api.Point
		var want []int
		for i := range n {
			l, want = append(l, zeros[(i*7+n)%4]), append(want, i)
		}
		if got, e := Order(l); !slices.Equal(got, want) || e != api.OK {
			t.Errorf("P905: Order of %d times one place: %v, error %d", n, got, e)
		}
	}
}

func TestOrderOfALongList(t *testing.T) {
	l := make([]api.Point, 100000)
	for i := range l { // a rule whose order is known: y goes down within each of 10 columns
		l[i] = at(float64(i%10), float64(-i))
	}
	got, e := Order(l)
	if e != api.OK || len(got) != len(l) {
		t.Fatalf("P905: Order: %d numbers, error %d", len(got), e)
	}
	sorted := slices.IsSortedFunc(got, func(i, j int) int {
		return cmp.Or(cmp.Compare(i%10, j%10), cmp.Compare(j, i))
	})
	if !sorted {
		t.Error("P905: Order: not sorted")
	}
}

func TestOrderRefuses(t *testing.T) {
	for _, bad := range refused() {
		for at := range 4 {
			for _, p := range []api.Point{{X: bad}, {Y: bad}} {
				l := []api.Point{{X: 2}, {X: 1}, {}, {X: least}}
				l[at] = p
				if got, e := Order(l); len(got) != 0 || e != api.ErrFinite {
					t.Errorf("P905: Order(%#x): %v, error %d", l, got, e)
				}
			}
		}
	}
}

func TestOrderOfNothing(t *testing.T) {
	for _, l := range [][]api.Point{nil, {}, make([]api.Point, 0, 4)} {
		if got, e := Order(l); len(got) != 0 || e != api.OK {
			t.Errorf("P905: Order of nothing: %v, error %d", got, e)
		}
	}
}
