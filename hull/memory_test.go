package hull

import (
	"reflect"
	"slices"
	"testing"

	"plumb/api"
	"plumb/sites"
)

// told is all that is told of a set.
type told struct {
	Points                   []api.Point
	Alive, Gone              []int
	Boundary, Corners        []int
	Layers                   [][]int
	Side, Right, Left        int
	First, Second            int
	SideErr, TangErr, FarErr api.Errno
}

func tell(s *sites.Set, p api.Point) told {
	r := told{Points: s.Points(), Alive: s.Alive(), Gone: s.Gone(), Boundary: Boundary(s), Corners: Corners(s), Layers: Layers(s)}
	r.Side, r.SideErr = Side(s, p)
	r.Right, r.Left, r.TangErr = Tangents(s, p)
	r.First, r.Second, r.FarErr = Far(s)
	return r
}

// marked writes over a list, its spare room too, and behind it.
func marked(l []int) {
	l = l[:cap(l)]
	for i := range l {
		l[i] = -7
	}
	_ = append(l, -7, -7)
	_ = append(l[:0], -7, -7, -7)
}

func kinds(t *testing.T) []*sites.Set {
	gone := square6(t)
	gone.Drop(2)
	return []*sites.Set{
		square6(t), gone, sites.New(), set(t, at(1, 1)), set(t, at(0, 0), at(1, 0), at(3, 0)),
		set(t, at(0, 0), at(9, 0), at(0, 9), at(1, 1), at(3, 1), at(1, 3), at(2, 2)),
	}
}

func TestAnswersAreNewMemory(t *testing.T) {
	for _, s := range kinds(t) {
		before := tell(s, at(3, 1))
		all := append([][]int{Boundary(s), Boundary(s), Corners(s), Corners(s)}, append(Layers(s), Layers(s)...)...)
		var kept [][]int
		for _, l := range all {
			kept = append(kept, slices.Clone(l))
		}
		for i := range all { // one after the other, so that what two share is seen
			if !slices.Equal(all[i], kept[i]) {
				t.Errorf("P1607: list %d shares the memory of an earlier one", i)
			}
			marked(all[i])
		}
		layers := Layers(s)
		layers = layers[:cap(layers)]
		clear(layers)
		if after := tell(s, at(3, 1)); !reflect.DeepEqual(after, before) {
			t.Errorf("P1607: %v, then %v", before, after)
		}
	}
}

func TestNothingChanges(t *testing.T) {
	for _, s := range kinds(t) {
		for _, p := range append(strange(), at(3, 1), at(1, 1), at(0, 0), at(-9, 9)) {
			before, order := s.Points(), s.Order()
			first := tell(s, p)
			Tangents(s, at(-5, -7)) // no question hangs on one before it
			Side(s, at(1, 0.5))
			if second := tell(s, p); !reflect.DeepEqual(first, second) {
				t.Errorf("P1607: told %v, then %v", first, second)
			}
			if !slices.Equal(s.Points(), before) || !slices.Equal(s.Order(), order) {
				t.Errorf("P1607: the set is changed: %#x, then %#x", before, s.Points())
			}
		}
		given := s.Given()
		if id, e := s.Add(at(77, 77)); id != given || e != api.OK { // and it goes on as it should
			t.Errorf("P1607: Add: %d, error %d", id, e)
		}
	}
}

func TestOldAnswersStay(t *testing.T) {
	s := square6(t)
	boundary, corners, layers := Boundary(s), Corners(s), Layers(s)
	s.Drop(0)
	s.Add(at(-9, -9))
	Boundary(s)
	Layers(s)
	list(t, "P1607: Boundary", boundary, 0, 4, 1, 2, 3)
	list(t, "P1607: Corners", corners, 0, 1, 2, 3)
	lists(t, "P1607: Layers", layers, [][]int{{0, 4, 1, 2, 3}, {5}})
	list(t, "P1601: Boundary", Boundary(s), 6, 1, 2, 3)
}
