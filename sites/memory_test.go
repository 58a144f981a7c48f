package sites

import (
	"slices"
	"testing"

	"plumb/api"
)

// marked writes over a list, its spare room too, and behind it.
func marked[T any](l []T, mark T) {
	l = l[:cap(l)]
	for i := range l {
		l[i] = mark
	}
	_ = append(l, mark, mark)
	_ = append(l[:0], mark, mark, mark)
}

func TestAnswersAreNewMemory(t *testing.T) {
	s := set(t, at(3, 1), at(0, 0), at(2, 2), at(1, 5), at(9, 9), at(4, 4))
	s.Drop(1)
	s.Drop(4)
	for range 3 {
		before := tell(s)
		lists := [][]int{s.Alive(), s.Alive(), s.Gone(), s.Gone(), s.Order(), s.Order()}
		kept := [][]int{}
		for _, l := range lists {
			kept = append(kept, slices.Clone(l))
		}
		points, others := s.Points(), s.Points()
		was := slices.Clone(points)
		for i := range lists { // one after the other, so that what two share is seen
			if !slices.Equal(lists[i], kept[i]) {
				t.Errorf("P1509: list %d shares the memory of an earlier one", i)
			}
			marked(lists[i], -7)
		}
		marked(others, api.Point{X: 7, Y: 7})
		if !slices.Equal(points, was) {
			t.Error("P1509: Points: two answers share their memory")
		}
		marked(points, api.Point{X: 8, Y: 8})
		if after := tell(s); !alike(after, before) {
			t.Errorf("P1509: what was answered is the set's own: %v, then %v", before, after)
		}
		s.Add(at(float64(100+s.Given()), 0)) // and it goes on as it should
		if p, e := s.At(s.Given() - 1); e != api.OK || p != at(float64(100+s.Given()-1), 0) {
			t.Errorf("P1509: At: %#x, error %d", p, e)
		}
	}
}

func TestOldAnswersStay(t *testing.T) {
	s := set(t, at(3, 1), at(0, 0), at(2, 2))
	alive, points, order, gone := s.Alive(), s.Points(), s.Order(), s.Gone()
	s.Drop(0)
	s.Add(at(-1, -1))
	s.Drop(2)
	s.Add(at(3, 1))
	if !slices.Equal(alive, []int{0, 1, 2}) || !slices.Equal(points, []api.Point{at(3, 1), at(0, 0), at(2, 2)}) || !slices.Equal(order, []int{1, 2, 0}) || len(gone) != 0 {
		t.Errorf("P1509: answers changed with the set: %v, %#x, %v, %v", alive, points, order, gone)
	}
}

func TestListsWithSpareRoom(t *testing.T) {
	zero32 := 1 << 31
	for _, x := range []struct {
		call func([]api.Point) (*Set, int, api.Errno)
		all  []api.Point
		n    int // so many are handed in
		want api.Errno
	}{
		{From, []api.Point{at(minus(), 3), at(1, minus()), at(5, 5), at(6, 6), at(7, 7)}, 3, api.OK},
		{From, []api.Point{at(minus(), 3), at(1, minus()), at(0, 3), at(6, 6), at(7, 7)}, 3, api.ErrSame},
		{From, []api.Point{at(minus(), 3), {X: api.NaN}, at(0, 3), at(6, 6), at(7, 7)}, 3, api.ErrFinite},
		{From32, []api.Point{{X: zero32, Y: 3}, {X: 1, Y: zero32}, {X: 5}, {X: 6}, {X: 7}}, 3, api.OK},
		{From32, []api.Point{{X: zero32, Y: 3}, {X: 1, Y: zero32}, {Y: 3}, {X: 6}, {X: 7}}, 3, api.ErrSame},
		{From32, []api.Point{{X: zero32, Y: 3}, {X: -1, Y: zero32}, {Y: 3}, {X: 6}, {X: 7}}, 3, api.ErrArg},
	} {
		before := slices.Clone(x.all)
		s, _, e := x.call(x.all[:x.n])
		if e != x.want || !slices.Equal(x.all, before) {
			t.Fatalf("P1509: what was handed in is changed: %#x, then %#x; error %d", before, x.all, e)
		}
		if e != api.OK {
			continue
		}
		was := tell(s)
		marked(x.all, api.Point{X: 9, Y: 9}) // were it kept, the set would show it
		if now := tell(s); !alike(now, was) {
			t.Errorf("P1509: what was handed in is kept: %v, then %v", was, now)
		}
		copy(x.all, before)
		s.Add(at(20, 20)) // and what is put in goes nowhere else
		s.Drop(0)
		s.Add(at(21, 21))
		if !slices.Equal(x.all, before) {
			t.Errorf("P1509: what is put in shows in the list: %#x", x.all)
		}
	}
}

func TestRefusedCallsChangeNothing(t *testing.T) {
	s := set(t, at(3, 1), at(0, 0), at(2, 2))
	s.Drop(1)
	before := tell(s)
	for i, e := range []api.Errno{
		second(s.Add(at(3, 1))), second(s.Add(api.Point{X: api.Inf})), s.Drop(1), s.Drop(-1), s.Drop(3), second(s.At(1)), second(s.At(9)), second(s.Near(api.Point{Y: api.NaN})),
	} {
		if e == api.OK {
			t.Errorf("P1502 to P1508: call %d was not refused", i)
		}
	}
	if after := tell(s); !alike(after, before) {
		t.Errorf("P1509: changed: %v, then %v", before, after)
	}
	if id, e := s.Add(at(8, 8)); id != 3 || e != api.OK { // no number was lost
		t.Errorf("P1501: Add behind what was refused: %d, error %d", id, e)
	}
}

func second[T any](_ T, e api.Errno) api.Errno { return e }
