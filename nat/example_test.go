package nat

import (
	"slices"
	"testing"

	"plumb/api"
)

func TestExamples(t *testing.T) {
	two := func(a []int, f func(a, b []int) ([]int, api.Errno), b []int) answer {
		n, e := f(a, b)
		return answer{[2][]int{n}, e}
	}
	by := func(a []int, f func(a []int, k int) ([]int, api.Errno), k int) answer {
		n, e := f(a, k)
		return answer{[2][]int{n}, e}
	}
	of := func(v int) answer { n, e := Of(v); return answer{[2][]int{n}, e} }
	div := func(a, b []int) answer { q, r, e := Div(a, b); return answer{[2][]int{q, r}, e} }
	s, r, e := Root([]int{10})
	read, readError := Read("007")
	for i, x := range []struct{ got, want answer }{
		{of(0), answer{}},
		{of(1 << 30), answer{[2][]int{{0, 1}}, api.OK}},
		{of(-1), answer{e: api.ErrArg}},
		{two([]int{1}, Sub, []int{2}), answer{e: api.ErrNegative}},
		{div([]int{7}, nil), answer{e: api.ErrDivide}},
		{div([]int{7}, []int{2}), answer{[2][]int{{3}, {1}}, api.OK}},
		{by([]int{1}, Shl, 60000), answer{e: api.ErrLong}},
		{by([]int{1}, Shl, 59999), answer{[2][]int{append(make([]int, 1999), 1<<29)}, api.OK}},
		{by(nil, Shl, 1<<62), answer{}},
		{by([]int{10}, Pow, 3), answer{[2][]int{{1000}}, api.OK}},
		{by([]int{2}, Pow, 1<<40), answer{e: api.ErrLong}},
		{by([]int{1}, Pow, 1<<62), answer{[2][]int{{1}}, api.OK}},
		{by(nil, Pow, 0), answer{[2][]int{{1}}, api.OK}},
		{answer{[2][]int{s, r}, e}, answer{[2][]int{{3}, {1}}, api.OK}},
		{two([]int{12}, Gcd, []int{18}), answer{[2][]int{{6}}, api.OK}},
		{answer{[2][]int{read}, readError}, answer{e: api.ErrText}},
	} {
		if !x.got.equal(x.want) {
			t.Errorf("P203 to P212: example %d: %v, want %v", i, x.got, x.want)
		}
	}
	if text, e := Text([]int{0, 1}); text != "1073741824" || e != api.OK {
		t.Errorf("P212: %q, %d", text, e)
	}
	bits := []int{Bits([]int{1}), Bits([]int{0, 1}), Bits(nil), Bits([]int{0}), Low([]int{0, 6}), Low(nil)}
	if !slices.Equal(bits, []int{1, 31, 0, -1, 31, -1}) {
		t.Errorf("P204: %v", bits)
	}
}
