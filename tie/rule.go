package tie

import (
	"slices"

	"plumb/api"
	"plumb/orient"
	"plumb/point"
)

// four are the points of a call.
type four [4]api.Point

// row is where a point stands in the determinant: raising its lift adds the orientation of the others, times the sign.
type row struct {
	others [3]int
	sign   int
}

var rows = [4]row{
	{[3]int{1, 2, 3}, 1},
	{[3]int{0, 2, 3}, -1},
	{[3]int{0, 1, 3}, 1},
	{[3]int{0, 1, 2}, -1},
}

// normal are the points with 0 for -0, so that those of one place are equal.
func normal(f four) four {
	for i, p := range f {
		f[i], _ = point.Normal(p)
	}
	return f
}

// raised is the sign that the raised lifts leave where in-circle is 0.
func raised(f four) int {
	order := f.order()
	if f.twice(order) {
		return 0
	}
	for _, i := range order {
		if sign := f.coefficient(i); sign != 0 {
			return sign
		}
	}
	return 0
}

// order are the numbers of the points, the least one first.
func (f four) order() [4]int {
	l := [4]int{0, 1, 2, 3}
	slices.SortFunc(l[:], func(i, k int) int {
		c, _ := point.Cmp(f[i], f[k])
		return c
	})
	return l
}

// twice tells whether two points are one place: such ones come next to each other.
func (f four) twice(order [4]int) bool {
	for k := range 3 {
		if f[order[k]] == f[order[k+1]] {
			return true
		}
	}
	return false
}

// coefficient is the sign by which a raise of a point's lift moves the determinant.
func (f four) coefficient(i int) int {
	r := rows[i]
	turn, _ := orient.Sign(f[r.others[0]], f[r.others[1]], f[r.others[2]])
	return r.sign * turn.Sign
}
