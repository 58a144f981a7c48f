package round

import (
	"plumb/api"
	"plumb/dyadic"
)

// kind says what the operands of a single operation are, and what it tells.
type kind struct {
	from func(b int) (api.Num, api.Errno) // the exact number of an operand
	to   func(x value, w way) (int, bool) // what its result is rounded to
}

func double() kind { return kind{from: dyadic.Of, to: value.binary64} }

func single() kind { return kind{from: dyadic.Of32, to: value.binary32} }

func narrow() kind { return kind{from: dyadic.Of, to: value.binary32} }

// operate rounds the result of an operation. What Go's own floats told, to the nearest, stands in every way where there is nothing to round: an operand is not finite, or there is no result, or it is a nought.
func (k kind) operate(near, number int, reckon result, operands ...int) (int, api.Errno) {
	w, ok := wayOf(number)
	switch {
	case !ok:
		return 0, api.ErrArg
	case number == api.Near:
		return near, api.OK
	}
	l, finite := k.values(operands)
	if !finite {
		return near, api.OK
	}
	x, e := reckon(l)
	if e != api.OK || x.mag == 0 && !x.signed {
		return near, api.OK
	}
	x.signed = true
	b, _ := k.to(x, w)
	return b, api.OK
}

// values are the exact numbers of operands; false: one is not finite.
func (k kind) values(operands []int) ([]api.Num, bool) {
	l := make([]api.Num, len(operands))
	for i, b := range operands {
		x, e := k.from(b)
		if e != api.OK {
			return nil, false
		}
		l[i] = x
	}
	return l, true
}

// add is the sum of two, which Go's own floats told as near.
func (k kind) add(near, a, b, number int) (int, api.Errno) {
	return k.operate(near, number, func(l []api.Num) (value, api.Errno) {
		x, e := dyadic.Add(l[0], l[1])
		return total(x, number, a == 0 && b == 0), e
	}, a, b)
}
