package expansion

import (
	"slices"

	"plumb/api"
	"plumb/bits"
	"plumb/dyadic"
	"plumb/eft"
	"plumb/round"
)

// sure hands on what a step tells, and gives up where that is not exact.
func sure(h, l int, exact bool) (int, int) {
	if !exact {
		panic(api.ErrExact)
	}
	return h, l
}

func nought(b int) bool { return bits.Float(b) == 0 }

// add puts a float behind a list, unless it is a nought.
func add(h []int, b int) []int {
	if nought(b) {
		return h
	}
	return append(h, b)
}

// own is a copy. The list that it is put behind has no room, so that append takes new memory.
func own(e []int) []int { return append(e[:0:0], e...) }

// grow adds a float to a list, in the list's own memory: at each step no more has been put there than was read.
func grow(h []int, q int) []int {
	grown, l := h[:0], 0
	for _, x := range h {
		q, l = sure(eft.TwoSum(q, x))
		grown = add(grown, l)
	}
	return add(grown, q)
}

// gather adds each float of a list to another one, in that one's memory.
func gather(h, f []int) []int {
	for _, x := range f {
		h = grow(h, x)
	}
	return h
}

func grown(e []int, b int) []int { return grow(own(e), b) }

func sum(e, f []int) []int { return gather(own(e), f) }

func difference(e, f []int) []int {
	turned := own(f)
	for i, x := range turned {
		turned[i] = bits.Neg(x)
	}
	return sum(e, turned)
}

func scaled(e []int, b int) []int { return scale(nil, e, b) }

// scale puts the product of a list and a float behind another one.
func scale(h, e []int, b int) []int {
	if len(e) == 0 || nought(b) {
		return h
	}
	q, l := sure(eft.TwoProd(e[0], b))
	h = add(h, l)
	for _, x := range e[1:] {
		t, u := sure(eft.TwoProd(x, b))
		q, l = sure(eft.TwoSum(q, u))
		h = add(h, l)
		q, l = sure(eft.FastTwoSum(t, q))
		h = add(h, l)
	}
	return add(h, q)
}

func product(e, f []int) []int {
	var h, part []int
	for _, x := range f {
		part = scale(part[:0], e, x)
		h = gather(h, part)
	}
	return h
}

// compressed goes over the floats that falling told, from the least one on: what each can't hold of those before it stays behind.
func compressed(e []int) []int {
	if len(e) == 0 {
		return nil
	}
	g := falling(e)
	last := len(g) - 1
	h, q, l := g[:0:0], g[last], 0
	for _, x := range slices.Backward(g[:last]) {
		q, l = sure(eft.FastTwoSum(x, q))
		h = add(h, l)
	}
	return add(h, q)
}

// falling gathers, from the last float of an expansion down, as many as one float can hold, and then on with what it can't: the greatest is told first.
func falling(e []int) []int {
	last := len(e) - 1
	g, q := e[:0:0], e[last]
	for _, x := range slices.Backward(e[:last]) {
		h, l := sure(eft.FastTwoSum(q, x))
		q = h
		if !nought(l) {
			g, q = append(g, h), l
		}
	}
	return append(g, q)
}

// parts takes the nearest float off a number, as long as something is left.
func parts(x api.Num) []int {
	var l []int
	for len(x.Mag) > 0 {
		b, _, _ := round.To(x, api.Near)
		near, e := dyadic.Of(b)
		if e != api.OK || nought(b) {
			panic(api.ErrExact)
		}
		l = append(l, b)
		x, _ = dyadic.Sub(x, near)
	}
	slices.Reverse(l)
	return l
}
