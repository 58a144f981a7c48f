package solid

import (
	"math/rand/v2"
	"sync"

	"plumb/api"
)

// found are the places of atBound, by how many a call takes, looked for once for all tests.
var found = sync.OnceValue(func() map[int][]places {
	m := map[int][]places{}
	for _, a := range both() {
		m[a.count] = atBound(a)
	}
	return m
})

func (a asked) bounds() []places { return found()[a.count] }

// atBound are places whose values lie at the filter's bound, or a few steps beside it. By the chapter's words alone, so that they are the same whatever the program tells.
func atBound(a asked) []places {
	r := seeded(77)
	var l []places
	for n := 0; n < 250; {
		p := sheaf(r, a.count, a.steps)
		i := 3*r.IntN(a.count-1) + 2
		if r.IntN(4) == 0 { // the differences lose something
			p[a.count-1] = at(r.Float64()*0x1p-50, r.Float64()*0x1p-50, r.Float64()*0x1p-50)
		}
		if near := a.around(p, i); near != nil {
			l = append(l, near...)
			n++
		}
	}
	return l
}

// sheaf are places that lie in one direction from the last one, seen from above, but for a few steps: all minors are a few steps of their products, and their heights, which are mixed, make of these values as fine as floats are.
func sheaf(r *rand.Rand, count, steps int) places {
	x, y := mixed(r, 0, 1), mixed(r, 0, 1)
	far := 0.0
	l := some(count-1, func() api.Space {
		far += 0.3 + r.Float64()
		p := at(x*far, y*far, mixed(r, -1, 1))
		p.X += r.IntN(2*steps+1) - steps
		p.Y += r.IntN(2*steps+1) - steps
		return p
	})
	return append(l, at(0, 0, 0))
}

// around are the places with one coordinate, by its number, just where the filter begins to decide, or a few steps less or more; nil, if it doesn't begin within the range.
func (a asked) around(p places, i int) []places {
	with := func(b int) places {
		c := p.flat()
		c[i] = b
		return fromFlat(c)
	}
	decided := func(b int) bool {
		D, S := a.filter(with(b))
		return abs(D).Cmp(mul(a.A, S)) > 0
	}
	low, high := of(0x1p-4), of(0x1p4)
	if decided(low) == decided(high) {
		return nil
	}
	first := decided(low)
	for high-low > 1 {
		if middle := low + (high-low)/2; decided(middle) == first {
			low = middle
		} else {
			high = middle
		}
	}
	var l []places
	for b := low - 3; b <= high+3; b++ {
		l = append(l, with(b))
	}
	return l
}
