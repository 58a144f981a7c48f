package sums

import (
	"plumb/api"
	"plumb/bits"
	"plumb/dyadic"
	"plumb/round"
)

// float is a float of either width.
type float interface{ float32 | float64 }

// width says how the patterns of one width are read, and how what comes of them is told.
type width[F float] struct {
	float   func(b int) F
	pattern func(f F) int
	exact   func(b int) (api.Num, api.Errno)
	round   func(x api.Num, way int) (int, bool, api.Errno)
}

func binary64() width[float64] {
	return width[float64]{float: bits.Float, pattern: bits.Of, exact: dyadic.Of, round: round.To}
}

func binary32() width[float32] {
	return width[float32]{float: bits.Float32, pattern: bits.Of32, exact: dyadic.Of32, round: round.To32}
}

// left adds from the first one on, each step rounded.
func left[F float](w width[F], l []int) int {
	var s F
	for i := range len(l) {
		s += w.float(l[i])
	}
	return w.pattern(s)
}

// sum rounds the exact sum of a list, or of the products of two, where there is one: what is not finite in them decides without it.
func sum[F float](w width[F], way int, lists ...[]int) (int, api.Errno) {
	if e := refusal(way, lists); e != api.OK {
		return 0, e
	}
	if s := strays(w, lists); s != 0 { // what is no number is not 0 either
		return w.pattern(s), api.OK
	}
	b, _, e := w.round(total(w, lists), way)
	return b, e
}

// refusal tells what is wrong with a way and lists. Which ways there are, round knows.
func refusal(way int, lists [][]int) api.Errno {
	if _, _, e := round.To(api.Num{}, way); e != api.OK {
		return e
	}
	for _, l := range lists {
		if len(l) != len(lists[0]) {
			return api.ErrArg
		}
	}
	if len(lists[0]) > api.MaxList {
		return api.ErrLong
	}
	return api.OK
}

// strays adds up the terms that are not finite, or have a factor that is not; 0: there is none. The rules of IEEE 754 for them are those of the exact sum, and the order does not matter.
func strays[F float](w width[F], lists [][]int) F {
	var s F
	for i := range len(lists[0]) {
		term, finite := F(1), true
		for _, l := range lists {
			x := w.float(l[i])
			term = F(term * x)
			finite = finite && x-x == 0
		}
		if !finite {
			s += term
		}
	}
	return s
}

// total is the exact sum of a list, or of the products of two. It has some 4,200 bits at the most, so that it is never too long.
func total[F float](w width[F], lists [][]int) api.Num {
	if len(lists) == 1 {
		x, _ := dyadic.Sum(numbers(w, lists[0]))
		return x
	}
	x, _ := dyadic.Dot(numbers(w, lists[0]), numbers(w, lists[1]))
	return x
}

// numbers are the exact numbers of finite floats.
func numbers[F float](w width[F], l []int) []api.Num {
	n := make([]api.Num, len(l))
	for i := range len(l) {
		n[i], _ = w.exact(l[i])
	}
	return n
}
