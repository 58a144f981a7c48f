package sums

import (
	"math"
	"slices"
	"testing"

	"plumb/api"
)

// call is one that takes a way, by two lists; one that takes a single list takes the first.
type call func(a, b []int, way int) (int, api.Errno)

func first(f func(l []int, way int) (int, api.Errno)) call {
	return func(a, _ []int, way int) (int, api.Errno) { return f(a, way) }
}

func ofOne() map[string]call {
	return map[string]call{"P505: Sum": first(Sum), "P505: Norm": first(Norm), "P506: Sum32": first(Sum32)}
}

func ofTwo() map[string]call { return map[string]call{"P505: Dot": Dot, "P506: Dot32": Dot32} }

// refuses holds a call to an error, with nothing beside it.
func refuses(t *testing.T, what string, f call, a, b []int, way int, want api.Errno) {
	t.Helper()
	if got, e := f(a, b, way); got != 0 || e != want {
		t.Errorf("%s of %d and %d floats in way %d: %#x, error %d; want error %d", what, len(a), len(b), way, got, e, want)
	}
}

func TestErrorsInTheirOrder(t *testing.T) {
	lists := [][]int{nil, {0}, {api.NaN}, {api.Inf}, {api.Inf32, -1}, make([]int, api.MaxList), make([]int, api.MaxList+1), slices.Repeat([]int{api.Inf}, 2*api.MaxList)}
	for _, l := range lists {
		for _, way := range noWays() {
			for what, f := range ofOne() {
				refuses(t, what, f, l, nil, way, api.ErrArg)
			}
			for what, f := range ofTwo() {
				refuses(t, what, f, l, l, way, api.ErrArg)
			}
		}
		for _, way := range allWays() {
			for what, f := range ofTwo() { // unlike lengths come ahead of long lists
				refuses(t, what, f, l, append(slices.Clone(l), 0), way, api.ErrArg)
				refuses(t, what, f, append(slices.Clone(l), 0), l, way, api.ErrArg)
			}
		}
	}
	for _, l := range lists[len(lists)-2:] {
		for _, way := range allWays() {
			for what, f := range ofOne() {
				refuses(t, what, f, l, nil, way, api.ErrLong)
			}
			for what, f := range ofTwo() {
				refuses(t, what, f, l, l, way, api.ErrLong)
			}
		}
	}
}

// withRoom is a copy of a list with room behind it that holds 77s.
func withRoom(l []int) []int { return append(slices.Clone(l), 77, 77, 77)[:len(l)] }

// kept tells whether a copy is as it was made, its room too.
func kept(copied, l []int) bool {
	return slices.Equal(copied[:len(l)+3], append(slices.Clone(l), 77, 77, 77))
}

func TestAnswersHangOnArgumentsAlone(t *testing.T) {
	calls := map[string]call{"P507: Left32": func(a, _ []int, _ int) (int, api.Errno) { return Left32(a), 0 }}
	for _, x := range steps() {
		calls[x.name+", P507"] = func(a, _ []int, _ int) (int, api.Errno) { return x.got(a), 0 }
	}
	for _, m := range []map[string]call{ofOne(), ofTwo()} {
		for what, f := range m {
			calls[what+", P507"] = f
		}
	}
	r := seeded(31)
	for what, f := range calls {
		for i := range 100 {
			n := r.IntN(9)
			a, b := make([]int, n), make([]int, n)
			for j := range a {
				a[j], b[j] = of(mixed(r, -9, 9)), special()[r.IntN(len(special()))]
			}
			if i%2 == 1 {
				for j := range a {
					a[j], b[j] = of32(float32(value(a[j]))), special32()[r.IntN(len(special32()))]
				}
			}
			x, y := withRoom(a), withRoom(b)
			got, e := f(x, y, i%4)
			f(y, x, (i+1)%4)
			f(slices.Repeat(y, 3), slices.Repeat(x, 3), math.MaxInt)
			again, e2 := f(x, y, i%4)
			if again != got || e2 != e {
				t.Errorf("%s: told %#x, then %#x", what, got, again)
			}
			if !kept(x, a) || !kept(y, b) {
				t.Fatalf("%s: changed what it was given", what)
			}
		}
	}
}
