package solid

import (
	"math"
	"slices"
	"sync"
	"testing"

	"plumb/api"
)

// ones is 2^bits - 1, times a power of 2.
func ones(neg bool, bits, exp int) api.Num {
	return api.Num{Neg: neg, Mag: append(slices.Repeat([]int{1<<30 - 1}, bits/30), 1<<(bits%30)-1), Exp: exp}
}

func TestExamples(t *testing.T) {
	o, x, y, z, left := at(0, 0, 0), at(1, 0, 0), at(0, 1, 0), at(0, 0, 1), at(-1, 0, 0)
	side, sphere := sideAsked(), sphereAsked()
	for i, v := range []struct {
		asked       asked
		l           places
		sign, stage int
		exact       api.Num
	}{
		{side, places{x, y, z, o}, 1, api.StageFilter, ones(false, 1, 0)},
		{side, places{x, z, y, o}, -1, api.StageFilter, ones(true, 1, 0)},
		{side, places{x, y, at(1, 1, 0), o}, 0, api.StageExpansion, api.Num{}},
		{side, places{x, y, z, at(0x1p1000, 0, 0)}, -1, api.StageDyadic, ones(true, 1000, 0)},
		{side, places{x, y, z, at(0x1p-1074, 0, 0)}, 1, api.StageDyadic, ones(false, 1074, -1074)},
		{sphere, places{x, y, z, left, o}, 1, api.StageFilter, ones(false, 1, 1)},
		{sphere, places{x, y, z, left, at(0, -1, 0)}, 0, api.StageExpansion, api.Num{}},
		{sphere, places{x, y, left, z, o}, -1, api.StageFilter, ones(true, 1, 1)},
		{sphere, places{x, y, z, left, at(0, -1-0x1p-52, 0)}, -1, api.StageExpansion, api.Num{Neg: true, Mag: []int{1, 1 << 23}, Exp: -103}},
		{sphere, places{x, y, z, left, at(0, 0, 0x1p-1074)}, 1, api.StageDyadic, ones(false, 2148, -2147)},
		{sphere, places{x, y, z, left, at(0, 0x1p700, 0)}, -1, api.StageDyadic, ones(true, 1400, 1)},
	} {
		if g, e := v.asked.sign(v.l); g != (api.Verdict{Sign: v.sign, Stage: v.stage}) || e != api.OK {
			t.Errorf("P1203 to P1205: example %d: %v, error %d", i, g, e)
		}
		if n, e := v.asked.exact(v.l); !same(n, v.exact) || e != api.OK {
			t.Errorf("P1201, P1202: example %d: %v, error %d", i, n, e)
		}
	}
}

func TestOfBounds(t *testing.T) { // what the bounds are, worked out by hand
	side := func(p, q float64) places { return places{at(0, 0, 1), at(1, 1, 0), at(p, q, 0), at(0, 0, 0)} } // D is q - p, and S is q + p
	sphere := func(p, q float64) places {                                                                   // the same times 2^120: all else is too little to be seen
		return places{at(0, 0, 1), at(1, 1, 0), at(p, q, 0), at(0, 0, 0x1p60), at(0, 0, 0)}
	}
	for i, x := range []struct {
		asked asked
		l     places
		stage int
	}{
		{sideAsked(), side(0x1p52-8, 0x1p52-1), api.StageFilter},         // D is 7, A ⊗ S 7 - 2^-50
		{sideAsked(), side(0x1p52-7.5, 0x1p52-0.5), api.StageExpansion},  // both are 7: that is not enough
		{sideAsked(), side(0x1p52-7, 0x1p52), api.StageExpansion},        // A ⊗ S is 7 + 2^-50
		{sphereAsked(), sphere(0x1p52-16, 0x1p52), api.StageFilter},      // D is 16, A ⊗ S 16 - 2^-48
		{sphereAsked(), sphere(0x1p52-15, 0x1p52+1), api.StageExpansion}, // both are 16
		{sphereAsked(), sphere(0x1p52-14, 0x1p52+2), api.StageExpansion}, // A ⊗ S is 16 + 2^-48
		{sphereAsked(), sphere(0x1p52-16, 0x1p52+2), api.StageFilter},    // D is 18
		{sphereAsked(), sphere(0x1p52-10, 0x1p52+2), api.StageExpansion}, // D is 12
		{sideAsked(), side(0x1p52-4, 0x1p52+4), api.StageFilter},         // D is 8
		{sideAsked(), side(0x1p52-3, 0x1p52+3), api.StageExpansion},      // D is 6
		{sideAsked(), side(0x1p52, 0x1p52), api.StageExpansion},          // D is 0
		{sideAsked(), side(0, 0x1p-150), api.StageFilter},                // D is S
		{sphereAsked(), sphere(0, 0x1p-150), api.StageFilter},            // likewise
		{sphereAsked(), sphere(0x1p52+1, 0x1p52+1), api.StageExpansion},  // D is 0
	} {
		want := api.Verdict{Sign: x.asked.exactly(x.l).Sign(), Stage: x.stage}
		if v, e := x.asked.sign(x.l); v != want || e != api.OK {
			t.Errorf("%s: row %d: %v, error %d; want %v", x.asked.promise[1], i, v, e, want)
		}
	}
}

func TestWhatIsNoPlaceIsRefused(t *testing.T) {
	bad := []int{api.Inf, api.Inf | minus0, api.NaN, api.Inf + 1, -1, math.MaxInt, api.NaN | minus0}
	for _, a := range both() {
		r := seeded(6)
		for _, l := range []places{make(places, a.count), drawn(r, a.count, 0, 3), drawn(r, a.count, -1074, 1023), onPlane(r, a.count, 0, 0), twice(r, a.count, 0, 0)} {
			for i := range 3 * a.count {
				for k, b := range bad {
					c := l.flat()
					c[i], c[(i+k)%len(c)] = b, b
					if v, e := a.sign(fromFlat(c)); v != (api.Verdict{}) || e != api.ErrFinite {
						t.Errorf("%s, P1205: %s(%x): %v, error %d", a.promise[1], a.name, c, v, e)
					}
					if n, e := a.exact(fromFlat(c)); !same(n, api.Num{}) || e != api.ErrFinite {
						t.Errorf("%s: %sExact(%x): %v, error %d", a.promise[0], a.name, c, n, e)
					}
				}
			}
		}
	}
}

func TestAnswersAreNewMemory(t *testing.T) {
	for _, a := range both() {
		for _, l := range samples(7, a)[:2000] {
			n, _ := a.exact(l)
			kept := slices.Clone(n.Mag)
			again, _ := a.exact(l)
			clear(again.Mag[:cap(again.Mag)])
			if !slices.Equal(n.Mag, kept) {
				t.Fatalf("%s: %sExact(%x): two answers share their memory", a.promise[0], a.name, l)
			}
		}
	}
}

func TestAnswersHangOnArgumentsAlone(t *testing.T) {
	for _, a := range both() {
		l := samples(8, a)
		first := make([]api.Verdict, len(l))
		for i, p := range l {
			first[i], _ = a.sign(p)
		}
		var all sync.WaitGroup
		for range 4 {
			all.Go(func() {
				for i := range l {
					k := len(l) - 1 - i
					if v, e := a.sign(l[k]); v != first[k] || e != api.OK {
						t.Errorf("P1206: %s(%x): %v, then %v", a.name, l[k], first[k], v)
					}
				}
			})
		}
		all.Wait()
	}
}
