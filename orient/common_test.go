package orient

import (
	"math"
	"slices"
	"sync"
	"testing"

	"plumb/api"
)

func TestExamples(t *testing.T) {
	for i, x := range []struct {
		t           three
		sign, stage int
		exact       api.Num
	}{
		{three{at(0, 0), at(1, 0), at(0, 1)}, 1, api.StageFilter, api.Num{Mag: []int{1}}},
		{three{at(0, 0), at(0, 1), at(1, 0)}, -1, api.StageFilter, api.Num{Neg: true, Mag: []int{1}}},
		{three{at(0, 0), at(1, 1), at(2, 2)}, 0, api.StageHeads, api.Num{}},
		{three{at(0, 0), at(1, 0), at(2, 0)}, 0, api.StageFilter, api.Num{}},
		{three{at(0.5, 0.5), at(12, 12), at(24, 24+0x1p-48)}, 1, api.StageHeads, api.Num{Mag: []int{23}, Exp: -49}},
		{three{at(0x1p200, 0), at(0, 0), at(0, 1)}, -1, api.StageSpan, api.Num{Neg: true, Mag: []int{1}, Exp: 200}},
		{three{at(0, 0), at(0x1p-1074, 0x1p-1074), at(0x1p1023, 0x1p1023)}, 0, api.StageDyadic, api.Num{}},
	} {
		if v, e := Sign(x.t.a, x.t.b, x.t.c); v != (api.Verdict{Sign: x.sign, Stage: x.stage}) || e != api.OK {
			t.Errorf("P1002 to P1007: example %d: %v, error %d", i, v, e)
		}
		if n, e := Exact(x.t.a, x.t.b, x.t.c); !same(n, x.exact) || e != api.OK {
			t.Errorf("P1001: example %d: %v, error %d", i, n, e)
		}
	}
}

func TestOfBounds(t *testing.T) { // what the bounds are, worked out by hand
	row := func(right, left, far float64) three { return three{at(1, 1), at(right, left), at(far, far)} }
	tail := (9 + 0x1p-47) * 0x1p-104
	for i, x := range []struct {
		t    three
		want api.Verdict
	}{
		{row(0x1p52-4, 0x1p52-1, 0), api.Verdict{Sign: 1, Stage: api.StageFilter}},              // D is 3, and A ⊗ S too
		{row(0x1p52-2, 0x1p52+1, 0), api.Verdict{Sign: 1, Stage: api.StageHeads}},               // D is 3, A ⊗ S a little more
		{row(0x1p52-4, 0x1p52-2, 0x1p-100), api.Verdict{Sign: 1, Stage: api.StageHeads}},        // h is 2, and B ⊗ S too
		{row(0x1p52-3, 0x1p52-1, 0x1p-100), api.Verdict{Sign: 1, Stage: api.StageTails}},        // h is 2, B ⊗ S a little more
		{three{at(1, 1), at(2, 2), at(0, -tail)}, api.Verdict{Sign: -1, Stage: api.StageTails}}, // d is -E
		{three{at(1, 1), at(2, 2), at(0, -math.Nextafter(tail, 0))}, api.Verdict{Sign: -1, Stage: api.StageExpansion}},
	} {
		if v, e := Sign(x.t.a, x.t.b, x.t.c); v != x.want || e != api.OK {
			t.Errorf("P1003 to P1006: row %d: %v, error %d; want %v", i, v, e, x.want)
		}
	}
}

func TestWhatIsNoPointIsRefused(t *testing.T) {
	bad := []int{api.Inf, api.Inf | minus0, api.NaN, api.Inf + 1, -1, math.MaxInt, api.NaN | minus0}
	for _, x := range []three{{}, {at(1, 2), at(3, 4), at(5, 7)}, {at(0x1p1000, 1), at(0x1p-1074, 2), at(top, -top)}, {at(1, 1), at(2, 2), at(3, 3)}} {
		for i := range 6 {
			for k := range 6 {
				for _, b := range bad {
					c := x.coordinates()
					c[i], c[k] = b, b
					p, q, r := api.Point{X: c[0], Y: c[1]}, api.Point{X: c[2], Y: c[3]}, api.Point{X: c[4], Y: c[5]}
					if v, e := Sign(p, q, r); v != (api.Verdict{}) || e != api.ErrFinite {
						t.Errorf("P1002: Sign(%x): %v, error %d", c, v, e)
					}
					if n, e := Exact(p, q, r); !same(n, api.Num{}) || e != api.ErrFinite {
						t.Errorf("P1001: Exact(%x): %v, error %d", c, n, e)
					}
				}
			}
		}
	}
}

func TestAnswersAreNewMemory(t *testing.T) {
	for _, x := range samples(7) {
		n, _ := Exact(x.a, x.b, x.c)
		kept := slices.Clone(n.Mag)
		again, _ := Exact(x.a, x.b, x.c)
		clear(again.Mag[:cap(again.Mag)])
		if !slices.Equal(n.Mag, kept) {
			t.Fatalf("P1001: Exact(%x): two answers share their memory", x)
		}
	}
}

func TestAnswersHangOnArgumentsAlone(t *testing.T) {
	l := samples(8)
	first := make([]api.Verdict, len(l))
	for i, x := range l {
		first[i], _ = Sign(x.a, x.b, x.c)
	}
	var all sync.WaitGroup
	for range 4 {
		all.Go(func() {
			for i := range l {
				k := len(l) - 1 - i
				if v, e := Sign(l[k].a, l[k].b, l[k].c); v != first[k] || e != api.OK {
					t.Errorf("P1002: Sign(%x): %v, then %v", l[k], first[k], v)
				}
			}
		})
	}
	all.Wait()
}
