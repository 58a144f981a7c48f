package tie

import (
	"math"
	"sync"
	"testing"

	"plumb/api"
)

func TestExamples(t *testing.T) {
	for i, x := range []struct {
		f           four
		sign, stage int
	}{
		{four{at(0, 0), at(1, 0), at(1, 1), at(0, 1)}, 1, api.StageTie},
		{four{at(1, 0), at(1, 1), at(0, 1), at(0, 0)}, -1, api.StageTie},
		{four{at(1, 0), at(0, 1), at(-1, 0), at(0, 0)}, 1, api.StageFilter},
		{four{at(0, 0), at(1, 1), at(2, 2), at(3, 3)}, 0, api.StageTie},
	} {
		if v, e := side(x.f); v != (api.Verdict{Sign: x.sign, Stage: x.stage}) || e != api.OK {
			t.Errorf("P1401, P1402: example %d: %v, error %d", i, v, e)
		}
	}
}

func TestByHand(t *testing.T) {
	row := func(right, left, low float64) four {
		return four{at(0x1p140, 0), at(1, 1), at(right*0x1p-52, left*0x1p-52), at(low, low)}
	}
	below := func(low float64) four { return four{at(1, 1), at(0, 2), at(-1, 1), at(0, -low)} }
	for i, x := range []struct {
		f           four
		sign, stage int
	}{
		{row(0x1p52-11, 0x1p52-1, 0), 1, api.StageFilter}, // each stage of in-circle, with its sign
		{row(0x1p52-10, 0x1p52, 0), 1, api.StageHeads},
		{row(0x1p52-6, 0x1p52-2, 0x1p-140), 1, api.StageTails},
		{below((44 + 10*0x1p-47) * 0x1p-104), -1, api.StageExpansion},
		{below(0), 1, api.StageTie}, // the least one is c: (1, 1), (0, 2), (0, 0) turn left
		{four{at(0, 0), at(1, 0), at(0, 1), at(0x1p-200, 0x1p-200)}, 1, api.StageSpan},
		{four{at(0, 0), at(1, 0), at(1, 1), at(tiny, 1)}, 1, api.StageDyadic}, // next to a tie
		{four{at(0, 0), at(1, 0), at(1, 1), at(-tiny, 1)}, -1, api.StageDyadic},
		{four{at(0, 0), at(tiny, 0), at(tiny, tiny), at(0, tiny)}, 1, api.StageTie}, // the least square and the greatest one
		{four{at(-top, -top), at(top, -top), at(top, top), at(-top, top)}, 1, api.StageTie},
		{four{at(-top, top), at(top, -top), at(top, top), at(-top, -top)}, -1, api.StageTie},
		{four{at(0, -2), at(0, 2), at(-2, 0), at(2, 0)}, -1, api.StageTie}, // the least one is c
		{four{at(-2, 0), at(0, -2), at(2, 0), at(0, 2)}, 1, api.StageTie},
		{four{at(0, 1), at(0, -1), at(1, 0), at(-1, 0)}, -1, api.StageTie},
		{four{at(1, 0), at(math.Copysign(0, -1), 0), at(0, 1), at(1, 1)}, 1, api.StageTie}, // of equal x the least y: b, and -0 is no less than 0
		{four{at(1, 0), at(0, 0), at(math.Copysign(0, -1), 1), at(1, 1)}, 1, api.StageTie},
		{four{at(0, 0), at(tiny, tiny), at(1, 1), at(top, top)}, 0, api.StageTie}, // on one line
		{four{at(0, 3), at(0, 1), at(0, -2), at(0, 5)}, 0, api.StageTie},
		{four{at(3, 7), at(1, 7), at(-2, 7), at(-top, 7)}, 0, api.StageTie},
		{four{at(0, 0), at(0, 0), at(0, 0), at(0, 0)}, 0, api.StageTie},
	} {
		if v, e := side(x.f); v != (api.Verdict{Sign: x.sign, Stage: x.stage}) || e != api.OK {
			t.Errorf("P1401, P1402: row %d: %v, error %d; want %d by stage %d", i, v, e, x.sign, x.stage)
		}
	}
}

func TestTwoOfOnePlace(t *testing.T) {
	minus := math.Copysign(0, -1)
	for _, f := range []four{
		{at(0, 0), at(0, 0), at(1, 1), at(0, 1)}, {at(0, minus), at(minus, 0), at(1, 0), at(0, 1)},
		{at(3, minus), at(3, 0), at(1, 1), at(5, 1)}, {at(minus, 3), at(0, 3), at(-1, -1), at(5, 1)},
		{at(9, 9), at(9, 9), at(1, 1), at(5, 1)}, {at(tiny, top), at(tiny, top), at(1, 1), at(5, 1)},
		{at(0, 0), at(minus, minus), at(1, 1), at(2, 2)}, {at(7, 0), at(7, minus), at(7, 0), at(2, 2)},
	} {
		for _, o := range orders() {
			if v, e := side(o.of(f)); v != (api.Verdict{Stage: api.StageTie}) || e != api.OK {
				t.Errorf("P1401, P1403: Side(%x): %v, error %d", o.of(f), v, e)
			}
		}
	}
}

func TestWhatIsNoPointIsRefused(t *testing.T) {
	bad := []int{api.Inf, api.Inf | minus0, api.NaN, api.Inf + 1, -1, math.MaxInt, api.NaN | minus0}
	for _, f := range []four{{}, {at(0, 0), at(1, 0), at(1, 1), at(0, 1)}, {at(1, 0), at(0, 1), at(-1, 0), at(0, 0)}, {at(0x1p1000, 1), at(tiny, 2), at(top, -top), at(1, 0)}, {at(1, 1), at(2, 2), at(3, 3), at(4, 4)}} {
		for i := range 8 {
			for k := range 8 {
				for _, b := range bad {
					c := coordinates(f)
					c[i], c[k] = b, b
					if v, e := side(fromCoordinates(c)); v != (api.Verdict{}) || e != api.ErrFinite {
						t.Errorf("P1401: Side(%x): %v, error %d", c, v, e)
					}
				}
			}
		}
	}
}

func TestPlacesAloneMatter(t *testing.T) {
	for _, f := range samples(4) {
		c := coordinates(f)
		for i, b := range c {
			if value(b) == 0 {
				c[i] ^= minus0
			}
		}
		v, e := side(f)
		if w, other := side(fromCoordinates(c)); v != w || e != other {
			t.Fatalf("P1405: Side(%x): %v, with noughts of other signs %v", f, v, w)
		}
	}
}

func TestPowersOfTwoTurnNothing(t *testing.T) {
	ties := 0
	for i, f := range samples(5) {
		if i%2 > 0 { // half of them is enough
			continue
		}
		v, _ := side(f)
		for _, k := range []int{-900, -140, -1, 1, 140, 900} {
			g, ok := scaled(f, k)
			if !ok || !good(g) {
				continue
			}
			if v.Stage == api.StageTie && v.Sign != 0 {
				ties++
			}
			if w, e := side(g); w.Sign != v.Sign || e != api.OK {
				t.Fatalf("P1405: Side(%x): %v, times 2^%d %v", f, v, k, w)
			}
		}
	}
	if ties < 1000 {
		t.Errorf("P1405: %d ties: too few to tell", ties)
	}
}

func TestShiftsTurnNothing(t *testing.T) {
	ties := 0
	for _, f := range samples(6) {
		v, _ := side(f)
		for _, s := range [][2]float64{{1, 0}, {0, -1}, {-3, 0x1p20}, {0x1p30, 0}, {0, 0x1p-20}, {value(f[0].X), 0}, {0, -value(f[1].Y)}} {
			g, ok := shifted(f, s[0], s[1])
			if !ok || !good(g) {
				continue
			}
			if v.Stage == api.StageTie && v.Sign != 0 {
				ties++
			}
			if w, e := side(g); w.Sign != v.Sign || e != api.OK {
				t.Fatalf("P1405: Side(%x): %v, moved by %v %v", f, v, s, w)
			}
		}
	}
	if ties < 1000 {
		t.Errorf("P1405: %d ties: too few to tell", ties)
	}
}

func TestAnswersHangOnArgumentsAlone(t *testing.T) {
	l := samples(7)
	first := make([]api.Verdict, len(l))
	for i, f := range l {
		first[i], _ = side(f)
	}
	var all sync.WaitGroup
	for range 4 {
		all.Go(func() {
			for i := range l {
				k := len(l) - 1 - i
				if v, e := side(l[k]); v != first[k] || e != api.OK {
					t.Errorf("P1401: Side(%x): %v, then %v", l[k], first[k], v)
				}
			}
		})
	}
	all.Wait()
}
