package circle

import (
	"math"
	"slices"
	"sync"
	"testing"

	"plumb/api"
)

func TestExamples(t *testing.T) {
	for i, x := range []struct {
		f           four
		sign, stage int
	}{
		{four{at(1, 0), at(0, 1), at(-1, 0), at(0, 0)}, 1, api.StageFilter},
		{four{at(1, 0), at(0, 1), at(-1, 0), at(0, -1)}, 0, api.StageHeads},
		{four{at(1, 0), at(0, 1), at(-1, 0), at(0, -2)}, -1, api.StageFilter},
		{four{at(0, 1), at(1, 0), at(-1, 0), at(0, 0)}, -1, api.StageFilter},
		{four{at(0, 0), at(1, 1), at(2, 2), at(3, 3)}, 0, api.StageHeads},
		{four{at(0, 0), at(1, 0), at(0, 1), at(1, 0x1p-1074)}, 1, api.StageDyadic},
		{four{at(0, 0), at(1, 0), at(0, 1), at(0x1p-200, 0x1p-200)}, 1, api.StageSpan},
		{four{at(0, 0), at(1, 0), at(0, 1), at(0x1p600, 0)}, -1, api.StageDyadic},
	} {
		if v, e := sign(x.f); v != (api.Verdict{Sign: x.sign, Stage: x.stage}) || e != api.OK {
			t.Errorf("P1102 to P1107: example %d: %v, error %d", i, v, e)
		}
	}
	long := append(slices.Repeat([]int{1<<30 - 1}, 53), 1<<10-1) // 2^1600 - 1
	for i, x := range []struct {
		f    four
		want api.Num
	}{
		{four{at(1, 0), at(0, 1), at(-1, 0), at(0, 0)}, api.Num{Mag: []int{1}, Exp: 1}},
		{four{at(1, 0), at(0, 1), at(-1, 0), at(0, -1)}, api.Num{}},
		{four{at(1, 0), at(0, 1), at(-1, 0), at(0, -2)}, api.Num{Neg: true, Mag: []int{3}, Exp: 1}},
		{four{at(0, 0), at(0x1p600, 0), at(0, 0x1p600), at(0x1p600, 0x1p-1000)}, api.Num{Mag: long, Exp: -800}}, // 2^1200 (2^-400 - 2^-2000)
	} {
		if n, e := exactOf(x.f); !same(n, x.want) || e != api.OK {
			t.Errorf("P1101: number %d: %v, error %d", i, n, e)
		}
	}
}

func TestOfBounds(t *testing.T) { // what the bounds are, worked out by hand
	row := func(right, left, low float64) four {
		return four{at(0x1p140, 0), at(1, 1), at(right*0x1p-52, left*0x1p-52), at(low, low)}
	}
	below := func(low float64) four { return four{at(1, 1), at(0, 2), at(-1, 1), at(0, -low)} }
	for i, x := range []struct {
		f           four
		sign, stage int
	}{
		{row(0x1p52-11, 0x1p52-1, 0), 1, api.StageFilter},             // D is 10 steps, A ⊗ S less
		{row(0x1p52-10, 0x1p52, 0), 1, api.StageHeads},                // D is 10 steps, and A ⊗ S too: that is not enough
		{row(0x1p52-8, 0x1p52-4, 0x1p-140), 1, api.StageHeads},        // h is 4 steps, and B ⊗ S too
		{row(0x1p52-6, 0x1p52-2, 0x1p-140), 1, api.StageTails},        // h is 4 steps, B ⊗ S more
		{below((44 + 10*0x1p-47) * 0x1p-104), -1, api.StageExpansion}, // h is 0, e by single operations (44 + 8 * 2^-47) 2^-102, and E (44 + 9 * 2^-47) 2^-102
		{below((44 + 11*0x1p-47) * 0x1p-104), -1, api.StageTails},     // e is (44 + 12 * 2^-47) 2^-102
	} {
		if v, e := sign(x.f); v != (api.Verdict{Sign: x.sign, Stage: x.stage}) || e != api.OK {
			t.Errorf("P1103 to P1106: row %d: %v, error %d; want stage %d", i, v, e, x.stage)
		}
	}
}

func TestWhatIsNoPointIsRefused(t *testing.T) {
	bad := []int{api.Inf, api.Inf | minus0, api.NaN, api.Inf + 1, -1, math.MaxInt, api.NaN | minus0}
	for _, f := range []four{{}, {at(1, 2), at(3, 4), at(5, 7), at(6, 6)}, {at(0x1p1000, 1), at(0x1p-1074, 2), at(top, -top), at(1, 0)}, {at(1, 1), at(2, 2), at(3, 3), at(4, 4)}} {
		for i := range 8 {
			for k := range 8 {
				for _, b := range bad {
					c := coordinates(f)
					c[i], c[k] = b, b
					if v, e := sign(fromCoordinates(c)); v != (api.Verdict{}) || e != api.ErrFinite {
						t.Errorf("P1102: Sign(%x): %v, error %d", c, v, e)
					}
					if n, e := exactOf(fromCoordinates(c)); !same(n, api.Num{}) || e != api.ErrFinite {
						t.Errorf("P1101: Exact(%x): %v, error %d", c, n, e)
					}
				}
			}
		}
	}
}

func TestAnswersAreNewMemory(t *testing.T) {
	for _, f := range samples(7) {
		n, _ := exactOf(f)
		kept := slices.Clone(n.Mag)
		again, _ := exactOf(f)
		clear(again.Mag[:cap(again.Mag)])
		if !slices.Equal(n.Mag, kept) {
			t.Fatalf("P1101: Exact(%x): two answers share their memory", f)
		}
	}
}

func TestAnswersHangOnArgumentsAlone(t *testing.T) {
	l := samples(8)
	first := make([]api.Verdict, len(l))
	for i, f := range l {
		first[i], _ = sign(f)
	}
	var all sync.WaitGroup
	for range 4 {
		all.Go(func() {
			for i := range l {
				k := len(l) - 1 - i
				if v, e := sign(l[k]); v != first[k] || e != api.OK {
					t.Errorf("P1102: Sign(%x): %v, then %v", l[k], first[k], v)
				}
			}
		})
	}
	all.Wait()
}
