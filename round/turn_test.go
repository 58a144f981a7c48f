package round

import (
	"math"
	"math/big"
	"testing"

	"plumb/api"
)

func TestNarrow(t *testing.T) {
	k := wide64()
	l, r := patterns(8), seeded(8)
	for range 500 {
		f := float64(float32Of(int(r.Uint32())))
		l = append(l, of(f), of(f)+1, of(f)-1, of(f)+1<<28, of(f)+1<<28+1, of(f)+1<<28-1, of(f+f*0x1p-24), of(f*0x1p-100), of(math.Ldexp(r.Float64()-0.5, -140-r.IntN(20))))
	}
	for _, f := range []float64{math.MaxFloat32, 0x1p128 - 0x1p103, 0x1p128, 0x1p-149, 0x1p-150, 0x1.8p-149, 1e300} {
		for _, b := range []int{of(f) - 1, of(f), of(f) + 1} {
			l = append(l, b, b|minus0)
		}
	}
	checkOne(t, "P404: Narrow", Narrow, l, k, func(x float64, way int) int {
		switch {
		case math.IsNaN(x):
			return api.NaN32
		case x == 0:
			return wide32().nought(math.Signbit(x))
		}
		return rounded32(exactly(x), way)
	})
}

func TestWiden(t *testing.T) {
	for _, b := range append(patterns32(9), 4, 5, 6, 7) {
		f := wide32().float(b)
		want := of(f)
		if math.IsNaN(f) {
			want = api.NaN
		}
		if got := Widen(b); got != want {
			t.Errorf("P404: Widen(%#x) = %#x, want %#x", b, got, want)
		}
		if back, e := Narrow(Widen(b), api.Down); !math.IsNaN(f) && (back != b || e != api.OK) {
			t.Errorf("P404: Narrow(Widen(%#x)) = %#x, error %d", b, back, e)
		}
	}
}

func TestExamplesOfTurns(t *testing.T) {
	for i, x := range [][3]int{
		{of(0x1p-150), api.Near, 0}, {of(0x1p-150), api.Up, 1}, {of(1e300), api.Near, api.Inf32}, {of(1e300), api.Zero, top32},
		{minus0, api.Up, minus032}, {0, api.Down, 0}, {minusInf, api.Zero, api.Inf32 | minus032}, {of(-0x1p-150), api.Near, minus032}, {of(-0x1p-150), api.Up, minus032}, {of(-0x1p-1074), api.Zero, minus032}, {of(-0x1p-1074), api.Down, minus032 + 1}, {-1, 3, api.NaN32}, {api.Inf + 1, 1, api.NaN32},
	} {
		if got, e := Narrow(x[0], x[1]); got != x[2] || e != api.OK {
			t.Errorf("P404: Narrow, example %d: %#x, error %d; want %#x", i, got, e, x[2])
		}
	}
	if Widen(1) != 0x36A0000000000000 || Widen(minus032) != minus0 || Widen(0) != 0 || Widen(api.Inf32|minus032) != minusInf || Widen(api.NaN32) != api.NaN || Widen(1<<32) != api.NaN || Widen(minus0) != api.NaN {
		t.Error("P404: Widen")
	}
}

// ints are those at the edges of what a binary64 tells, and of ints.
func ints() []int {
	l, r := []int{0, 1, 2, 3, math.MaxInt, math.MaxInt - 1, math.MaxInt - 511, math.MaxInt - 512, math.MaxInt - 1023, math.MaxInt - 1024, math.MinInt, math.MinInt + 1, math.MinInt + 512, math.MinInt + 513, math.MinInt + 1024, math.MinInt + 1025}, seeded(10)
	for k := range 63 {
		l = append(l, 1<<k-1, 1<<k, 1<<k+1, 1<<k+1<<(k/2), 1<<k+r.IntN(1<<k))
		if k > 53 {
			l = append(l, 1<<k+1<<(k-53), 1<<k+1<<(k-53)+1, 1<<k+1<<(k-53)-1, 1<<k+3<<(k-53))
		}
	}
	for _, n := range l[:len(l):len(l)] {
		l = append(l, -n)
	}
	return l
}

func TestFromInt(t *testing.T) {
	for _, n := range ints() {
		for _, way := range allWays() {
			want := 0
			if n != 0 {
				want = rounded64(new(big.Float).SetInt64(int64(n)), way)
			}
			if got, e := FromInt(n, way); got != want || e != api.OK {
				t.Errorf("P405: FromInt(%d, %d) = %#x, error %d; want %#x", n, way, got, e, want)
			}
		}
	}
}

// nearestWhole is a whole number as a way asks for it, by the library.
func nearestWhole(f float64, way int) float64 {
	switch way {
	case api.Down:
		return math.Floor(f)
	case api.Up:
		return math.Ceil(f)
	case api.Zero:
		return math.Trunc(f)
	}
	return math.RoundToEven(f)
}

func TestToInt(t *testing.T) {
	l, r := patterns(11), seeded(11)
	for _, n := range ints() {
		for _, f := range []float64{float64(n), float64(n) + 0.5, float64(n) + 0.25, float64(n) - 0.25, float64(n % 1000), float64(n%1000) + 0.5} {
			l = append(l, of(f), of(f)+1, of(f)-1)
		}
	}
	for range 1000 {
		l = append(l, of(math.Ldexp(r.Float64()-0.5, r.IntN(70)-4)))
	}
	for _, b := range l {
		for _, way := range allWays() {
			f := nearestWhole(float(b), way)
			want, there := 0, -0x1p63 <= f && f < 0x1p63
			if there {
				want = int(f)
			}
			if got, ok, e := ToInt(b, way); got != want || ok != there || e != api.OK {
				t.Errorf("P405: ToInt of %v in way %d: %d, %v, error %d; want %d, %v", float(b), way, got, ok, e, want, there)
			}
		}
	}
}

func TestExamplesOfInts(t *testing.T) {
	for i, x := range []struct {
		f     float64
		way   int
		n     int
		there bool
	}{
		{2.5, api.Near, 2, true}, {3.5, api.Near, 4, true}, {-2.5, api.Near, -2, true}, {-0.5, api.Down, -1, true}, {-0.5, api.Near, 0, true}, {0x1p63, 0, 0, false}, {-0x1p63, 0, math.MinInt, true}, {-0x1p63 - 2048, api.Up, 0, false},
		{0x1p63 - 1024, api.Up, math.MaxInt - 1023, true}, {math.Inf(1), api.Down, 0, false}, {math.Inf(-1), api.Up, 0, false}, {math.NaN(), api.Zero, 0, false}, {math.Copysign(0, -1), api.Down, 0, true}, {0x1p-1074, api.Up, 1, true}, {-0x1p-1074, api.Down, -1, true}, {0x1p1023, api.Zero, 0, false}, {0x1p64, api.Near, 0, false},
	} {
		if got, ok, e := ToInt(of(x.f), x.way); got != x.n || ok != x.there || e != api.OK {
			t.Errorf("P405: example %d: ToInt of %v: %d, %v, error %d", i, x.f, got, ok, e)
		}
	}
	for i, x := range [][3]int{{1<<53 + 1, api.Near, of(0x1p53)}, {1<<53 + 1, api.Up, of(0x1p53 + 2)}, {-1<<53 - 1, api.Up, of(-0x1p53)}, {0, api.Down, 0}, {math.MinInt, api.Near, of(-0x1p63)}, {math.MaxInt, api.Near, of(0x1p63)}, {math.MaxInt, api.Down, of(0x1p63) - 1}} {
		if got, e := FromInt(x[0], x[1]); got != x[2] || e != api.OK {
			t.Errorf("P405: example %d: FromInt(%d, %d) = %#x, error %d", i, x[0], x[1], got, e)
		}
	}
}
