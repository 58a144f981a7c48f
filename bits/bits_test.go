package bits

import (
	"math"
	"testing"

	"plumb/api"
)

const neg0 = math.MinInt

func TestClassesAreNumberedAsInApi(t *testing.T) {
	own := [5]int{zero, subnormal, normal, infinite, none}
	if own != [5]int{api.IsZero, api.IsSubnormal, api.IsNormal, api.IsInfinite, api.IsNaN} {
		t.Errorf("P101: %v", own)
	}
}

func TestClass(t *testing.T) {
	for _, x := range []struct{ b, class int }{
		{0, api.IsZero}, {1, api.IsSubnormal}, {1<<52 - 1, api.IsSubnormal}, {1 << 52, api.IsNormal}, {of(1), api.IsNormal},
		{api.Inf - 1, api.IsNormal}, {api.Inf, api.IsInfinite}, {api.Inf + 1, api.IsNaN}, {api.NaN, api.IsNaN}, {math.MaxInt, api.IsNaN},
	} {
		if Class(x.b) != x.class || Class(x.b|neg0) != x.class {
			t.Errorf("P101, P103: class of %#x: %d, with a sign %d, want %d", x.b, Class(x.b), Class(x.b|neg0), x.class)
		}
	}
	for _, b := range samples() {
		f := math.Float64frombits(uint64(b))
		want := api.IsNormal
		switch {
		case f == 0:
			want = api.IsZero
		case math.IsNaN(f):
			want = api.IsNaN
		case math.IsInf(f, 0):
			want = api.IsInfinite
		case math.Abs(f) < 0x1p-1022:
			want = api.IsSubnormal
		}
		if Class(b) != want {
			t.Errorf("P101, P103: Class(%#x) = %d, want %d", b, Class(b), want)
		}
	}
}

func TestParts(t *testing.T) {
	for _, x := range []struct {
		b   int
		neg bool
		mag int
		exp int
		ok  bool
	}{
		{0, false, 0, -1074, true}, {neg0, true, 0, -1074, true}, {1, false, 1, -1074, true}, {neg0 + 1, true, 1, -1074, true},
		{1<<52 - 1, false, 1<<52 - 1, -1074, true}, {1 << 52, false, 1 << 52, -1074, true}, {2 << 52, false, 1 << 52, -1073, true},
		{of(1), false, 1 << 52, -52, true}, {of(-1.5), true, 3 << 51, -52, true}, {api.Inf - 1, false, 1<<53 - 1, 971, true},
		{api.Inf, false, 0, 0, false}, {api.Inf | neg0, false, 0, 0, false}, {api.NaN, false, 0, 0, false}, {-1, false, 0, 0, false},
	} {
		neg, mag, exp, ok := Parts(x.b)
		if neg != x.neg || mag != x.mag || exp != x.exp || ok != x.ok {
			t.Errorf("P104: Parts(%#x) = %v, %d, %d, %v", x.b, neg, mag, exp, ok)
		}
	}
	for _, b := range samples() {
		neg, mag, exp, ok := Parts(b)
		f := math.Float64frombits(uint64(b))
		if ok == (math.IsNaN(f) || math.IsInf(f, 0)) {
			t.Errorf("P104: Parts(%#x) finite: %v", b, ok)
		}
		if !ok {
			if neg || mag != 0 || exp != 0 {
				t.Errorf("P104: Parts(%#x) = %v, %d, %d beside false", b, neg, mag, exp)
			}
			continue
		}
		if got, _ := product(neg, mag, exp).Float64(); int(math.Float64bits(got)) != b {
			t.Errorf("P104: Parts(%#x) = %v, %d, %d", b, neg, mag, exp)
		}
		if exp > -1074 && mag < 1<<52 || mag >= 1<<53 {
			t.Errorf("P104: Parts(%#x): %d is no whole number of the table", b, mag)
		}
	}
}

func TestNext(t *testing.T) {
	for _, x := range [][2]int{
		{0, 1}, {neg0, 1}, {1, 2}, {1<<52 - 1, 1 << 52}, {api.Inf - 1, api.Inf}, {api.Inf, api.Inf}, {neg0 + 1, neg0}, {neg0 + 2, neg0 + 1},
		{api.Inf | neg0, of(-math.MaxFloat64)}, {of(1), of(1) + 1}, {of(-1), of(-1) - 1}, {api.NaN, api.NaN}, {api.Inf + 1, api.NaN}, {-1, api.NaN},
	} {
		if got := Next(x[0]); got != x[1] {
			t.Errorf("P106: Next(%#x) = %#x, want %#x", x[0], got, x[1])
		}
	}
	for _, b := range samples() {
		f := math.Float64frombits(uint64(b))
		up, down := of(math.Nextafter(f, math.Inf(1))), of(math.Nextafter(f, math.Inf(-1)))
		if isNaN(b) {
			up, down = api.NaN, api.NaN
		}
		if Next(b) != up || Prev(b) != down {
			t.Errorf("P106: %#x: Next %#x, want %#x, Prev %#x, want %#x", b, Next(b), up, Prev(b), down)
		}
	}
}

func TestPrev(t *testing.T) {
	for _, x := range [][2]int{
		{0, neg0 + 1}, {neg0, neg0 + 1}, {1, 0}, {of(1), of(1) - 1}, {api.Inf, api.Inf - 1}, {api.Inf | neg0, api.Inf | neg0},
		{of(-math.MaxFloat64), api.Inf | neg0}, {neg0 + 1, neg0 + 2}, {-1, api.NaN}, {api.Inf + 1, api.NaN},
	} {
		if got := Prev(x[0]); got != x[1] {
			t.Errorf("P106: Prev(%#x) = %#x, want %#x", x[0], got, x[1])
		}
	}
}

func TestUlp(t *testing.T) {
	for _, x := range [][2]int{
		{0, 1}, {neg0, 1}, {1, 1}, {1<<52 - 1, 1}, {1 << 52, 1}, {2 << 52, 2}, {of(1), of(0x1p-52)}, {of(-2), of(0x1p-51)}, {of(1) - 1, of(0x1p-53)},
		{api.Inf - 1, of(0x1p971)}, {api.Inf, api.Inf}, {api.Inf | neg0, api.Inf}, {api.Inf + 1, api.NaN}, {-1, api.NaN},
	} {
		if got := Ulp(x[0]); got != x[1] {
			t.Errorf("P107: Ulp(%#x) = %#x, want %#x", x[0], got, x[1])
		}
	}
	for _, b := range samples() {
		a := b &^ neg0
		if a >= api.Inf-1 {
			continue
		}
		step := math.Float64frombits(uint64(a+1)) - math.Float64frombits(uint64(a))
		if Ulp(b) != of(step) {
			t.Errorf("P107: Ulp(%#x) = %#x, want %#x", b, Ulp(b), of(step))
		}
	}
}

func TestNegAbsCanon(t *testing.T) {
	for _, x := range []struct{ b, neg, abs, canon int }{
		{0, neg0, 0, 0}, {neg0, 0, 0, 0}, {1, neg0 + 1, 1, 1}, {neg0 + 1, 1, 1, neg0 + 1}, {of(-1), of(1), of(1), of(-1)},
		{api.Inf, api.Inf | neg0, api.Inf, api.Inf}, {api.Inf | neg0, api.Inf, api.Inf, api.Inf | neg0},
		{api.NaN, api.NaN, api.NaN, api.NaN}, {-1, api.NaN, api.NaN, api.NaN}, {api.Inf + 1, api.NaN, api.NaN, api.NaN},
	} {
		if Neg(x.b) != x.neg || Abs(x.b) != x.abs || Canon(x.b) != x.canon {
			t.Errorf("P108: %#x: Neg %#x, Abs %#x, Canon %#x", x.b, Neg(x.b), Abs(x.b), Canon(x.b))
		}
	}
	for _, b := range samples() {
		if isNaN(b) {
			if Neg(b) != api.NaN || Abs(b) != api.NaN || Canon(b) != api.NaN {
				t.Errorf("P101, P108: %#x is no number: Neg %#x, Abs %#x, Canon %#x", b, Neg(b), Abs(b), Canon(b))
			}
			continue
		}
		f := math.Float64frombits(uint64(b))
		if Neg(b) != of(-f) || Abs(b) != of(math.Abs(f)) || Canon(b) != of(f+0) {
			t.Errorf("P108: %#x: Neg %#x, Abs %#x, Canon %#x", b, Neg(b), Abs(b), Canon(b))
		}
	}
}

func TestFloatAndOf(t *testing.T) {
	if Float(of(0.1)) != 0.1 || !math.Signbit(Float(neg0)) || Float(neg0) != 0 || !math.IsInf(Float(api.Inf), 1) || !math.IsNaN(Float(-1)) {
		t.Error("P110: Float")
	}
	if Of(-0.1) != of(-0.1) || Of(math.Copysign(0, -1)) != neg0 || Of(math.Inf(-1)) != api.Inf|neg0 || Of(math.NaN()) != api.NaN {
		t.Error("P110: Of")
	}
	for _, b := range samples() {
		want := b
		if isNaN(b) {
			want = api.NaN
		}
		if got := Of(Float(b)); got != want || Of(math.Float64frombits(uint64(b))) != want {
			t.Errorf("P110: Of(Float(%#x)) = %#x", b, got)
		}
	}
}

// answers is what every call tells of one pattern.
func answers(b int) [20]any {
	neg, mag, exp, ok := Parts(b)
	joined, there := Join(neg, mag, exp)
	neg32, mag32, exp32, ok32 := Parts32(b)
	joined32, there32 := Join32(neg32, mag32, exp32)
	return [20]any{
		Class(b), [4]any{neg, mag, exp, ok}, [2]any{joined, there}, Next(b), Prev(b), Ulp(b), Neg(b), Abs(b), Canon(b),
		Less(b, 5), Same(b, 5), Order(b, 5), math.Float64bits(Float(b)),
		Class32(b), [4]any{neg32, mag32, exp32, ok32}, [2]any{joined32, there32}, Next32(b), Prev32(b), math.Float32bits(Float32(b)), Of32(Float32(b)),
	}
}

func TestAnswersHangOnArgumentsAlone(t *testing.T) {
	l := append(append(samples(), samples32()...), strangers()...)
	first := make([][20]any, 0, len(l))
	for _, b := range l {
		first = append(first, answers(b))
	}
	for i := len(l) - 1; i >= 0; i-- {
		if again := answers(l[i]); again != first[i] {
			t.Errorf("P111: %#x: first %v, then %v", l[i], first[i], again)
		}
	}
}
