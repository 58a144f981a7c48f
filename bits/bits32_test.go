package bits

import (
	"math"
	"testing"

	"plumb/api"
)

func TestClass32(t *testing.T) {
	for _, x := range []struct{ b, class int }{
		{0, api.IsZero}, {1, api.IsSubnormal}, {1<<23 - 1, api.IsSubnormal}, {1 << 23, api.IsNormal}, {of32(1), api.IsNormal},
		{api.Inf32 - 1, api.IsNormal}, {api.Inf32, api.IsInfinite}, {api.Inf32 + 1, api.IsNaN}, {api.NaN32, api.IsNaN}, {math.MaxInt32, api.IsNaN},
	} {
		if Class32(x.b) != x.class || Class32(x.b|1<<31) != x.class {
			t.Errorf("P102, P103: class of %#x: %d, with a sign %d, want %d", x.b, Class32(x.b), Class32(x.b|1<<31), x.class)
		}
	}
	for _, b := range samples32() {
		f := float64(math.Float32frombits(uint32(b)))
		want := api.IsNormal
		switch {
		case f == 0:
			want = api.IsZero
		case math.IsNaN(f):
			want = api.IsNaN
		case math.IsInf(f, 0):
			want = api.IsInfinite
		case math.Abs(f) < 0x1p-126:
			want = api.IsSubnormal
		}
		if Class32(b) != want {
			t.Errorf("P102, P103: Class32(%#x) = %d, want %d", b, Class32(b), want)
		}
	}
}

func TestParts32(t *testing.T) {
	for _, x := range []struct {
		b   int
		neg bool
		mag int
		exp int
		ok  bool
	}{
		{0, false, 0, -149, true}, {1 << 31, true, 0, -149, true}, {1, false, 1, -149, true}, {1<<31 + 1, true, 1, -149, true},
		{1<<23 - 1, false, 1<<23 - 1, -149, true}, {1 << 23, false, 1 << 23, -149, true}, {2 << 23, false, 1 << 23, -148, true},
		{of32(1), false, 1 << 23, -23, true}, {of32(-1.5), true, 3 << 22, -23, true}, {api.Inf32 - 1, false, 1<<24 - 1, 104, true},
		{api.Inf32, false, 0, 0, false}, {api.Inf32 | 1<<31, false, 0, 0, false}, {api.NaN32, false, 0, 0, false}, {math.MaxUint32, false, 0, 0, false},
	} {
		neg, mag, exp, ok := Parts32(x.b)
		if neg != x.neg || mag != x.mag || exp != x.exp || ok != x.ok {
			t.Errorf("P104: Parts32(%#x) = %v, %d, %d, %v", x.b, neg, mag, exp, ok)
		}
	}
	for _, b := range samples32() {
		neg, mag, exp, ok := Parts32(b)
		f := float64(math.Float32frombits(uint32(b)))
		if ok == (math.IsNaN(f) || math.IsInf(f, 0)) || !ok && (neg || mag != 0 || exp != 0) {
			t.Errorf("P104: Parts32(%#x) = %v, %d, %d, %v", b, neg, mag, exp, ok)
		}
		if !ok {
			continue
		}
		if got, _ := product(neg, mag, exp).Float64(); got != f || math.Signbit(got) != neg || mag >= 1<<24 || exp > -149 && mag < 1<<23 {
			t.Errorf("P104: Parts32(%#x) = %v, %d, %d", b, neg, mag, exp)
		}
	}
}

func TestNext32AndPrev32(t *testing.T) {
	const minus = 1 << 31
	for _, x := range [][3]int{
		{0, 1, minus + 1}, {minus, 1, minus + 1}, {1, 2, 0}, {minus + 1, minus, minus + 2}, {of32(1), of32(1) + 1, of32(1) - 1}, {of32(-1), of32(-1) - 1, of32(-1) + 1},
		{api.Inf32 - 1, api.Inf32, api.Inf32 - 2}, {api.Inf32, api.Inf32, api.Inf32 - 1}, {api.Inf32 | minus, (api.Inf32 - 1) | minus, api.Inf32 | minus},
		{(api.Inf32 - 1) | minus, (api.Inf32 - 2) | minus, api.Inf32 | minus}, {api.Inf32 + 1, api.NaN32, api.NaN32}, {math.MaxUint32, api.NaN32, api.NaN32},
	} {
		if Next32(x[0]) != x[1] || Prev32(x[0]) != x[2] {
			t.Errorf("P106: %#x: Next32 %#x, Prev32 %#x", x[0], Next32(x[0]), Prev32(x[0]))
		}
	}
	for _, b := range samples32() {
		f := math.Float32frombits(uint32(b))
		up, down := of32(math.Nextafter32(f, float32(math.Inf(1)))), of32(math.Nextafter32(f, float32(math.Inf(-1))))
		if isNaN32(b) {
			up, down = api.NaN32, api.NaN32
		}
		if Next32(b) != up || Prev32(b) != down {
			t.Errorf("P106: %#x: Next32 %#x, want %#x, Prev32 %#x, want %#x", b, Next32(b), up, Prev32(b), down)
		}
	}
}

func TestFloat32AndOf32(t *testing.T) {
	if Float32(of32(0.1)) != 0.1 || !math.Signbit(float64(Float32(1<<31))) || Float32(1<<31) != 0 || !math.IsInf(float64(Float32(api.Inf32)), 1) {
		t.Error("P110: Float32")
	}
	if Of32(-0.1) != of32(-0.1) || Of32(float32(math.Copysign(0, -1))) != 1<<31 || Of32(float32(math.Inf(-1))) != api.Inf32|1<<31 || Of32(float32(math.NaN())) != api.NaN32 {
		t.Error("P110: Of32")
	}
	for _, b := range samples32() {
		want := b
		if isNaN32(b) {
			want = api.NaN32
		}
		if got := Of32(Float32(b)); got != want || Of32(math.Float32frombits(uint32(b))) != want {
			t.Errorf("P110: Of32(Float32(%#x)) = %#x", b, got)
		}
	}
}

func TestIntsThatAreNoPatternsOf32Bits(t *testing.T) {
	for _, b := range strangers() {
		neg, mag, exp, ok := Parts32(b)
		if Class32(b) != api.IsNaN || neg || mag != 0 || exp != 0 || ok {
			t.Errorf("P102: %#x: class %d, parts %v %d %d %v", b, Class32(b), neg, mag, exp, ok)
		}
		f := Float32(b)
		if Next32(b) != api.NaN32 || Prev32(b) != api.NaN32 || f == f || Of32(f) != api.NaN32 {
			t.Errorf("P102, P106, P110: %#x: Next32 %#x, Prev32 %#x, Float32 %v", b, Next32(b), Prev32(b), f)
		}
	}
}
