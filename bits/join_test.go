package bits

import (
	"math"
	"math/big"
	"testing"

	"plumb/api"
)

func TestJoin(t *testing.T) {
	for _, x := range []struct {
		neg      bool
		mag, exp int
		b        int
		ok       bool
	}{
		{false, 1, 0, of(1), true}, {true, 1, 0, of(-1), true}, {false, 3, -1, of(1.5), true},
		{false, 0, 9, 0, true}, {true, 0, 9, neg0, true}, {true, 0, math.MaxInt, neg0, true}, {false, 0, math.MinInt, 0, true},
		{false, 1, -1074, 1, true}, {false, 1, -1075, 0, false}, {false, 2, -1075, 1, true}, {false, 3, -1075, 0, false},
		{false, 1 << 60, -1134, 1, true}, {false, 1 << 60, -1135, 0, false}, {true, 1 << 62, -1136, neg0 + 1, true}, {false, 1 << 62, -1137, 0, false},
		{false, 1<<53 - 1, -1074, 2<<52 - 1, true}, {false, 1<<53 - 1, 971, api.Inf - 1, true}, {false, 1<<53 - 1, 972, 0, false},
		{false, 1<<53 + 1, 0, 0, false}, {false, 1<<53 + 2, 0, of(1<<53 + 2), true}, {false, math.MaxInt, 0, 0, false},
		{false, 1, 1023, of(0x1p1023), true}, {false, 1, 1024, 0, false}, {false, 1 << 62, 961, of(0x1p1023), true}, {false, 1 << 62, 962, 0, false},
		{false, 1, math.MaxInt, 0, false}, {false, 1 << 62, math.MaxInt, 0, false}, {false, 1 << 62, math.MinInt, 0, false}, {false, 1, math.MinInt, 0, false},
		{false, -1, 0, 0, false}, {true, -1, 0, 0, false}, {true, math.MinInt, -63, 0, false}, {true, 1, 1024, 0, false},
	} {
		if b, ok := Join(x.neg, x.mag, x.exp); b != x.b || ok != x.ok {
			t.Errorf("P105: Join(%v, %d, %d) = %#x, %v", x.neg, x.mag, x.exp, b, ok)
		}
	}
}

func TestJoin32(t *testing.T) {
	for _, x := range []struct {
		neg      bool
		mag, exp int
		b        int
		ok       bool
	}{
		{false, 1, 0, of32(1), true}, {true, 1, 0, of32(-1), true}, {true, 0, 9, 1 << 31, true}, {false, 0, math.MaxInt, 0, true}, {true, 0, math.MinInt, 1 << 31, true},
		{false, 1, -149, 1, true}, {false, 1, -150, 0, false}, {true, 1 << 62, -211, 1<<31 + 1, true}, {false, 1 << 62, -212, 0, false},
		{false, 1<<24 - 1, 104, api.Inf32 - 1, true}, {false, 1<<24 - 1, 105, 0, false}, {false, 1<<24 + 1, 0, 0, false}, {false, 1<<24 + 2, 0, of32(1<<24 + 2), true},
		{false, 1, 127, of32(0x1p127), true}, {false, 1, 128, 0, false}, {false, 1 << 62, 65, of32(0x1p127), true}, {false, 1 << 62, 66, 0, false},
		{false, 1, math.MaxInt, 0, false}, {false, 1 << 62, math.MinInt, 0, false}, {true, -1, 0, 0, false}, {false, math.MinInt, 0, 0, false}, {true, 1, 128, 0, false},
	} {
		if b, ok := Join32(x.neg, x.mag, x.exp); b != x.b || ok != x.ok {
			t.Errorf("P105: Join32(%v, %d, %d) = %#x, %v", x.neg, x.mag, x.exp, b, ok)
		}
	}
}

// magnitudes: whole numbers of every length, with few and with many bits.
func magnitudes() []int {
	l := []int{1, 3, 5}
	for k := 1; k < 63; k++ {
		l = append(l, 1<<k, 1<<k-1, 1<<k+1, 1<<k|1<<(k/2))
	}
	return append(l, math.MaxInt, math.MaxInt-1, math.MaxInt&^(1<<10-1), 0x1F_FFFF_FFFF_FFFF<<9, 0xFF_FFFF<<39)
}

func TestJoinTellsJustWhatThereIs(t *testing.T) {
	for _, mag := range magnitudes() {
		for exp := -1150; exp <= 1040; exp++ {
			f, exact := product(false, mag, exp).Float64()
			want, there := 0, exact == big.Exact && !math.IsInf(f, 0)
			if there {
				want = of(f)
			}
			if b, ok := Join(false, mag, exp); ok != there || b != want {
				t.Fatalf("P105: Join(false, %d, %d) = %#x, %v, want %#x, %v", mag, exp, b, ok, want, there)
			}
		}
		for exp := -220; exp <= 140; exp++ {
			f, exact := product(true, mag, exp).Float32()
			want, there := 0, exact == big.Exact && !math.IsInf(float64(f), 0)
			if there {
				want = of32(f)
			}
			if b, ok := Join32(true, mag, exp); ok != there || b != want {
				t.Fatalf("P105: Join32(true, %d, %d) = %#x, %v, want %#x, %v", mag, exp, b, ok, want, there)
			}
		}
	}
}

func TestJoinOfParts(t *testing.T) {
	for _, b := range samples() {
		if neg, mag, exp, ok := Parts(b); ok {
			if c, there := Join(neg, mag, exp); c != b || !there {
				t.Errorf("P104, P105: %#x comes back as %#x, %v", b, c, there)
			}
		}
	}
	for _, b := range samples32() {
		if neg, mag, exp, ok := Parts32(b); ok {
			if c, there := Join32(neg, mag, exp); c != b || !there {
				t.Errorf("P104, P105: %#x of 32 bits comes back as %#x, %v", b, c, there)
			}
		}
	}
}
