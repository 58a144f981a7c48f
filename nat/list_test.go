package nat

import (
	"math"
	"math/big"
	"slices"
	"testing"

	"plumb/api"
)

func TestValid(t *testing.T) {
	for _, n := range append(samples(200, 30), greatest(), slices.Repeat([]int{1}, api.MaxDigits)) {
		if !Valid(n) {
			t.Errorf("P201: Valid(%v) is false", head(n))
		}
	}
	for _, n := range invalid() {
		if Valid(n) {
			t.Errorf("P201: Valid(%v), %d digits, is true", head(n), len(n))
		}
	}
}

func TestOfAndInt(t *testing.T) {
	var state uint64
	values := []int{0, 1, mask, mask + 1, 1<<60 - 1, 1 << 60, math.MaxInt - 1, math.MaxInt}
	for range 500 {
		values = append(values, int(next(&state)>>1)>>(next(&state)%63))
	}
	for _, v := range values {
		n, e := Of(v)
		check(t, "P203: Of", n, e, big.NewInt(int64(v)))
		if back, ok := Int(n); back != v || !ok {
			t.Errorf("P203: Int(Of(%d)) = %d, %v", v, back, ok)
		}
	}
	for _, v := range []int{-1, -mask, math.MinInt} {
		n, e := Of(v)
		refused(t, "P203: Of below 0", n, e, api.ErrArg)
	}
	for _, n := range append(samples(300, 5), greatest()) {
		v, ok := Int(n)
		x := wide(n)
		if ok != x.IsInt64() || ok && int64(v) != x.Int64() || !ok && v != 0 {
			t.Errorf("P203: Int(%v) = %d, %v", head(n), v, ok)
		}
	}
}

func TestBits(t *testing.T) {
	for _, n := range append(samples(200, 20), greatest(), []int{0, 6}) {
		x := wide(n)
		if Bits(n) != x.BitLen() {
			t.Errorf("P204: Bits(%v) = %d, want %d", head(n), Bits(n), x.BitLen())
		}
		low := -1
		if x.Sign() > 0 {
			low = int(x.TrailingZeroBits())
		}
		if Low(n) != low {
			t.Errorf("P204: Low(%v) = %d, want %d", head(n), Low(n), low)
		}
		for i := range x.BitLen() + 70 {
			if Bit(n, i) != (x.Bit(i) == 1) {
				t.Errorf("P204: Bit(%v, %d) = %v", head(n), i, Bit(n, i))
			}
		}
		for _, i := range []int{-1, -30, math.MinInt, maxBits, math.MaxInt, math.MaxInt - 1} {
			if Bit(n, i) {
				t.Errorf("P204: Bit(%v, %d) is set", head(n), i)
			}
		}
	}
	if Bits(greatest()) != 60000 || !Bit(greatest(), 59999) {
		t.Errorf("P204: the greatest number has %d bits", Bits(greatest()))
	}
}
