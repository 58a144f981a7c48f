package nat

import (
	"math/big"
	"slices"
	"testing"

	"plumb/api"
)

// next is one step of splitmix64: many numbers, the same in each run.
func next(state *uint64) uint64 {
	*state += 0x9E3779B97F4A7C15
	z := *state
	z = (z ^ z>>30) * 0xBF58476D1CE4E5B9
	z = (z ^ z>>27) * 0x94D049BB133111EB
	return z ^ z>>31
}

// random is a number of so many digits: mixed ones, or runs of nothing but zeros and ones, where carries go far.
func random(state *uint64, length int) []int {
	n := make([]int, length)
	kind := next(state) % 3
	for i := range n {
		switch d := int(next(state)); {
		case kind == 0 || d>>40&7 == 0:
			n[i] = d & mask
		case d>>50&1 == kindBit(kind):
			n[i] = mask
		}
	}
	if length > 0 && n[length-1] == 0 {
		n[length-1] = 1 + int(next(state)%mask)
	}
	return n
}

func kindBit(kind uint64) int { return int(kind & 1) }

// samples: small numbers, the edges of digits, and many of up to so many digits.
func samples(count, longest int) [][]int {
	l := [][]int{nil, {}, {1}, {2}, {3}, {mask - 1}, {mask}, {0, 1}, {1, 1}, {mask, mask}, {0, 1 << 29}, {0, 0, 1}, {mask, 0, mask}, {0, 0, 7}, {mask, mask, 7}, {0, 0, 8}, {mask, mask, mask}}
	var state uint64
	for range count {
		l = append(l, random(&state, int(next(&state)%uint64(longest+1))))
	}
	return l
}

// greatest is the greatest number: 2^60000 - 1.
func greatest() []int { return slices.Repeat([]int{mask}, api.MaxDigits) }

// invalid are lists of no number.
func invalid() [][]int {
	return [][]int{{0}, {-1}, {1 << 30}, {5, 0}, {0, 0}, {1, -1, 1}, {1, 1 << 30, 1}, {1, 1, -1 << 63}, {1<<63 - 1}, make([]int, api.MaxDigits+1), slices.Repeat([]int{1}, api.MaxDigits+1)}
}

// wide is the number as the library has it.
func wide(n []int) *big.Int {
	x := new(big.Int)
	for i := len(n) - 1; i >= 0; i-- {
		x.Lsh(x, digitBits).Or(x, big.NewInt(int64(n[i])))
	}
	return x
}

// narrow is the list of the library's number.
func narrow(x *big.Int) []int {
	var n []int
	for x = new(big.Int).Set(x); x.Sign() > 0; x.Rsh(x, digitBits) {
		n = append(n, int(new(big.Int).And(x, big.NewInt(mask)).Int64()))
	}
	return n
}

// check holds an answer to the library's: the list, or ErrLong, if there is none.
func check(t *testing.T, what string, got []int, e api.Errno, want *big.Int) {
	t.Helper()
	if want.BitLen() > maxBits {
		if e != api.ErrLong || len(got) != 0 {
			t.Errorf("%s: %d digits, error %d beside a number of %d bits", what, len(got), e, want.BitLen())
		}
		return
	}
	if e != api.OK || !slices.Equal(got, narrow(want)) {
		t.Errorf("%s: %v, %d; want %v", what, head(got), e, head(narrow(want)))
	}
}

// refused holds an answer to an error with nothing beside it.
func refused(t *testing.T, what string, got []int, e, want api.Errno) {
	t.Helper()
	if e != want || len(got) != 0 {
		t.Errorf("%s: %v, error %d, want error %d and nothing", what, head(got), e, want)
	}
}

func head(n []int) []int { return n[:min(len(n), 6)] }
