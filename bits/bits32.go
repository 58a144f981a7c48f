package bits

import (
	"math"

	"plumb/api"
)

// sign32 is the sign bit of a binary32, and the pattern of its -0.
const sign32 = 1 << 31

// fits32 tells whether an int is a pattern of 32 bits at all.
func fits32(b int) bool { return 0 <= b && b <= math.MaxUint32 }

// Class32 tells what a binary32 is.
func Class32(b int) int {
	if !fits32(b) {
		return none
	}
	return binary32.class(b)
}

// Parts32 is Parts of a binary32.
func Parts32(b int) (neg bool, mag, exp int, ok bool) {
	if !fits32(b) {
		return false, 0, 0, false
	}
	mag, exp, ok = binary32.parts(b)
	return ok && b >= sign32, mag, exp, ok
}

// Join32 is Join of a binary32.
func Join32(neg bool, mag, exp int) (int, bool) {
	b, ok := binary32.join(mag, exp)
	if ok && neg {
		b |= sign32
	}
	return b, ok
}

// Next32 is Next of a binary32.
func Next32(b int) int {
	switch {
	case Class32(b) == none:
		return api.NaN32
	case b == api.Inf32:
		return b
	case b == sign32: // a step within the patterns of its sign would go down
		return 1
	case b > sign32: // patterns below 0 grow with how far they are from 0
		return b - 1
	}
	return b + 1
}

// Prev32 is Prev of a binary32.
func Prev32(b int) int { return neg32(Next32(neg32(b))) }

// neg32 is Neg of a binary32.
func neg32(b int) int {
	if Class32(b) == none {
		return api.NaN32
	}
	return b ^ sign32
}

// Float32 tells the float with a pattern of 32 bits.
func Float32(b int) float32 {
	if !fits32(b) {
		return math.Float32frombits(api.NaN32)
	}
	return math.Float32frombits(uint32(b))
}

// Of32 tells a binary32's pattern.
func Of32(f float32) int {
	if f != f {
		return api.NaN32
	}
	return int(math.Float32bits(f))
}
