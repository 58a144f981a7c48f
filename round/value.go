package round

import (
	"math"
	mathbits "math/bits"

	"plumb/api"
	"plumb/bits"
)

// headBits is how many of its highest bits a value keeps, at least, where it is cut: enough to tell on which side of the middle of two floats it lies.
const headBits = 62

// value is what is known of a real number that is to be rounded: it is mag 2^exp, or, if it was cut, farther from 0 than that by less than 2^exp.
type value struct {
	neg    bool
	mag    uint
	exp    int
	cut    bool
	signed bool // a nought that it rounds to has its sign
}

// split cuts units of 2^unit, 2^64 - 1 of them at most, out of the value and tells what is left.
func (x value) split(unit int) (units uint, left int) {
	shift := unit - x.exp
	if shift <= 0 {
		return x.mag << -shift, nothing
	}
	units = x.mag >> shift
	rest, middle := x.mag-units<<shift, uint(1)<<(shift-1)
	switch {
	case rest == 0 && !x.cut:
		return units, nothing
	case rest < middle || shift > mathbits.UintSize: // half a unit may be beyond the bits of a uint
		return units, less
	case rest == middle && !x.cut:
		return units, half
	}
	return units, more
}

// units rounds to a multiple of 2^unit, and tells how many units it is, and whether it was another number.
func (x value) units(unit int, w way) (uint, bool) {
	units, left := x.split(unit)
	if w.raise(x.neg, units&1 == 1, left) {
		units++
	}
	return units, left != nothing
}

// float rounds to a whole number of so many bits times a power of 2 that is not less than 2^least, as if there were no upper end, and tells whether it was another number.
func (x value) float(size, least int, w way) (neg bool, mag, exp int, other bool) {
	exp = max(x.exp+mathbits.Len(x.mag)-size, least)
	units, other := x.units(exp, w)
	return x.neg && (units > 0 || x.signed), int(units), exp, other
}

// binary64 rounds to a binary64, and tells whether it was another number.
func (x value) binary64(w way) (int, bool) {
	neg, mag, exp, other := x.float(53, -1074, w)
	b, finite := bits.Join(neg, mag, exp)
	if !finite {
		return w.beyond(neg, api.Inf, math.MinInt), true
	}
	return b, other
}

// binary32 rounds to a binary32, and tells whether it was another number.
func (x value) binary32(w way) (int, bool) {
	neg, mag, exp, other := x.float(24, -149, w)
	b, finite := bits.Join32(neg, mag, exp)
	if !finite {
		return w.beyond(neg, api.Inf32, 1<<31), true
	}
	return b, other
}

// whole rounds to an int; false: there is none.
func (x value) whole(w way) (int, bool) {
	if x.exp+mathbits.Len(x.mag) > mathbits.UintSize {
		return 0, false
	}
	units, _ := x.units(0, w)
	if x.neg {
		units = -units
	}
	n := int(units)
	if n != 0 && x.neg != (n < 0) { // it wrapped round
		return 0, false
	}
	return n, true
}
