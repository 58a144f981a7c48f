package bits

import mathbits "math/bits"

// layout says how a kind of float lies in its pattern, so that both kinds go by one reckoning.
type layout struct {
	fraction int // bits of the fraction
	top      int // the exponent field of what is not finite
	least    int // the exponent of subnormals: what the last bit of the least one is worth
}

var (
	binary64 = layout{fraction: 52, top: 2047, least: -1074}
	binary32 = layout{fraction: 23, top: 255, least: -149}
)

// split tells the exponent field and the fraction.
func (l layout) split(b int) (field, fraction int) {
	return b >> l.fraction & l.top, b & (1<<l.fraction - 1)
}

// class tells what the pattern is, whatever its sign.
func (l layout) class(b int) int {
	field, fraction := l.split(b)
	switch {
	case field == l.top && fraction != 0:
		return none
	case field == l.top:
		return infinite
	case field != 0:
		return normal
	case fraction != 0:
		return subnormal
	}
	return zero
}

// parts tells the whole number and the exponent of a finite pattern; false: it is not finite.
func (l layout) parts(b int) (mag, exp int, ok bool) {
	field, fraction := l.split(b)
	switch field {
	case l.top:
		return 0, 0, false
	case 0:
		return fraction, l.least, true
	}
	return 1<<l.fraction + fraction, l.least + field - 1, true
}

// join tells the pattern, without a sign, of just mag times 2^exp; false: there is none.
func (l layout) join(mag, exp int) (int, bool) {
	if mag == 0 {
		return 0, true
	}
	if mag < 0 || l.far(exp) { // looked for first, as the sum of the exponents below would wrap round
		return 0, false
	}
	zeros := mathbits.TrailingZeros64(uint64(mag))
	odd, exp := mag>>zeros, exp+zeros
	spare := l.fraction + 1 - mathbits.Len64(uint64(odd))
	if spare < 0 || exp < l.least {
		return 0, false
	}
	shift := min(spare, exp-l.least)
	above := exp - shift - l.least
	if above > l.top-2 {
		return 0, false
	}
	// The highest bit of a normal number carries into the field and raises it by one, so that one sum serves subnormals too.
	return above<<l.fraction + odd<<shift, true
}

// far tells that every whole number above 0 times 2^exp is beyond the finite ones.
func (l layout) far(exp int) bool { return exp > l.least+l.top+l.fraction }
