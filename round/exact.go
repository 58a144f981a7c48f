package round

import (
	"plumb/api"
	"plumb/digits"
	"plumb/dyadic"
	"plumb/nat"
)

// result reckons out, from exact numbers, what is to be rounded, or tells why there is nothing.
type result func(l []api.Num) (value, api.Errno)

// scaled is a 2^k as a whole number, and whether something was cut off for that.
func scaled(a []int, k int) ([]int, bool) {
	if k >= 0 {
		return digits.Raise(a, k), false
	}
	return digits.Lower(a, -k), digits.Lowest(a) < -k
}

// valueOf is the value of an exact number.
func valueOf(x api.Num) value {
	k := min(headBits-digits.Bits(x.Mag), 0)
	mag, cut := scaled(x.Mag, k)
	return value{neg: x.Neg, mag: uint(digits.Small(mag)), exp: x.Exp - k, cut: cut}
}

// itself is the result of one number that is rounded as it is.
func itself(l []api.Num) (value, api.Errno) { return valueOf(l[0]), api.OK }

// product is the result of two that are multiplied.
func product(l []api.Num) (value, api.Errno) {
	x, e := dyadic.Mul(l[0], l[1])
	return valueOf(x), e
}

// quotient is the result of two that are divided. As what is divided is brought to headBits bits more than the other one has, the quotient has so many, or one more.
func quotient(l []api.Num) (value, api.Errno) {
	a, b := l[0], l[1]
	if len(b.Mag) == 0 {
		return value{}, api.ErrDivide
	}
	k := headBits + digits.Bits(b.Mag) - digits.Bits(a.Mag)
	mag, cut := scaled(a.Mag, k)
	q, left := digits.Divide(mag, b.Mag)
	return value{neg: a.Neg != b.Neg, mag: uint(digits.Small(q)), exp: a.Exp - b.Exp - k, cut: cut || len(left) > 0}, api.OK
}

// root is the result of one whose square root is taken. As it is brought to twice headBits bits, or one less, so that its exponent can be halved, the root has headBits.
func root(l []api.Num) (value, api.Errno) {
	x := l[0]
	if x.Neg {
		return value{}, api.ErrNegative
	}
	k := 2*headBits - digits.Bits(x.Mag)
	k -= (x.Exp - k) & 1
	mag, cut := scaled(x.Mag, k)
	s, left, _ := nat.Root(mag)
	return value{mag: uint(digits.Small(s)), exp: (x.Exp - k) / 2, cut: cut || len(left) > 0}, api.OK
}

// total is the result of a sum that was added up. One that is 0 is -0 by Down, unless it is of noughts that have no sign.
func total(x api.Num, number int, noughts bool) value {
	if len(x.Mag) == 0 && number == api.Down && !noughts {
		return value{neg: true, signed: true}
	}
	return valueOf(x)
}
