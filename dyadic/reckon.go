package dyadic

import (
	"cmp"
	"math"

	"plumb/api"
	"plumb/digits"
)

// told reckons a number out, and tells ErrLong where that gave up. Any other panic would be a fault of the program, and goes on.
func told(reckon func() api.Num) (x api.Num, e api.Errno) {
	defer func() {
		switch gaveUp := recover(); gaveUp {
		case nil:
		case api.ErrLong:
			e = api.ErrLong
		default:
			panic(gaveUp)
		}
	}()
	return reckon(), api.OK
}

// settle is the valid form, in new memory, of a number that may be even, of any length and exponent, with zeros on top; it gives up where there is none.
func settle(x api.Num) api.Num {
	mag := digits.Trim(x.Mag)
	if len(mag) == 0 {
		return api.Num{}
	}
	zeros := digits.Lowest(mag)
	if x.Exp < -api.MaxExp-zeros || x.Exp > api.MaxExp-zeros { // ahead of the sum of the two, which could wrap round
		panic(api.ErrLong)
	}
	if digits.Bits(mag)-zeros > digits.Size*api.MaxDigits {
		panic(api.ErrLong)
	}
	return api.Num{Neg: x.Neg, Mag: digits.Lower(mag, zeros), Exp: x.Exp + zeros}
}

// valid tells whether all are.
func valid(l ...api.Num) bool {
	for _, x := range l {
		if !Valid(x) {
			return false
		}
	}
	return true
}

// total is the sum of all. They may be longer than a valid number, and so may be what stands between, as all go onto columns that reach from the lowest bit to the highest.
func total(l ...api.Num) api.Num {
	low, high := reach(l)
	if low > high {
		return api.Num{}
	}
	columns := make([]int, (high-low)/digits.Size+3) // a digit that is begun, and two for the carries of 2^32 numbers
	for _, x := range l {
		if len(x.Mag) > 0 {
			digits.Pile(columns, x.Mag, x.Exp-low, sign(x))
		}
	}
	neg := digits.Carry(columns)
	return settle(api.Num{Neg: neg, Mag: columns, Exp: low})
}

// reach tells the exponents between which the bits of all numbers lie; low is above high, if all are 0.
func reach(l []api.Num) (low, high int) {
	low, high = math.MaxInt, math.MinInt
	for _, x := range l {
		if len(x.Mag) > 0 {
			low, high = min(low, x.Exp), max(high, top(x))
		}
	}
	return low, high
}

// top is the least exponent of which 2^top is greater, signs aside.
func top(x api.Num) int { return x.Exp + digits.Bits(x.Mag) }

// product is the product, which may be longer than a valid number.
func product(a, b api.Num) api.Num {
	return api.Num{Neg: a.Neg != b.Neg, Mag: digits.Product(a.Mag, b.Mag), Exp: a.Exp + b.Exp}
}

// products are those of each two in the same place.
func products(a, b []api.Num) []api.Num {
	l := make([]api.Num, len(a))
	for i := range l {
		l[i] = product(a[i], b[i])
	}
	return l
}

// sign is -1, 0, 1.
func sign(x api.Num) int {
	switch {
	case len(x.Mag) == 0:
		return 0
	case x.Neg:
		return -1
	}
	return 1
}

// compare is the order of two.
func compare(a, b api.Num) int {
	if sign(a) != sign(b) {
		return cmp.Compare(sign(a), sign(b))
	}
	return sign(a) * compareSizes(a, b)
}

// compareSizes is the order of two, signs aside. Where both reach as high, neither gets longer than the other one when they are brought to one exponent.
func compareSizes(a, b api.Num) int {
	if top(a) != top(b) {
		return cmp.Compare(top(a), top(b))
	}
	low := min(a.Exp, b.Exp)
	return digits.Compare(digits.Raise(a.Mag, a.Exp-low), digits.Raise(b.Mag, b.Exp-low))
}
