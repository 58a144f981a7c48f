package digits

import "slices"

// Divide is the quotient of a by b, which is not 0, and what it leaves: in the order of the pencil, digit by digit from the top.
func Divide(a, b []int) (q, r []int) {
	if Compare(a, b) < 0 {
		return nil, slices.Clone(a)
	}
	if len(b) == 1 {
		q = slices.Clone(a)
		left := Shorten(q, b[0])
		return Trim(q), Of(left)
	}
	// With the highest bit of b set a digit that is guessed from the top ones is hardly ever too great, and by two at most.
	shift := Size - width(b[len(b)-1])
	rest, by := make([]int, len(a)+1), Raise(b, shift)
	copy(rest, Raise(a, shift))
	q = make([]int, len(a)-len(b)+1)
	for i := range len(q) {
		at := len(q) - 1 - i
		q[at] = takeOut(rest[at:at+len(by)+1], by)
	}
	return Trim(q), Lower(Trim(rest), shift)
}

// Shorten divides n by a digit in its place, and tells what is left.
func Shorten(n []int, digit int) int {
	left := 0
	for i := range len(n) {
		at := len(n) - 1 - i
		left = left<<Size | n[at]
		n[at] = left / digit
		left %= digit
	}
	return left
}

// takeOut takes by out of rest as often as it goes, less than 2^30 times, and tells how often.
func takeOut(rest, by []int) int {
	times := guess(rest, by)
	top := len(by)
	borrow := 0
	for i := range top {
		borrow += rest[i] - times*by[i]
		rest[i] = borrow & Mask
		borrow >>= Size
	}
	rest[top] += borrow
	if rest[top] >= 0 {
		return times
	}
	carry := 0
	for i := range top {
		carry += rest[i] + by[i]
		rest[i] = carry & Mask
		carry >>= Size
	}
	rest[top] += carry
	return times - 1
}

// guess tells from the highest digits how often by goes into rest, or once more.
func guess(rest, by []int) int {
	top := len(by)
	head := rest[top]<<Size | rest[top-1]
	times, left := head/by[top-1], head%by[top-1]
	for left <= Mask && (times > Mask || times*by[top-2] > left<<Size|rest[top-2]) {
		times--
		left += by[top-1]
	}
	return times
}
