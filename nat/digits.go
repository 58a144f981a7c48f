package nat

import (
	"cmp"
	mathbits "math/bits"
)

// digits is the list of an int from 0 on.
func digits(v int) []int {
	var n []int
	for v > 0 {
		n = append(n, v&mask)
		v >>= digitBits
	}
	return n
}

// small is the int of a list of at most 63 bits.
func small(n []int) int {
	v := 0
	for i := range len(n) {
		v |= n[i] << (digitBits * i)
	}
	return v
}

// trim takes the zeros off the top; 0 is nil.
func trim(n []int) []int {
	top := len(n)
	for top > 0 && n[top-1] == 0 {
		top--
	}
	if top == 0 {
		return nil
	}
	return n[:top]
}

// width is the number of bits of a digit, from its highest one that is set on.
func width(digit int) int { return mathbits.Len(uint(digit)) }

func bitLength(n []int) int {
	if len(n) == 0 {
		return 0
	}
	return digitBits*(len(n)-1) + width(n[len(n)-1])
}

func lowest(n []int) int {
	for i := range len(n) {
		if n[i] != 0 {
			return digitBits*i + mathbits.TrailingZeros(uint(n[i]))
		}
	}
	return -1
}

func compare(a, b []int) int {
	if len(a) != len(b) {
		return cmp.Compare(len(a), len(b))
	}
	for i := range len(a) {
		top := len(a) - 1 - i
		if a[top] != b[top] {
			return cmp.Compare(a[top], b[top])
		}
	}
	return 0
}

func sum(a, b []int) []int {
	if len(a) < len(b) {
		a, b = b, a
	}
	n := make([]int, len(a)+1)
	carry := 0
	for i := range len(a) {
		carry += a[i]
		if i < len(b) {
			carry += b[i]
		}
		n[i] = carry & mask
		carry >>= digitBits
	}
	n[len(a)] = carry
	return trim(n)
}

// difference is a - b, where a is no less.
func difference(a, b []int) []int {
	n := make([]int, len(a))
	borrow := 0
	for i := range len(a) {
		borrow += a[i]
		if i < len(b) {
			borrow -= b[i]
		}
		n[i] = borrow & mask
		borrow >>= digitBits
	}
	return trim(n)
}

func product(a, b []int) []int {
	n := make([]int, len(a)+len(b))
	for i := range len(a) {
		row, carry := n[i:i+len(b)], 0
		for j := range len(b) {
			carry += a[i]*b[j] + row[j] // below 2^60, as a digit's square, a digit and a carry are
			row[j] = carry & mask
			carry >>= digitBits
		}
		n[i+len(b)] = carry
	}
	return trim(n)
}

// raise is a 2^k.
func raise(a []int, k int) []int {
	whole, part := k/digitBits, k%digitBits
	n := make([]int, whole+len(a)+1)
	carry := 0
	for i := range len(a) {
		carry |= a[i] << part
		n[whole+i] = carry & mask
		carry >>= digitBits
	}
	n[whole+len(a)] = carry
	return trim(n)
}

// lower is a divided by 2^k, cut.
func lower(a []int, k int) []int {
	whole, part := k/digitBits, k%digitBits
	if whole >= len(a) {
		return nil
	}
	n := make([]int, len(a)-whole)
	for i := range len(n) {
		n[i] = a[whole+i] >> part
		if whole+i+1 < len(a) {
			n[i] |= a[whole+i+1] << (digitBits - part) & mask
		}
	}
	return trim(n)
}
