// Package digits reckons with natural numbers as lists of digits of 30 bits, the lowest first, of any length. It takes them on trust: the lists handed in have no zeros on top, and nothing is ever too long. The layers that tell numbers look at what they are given and set the limits.
package digits

import (
	"cmp"
	mathbits "math/bits"
)

const (
	Size = 30          // bits of a digit
	Mask = 1<<Size - 1 // the greatest digit
)

// Of is the list of an int from 0 on.
func Of(v int) []int {
	var n []int
	for v > 0 {
		n = append(n, v&Mask)
		v >>= Size
	}
	return n
}

// Small is the int of a list of at most 63 bits.
func Small(n []int) int {
	v := 0
	for i := range len(n) {
		v |= n[i] << (Size * i)
	}
	return v
}

// Trim takes the zeros off the top; 0 is nil.
func Trim(n []int) []int {
	top := len(n)
	for top > 0 && n[top-1] == 0 {
		top--
	}
	if top == 0 {
		return nil
	}
	return n[:top]
}

// width is the number of bits of a digit, from its highest one that is set on.
func width(digit int) int { return mathbits.Len(uint(digit)) }

// Bits is the number of bits, from the highest one that is set on.
func Bits(n []int) int {
	if len(n) == 0 {
		return 0
	}
	return Size*(len(n)-1) + width(n[len(n)-1])
}

// Lowest is the place of the lowest bit that is set; -1: there is none.
func Lowest(n []int) int {
	for i := range len(n) {
		if n[i] != 0 {
			return Size*i + mathbits.TrailingZeros(uint(n[i]))
		}
	}
	return -1
}

// Compare is the order of two: -1, 0, 1.
func Compare(a, b []int) int {
	if len(a) != len(b) {
		return cmp.Compare(len(a), len(b))
	}
	for i := range len(a) {
		top := len(a) - 1 - i
		if a[top] != b[top] {
			return cmp.Compare(a[top], b[top])
		}
	}
	return 0
}

// Sum is a + b.
func Sum(a, b []int) []int {
	if len(a) < len(b) {
		a, b = b, a
	}
	n := make([]int, len(a)+1)
	carry := 0
	for i := range len(a) {
		carry += a[i]
		if i < len(b) {
			carry += b[i]
		}
		n[i] = carry & Mask
		carry >>= Size
	}
	n[len(a)] = carry
	return Trim(n)
}

// Difference is a - b, where a is no less.
func Difference(a, b []int) []int {
	n := make([]int, len(a))
	borrow := 0
	for i := range len(a) {
		borrow += a[i]
		if i < len(b) {
			borrow -= b[i]
		}
		n[i] = borrow & Mask
		borrow >>= Size
	}
	return Trim(n)
}

// Product is a b.
func Product(a, b []int) []int {
	n := make([]int, len(a)+len(b))
	for i := range len(a) {
		row, carry := n[i:i+len(b)], 0
		for j := range len(b) {
			carry += a[i]*b[j] + row[j] // below 2^60, as a digit's square, a digit and a carry are
			row[j] = carry & Mask
			carry >>= Size
		}
		n[i+len(b)] = carry
	}
	return Trim(n)
}

// Raise is a 2^k.
func Raise(a []int, k int) []int {
	n := make([]int, k/Size+len(a)+1)
	Pile(n, a, k, 1)
	return Trim(n)
}

// Lower is a divided by 2^k, cut.
func Lower(a []int, k int) []int {
	whole, part := k/Size, k%Size
	if whole >= len(a) {
		return nil
	}
	n := make([]int, len(a)-whole)
	for i := range len(n) {
		n[i] = a[whole+i] >> part
		if whole+i+1 < len(a) {
			n[i] |= a[whole+i+1] << (Size - part) & Mask
		}
	}
	return Trim(n)
}
