package digits

// Columns are digits of a sum that were not carried yet: numbers are put onto them one by one, each in as many steps as it has digits, and all are carried once. As a number changes a column by less than 2^30, 2^32 of them don't wrap it round.

// Pile adds a 2^k, times a sign (1 or -1), to columns, of which there are k/30 + 1 more than a has digits, at least.
func Pile(columns, a []int, k, sign int) {
	whole, part := k/Size, k%Size
	carry := 0
	for i := range len(a) {
		carry |= a[i] << part
		columns[whole+i] += sign * (carry & Mask)
		carry >>= Size
	}
	columns[whole+len(a)] += sign * carry
}

// Carry makes digits of columns, in their place, and tells whether their sum, which they have room for, is below 0: then the digits are those of its opposite.
func Carry(columns []int) bool {
	if carry(columns) >= 0 {
		return false
	}
	for i := range len(columns) {
		columns[i] = -columns[i]
	}
	carry(columns)
	return true
}

// carry hands on what is more, or less, than a digit from each column to the next one, and tells what leaves the highest: as shifts cut downwards, it is below 0 just where the sum is.
func carry(columns []int) int {
	over := 0
	for i := range len(columns) {
		over += columns[i]
		columns[i] = over & Mask
		over >>= Size
	}
	return over
}
