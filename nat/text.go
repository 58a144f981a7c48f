package nat

import (
	"slices"
	"strconv"
	"strings"

	"plumb/api"
	"plumb/digits"
)

const (
	groupLength = 9 // so many decimal digits are below 2^30, as a digit is
	group       = 1_000_000_000
	maxText     = maxBits*30103/100000 + 1 // decimal digits of 2^maxBits, as log 2 is 0.30103
)

// Text tells the decimal digits.
func Text(n []int) (string, api.Errno) {
	if !Valid(n) {
		return "", api.ErrNat
	}
	var text strings.Builder
	groups := split(n)
	for i := range len(groups) {
		part := strconv.Itoa(groups[len(groups)-1-i])
		if i > 0 {
			text.WriteString(strings.Repeat("0", groupLength-len(part)))
		}
		text.WriteString(part)
	}
	return text.String(), api.OK
}

// Read tells the number of decimal digits.
func Read(text string) ([]int, api.Errno) {
	if !plain(text) {
		return nil, api.ErrText
	}
	if len(text) > maxText {
		return nil, api.ErrLong
	}
	var n []int
	for len(text) > 0 {
		length := (len(text)-1)%groupLength + 1 // the first group alone may be short
		n = extend(n, value(text[:length]))
		text = text[length:]
	}
	return fit(n)
}

// split tells the groups of decimal digits, the lowest first; 0 has one.
func split(n []int) []int {
	var groups []int
	rest := slices.Clone(n)
	for len(rest) > 0 {
		groups = append(groups, digits.Shorten(rest, group))
		rest = digits.Trim(rest)
	}
	if len(groups) == 0 {
		return []int{0}
	}
	return groups
}

// plain tells whether a text is decimal digits without zeros ahead.
func plain(text string) bool {
	for i := range len(text) {
		if text[i] < '0' || text[i] > '9' {
			return false
		}
	}
	return text == "0" || text != "" && text[0] != '0'
}

// value is the number of a group of decimal digits.
func value(text string) int {
	v := 0
	for i := range len(text) {
		v = 10*v + int(text[i]-'0')
	}
	return v
}

// extend puts a group of decimal digits behind those of n, in n's place.
func extend(n []int, low int) []int {
	for i := range len(n) {
		low += n[i] * group
		n[i] = low & mask
		low >>= digitBits
	}
	if low > 0 {
		n = append(n, low)
	}
	return n
}
