package round

import "plumb/api"

// What is left of a value behind the units that were cut out of it, held against half a unit.
const (
	nothing = iota
	less
	half
	more
)

// way is a row: what one way to round does.
type way struct {
	// raise tells whether the units that were cut out of a value get one more, away from 0: by the value's sign, whether they are odd, and what is left.
	raise func(neg, odd bool, left int) bool
}

// wayOf tells the row of a way; false: there is none.
func wayOf(number int) (way, bool) {
	rows := [...]way{
		api.Near: {raise: func(_, odd bool, left int) bool { return left == more || left == half && odd }},
		api.Down: {raise: func(neg, _ bool, left int) bool { return left != nothing && neg }},
		api.Up:   {raise: func(neg, _ bool, left int) bool { return left != nothing && !neg }},
		api.Zero: {raise: func(_, _ bool, _ int) bool { return false }},
	}
	if number < 0 || number >= len(rows) {
		return way{}, false
	}
	return rows[number], true
}

// beyond tells the pattern of what is too great for the finite floats: infinity where a unit that is all but full is raised, else the pattern below it, the greatest finite one.
func (w way) beyond(neg bool, infinity, sign int) int {
	if !w.raise(neg, true, more) {
		infinity--
	}
	if neg {
		return infinity | sign
	}
	return infinity
}
