package measure

import (
	"cmp"
	"math"

	"plumb/api"
	"plumb/dyadic"
	"plumb/expansion"
	"plumb/point"
	"plumb/span"
)

// filterBound is more than what a filter's value may be off, as a part of its size: a value that is greater has the exact sign.
const filterBound = 0x1p-49

// stages tell the value of one question, each in its own kind of numbers.
type stages struct {
	filter    func() (value, size float64) // by single operations alone; the size is that of the value's terms
	expansion func() []int                 // of tame points
	span      func() api.Span
	exact     func() api.Num
}

// verdict tells the sign for the points of the question.
func (s stages) verdict(l ...api.Point) (api.Verdict, api.Errno) {
	switch {
	case tame(l...): // so they are points
		return s.tameVerdict(), api.OK
	case !good(l...):
		return api.Verdict{}, api.ErrFinite
	}
	return s.wildVerdict(), api.OK
}

func (s stages) tameVerdict() api.Verdict {
	value, size := s.filter()
	if math.Abs(value) > float64(filterBound*size) {
		return api.Verdict{Sign: cmp.Compare(value, 0), Stage: api.StageFilter}
	}
	sign, _ := expansion.Sign(s.expansion())
	return api.Verdict{Sign: sign, Stage: api.StageExpansion}
}

func (s stages) wildVerdict() api.Verdict {
	if sign, known, _ := span.Sign(s.span()); known {
		return api.Verdict{Sign: sign, Stage: api.StageSpan}
	}
	sign, _ := dyadic.Sign(s.exact())
	return api.Verdict{Sign: sign, Stage: api.StageDyadic}
}

func tame(l ...api.Point) bool {
	for _, p := range l {
		if !point.Tame(p.X) || !point.Tame(p.Y) {
			return false
		}
	}
	return true
}

// good tells whether all of them are points.
func good(l ...api.Point) bool {
	for _, p := range l {
		if point.Check(p) != api.OK {
			return false
		}
	}
	return true
}
