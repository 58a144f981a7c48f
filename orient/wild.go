package orient

import (
	"plumb/api"
	"plumb/dyadic"
	"plumb/span"
)

// wildVerdict tells the sign of points whatever their coordinates: by intervals, and where those leave it open by exact numbers.
func wildVerdict(a, b, c api.Point) api.Verdict {
	left, _ := span.Mul(between(a.X, c.X), between(b.Y, c.Y))
	right, _ := span.Mul(between(a.Y, c.Y), between(b.X, c.X))
	all, _ := span.Sub(left, right)
	if sign, known, _ := span.Sign(all); known {
		return api.Verdict{Sign: sign, Stage: api.StageSpan}
	}
	sign, _ := dyadic.Sign(exact(a, b, c))
	return api.Verdict{Sign: sign, Stage: api.StageDyadic}
}

// between is the interval around the difference of two coordinates.
func between(p, q int) api.Span {
	x, _ := span.Of(p)
	y, _ := span.Of(q)
	s, _ := span.Sub(x, y)
	return s
}
