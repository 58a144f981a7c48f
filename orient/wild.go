package orient

import (
	"plumb/apart"
	"plumb/api"
	"plumb/dyadic"
	"plumb/span"
)

// wildVerdict tells the sign of points whatever their coordinates: by intervals, and where those leave it open by exact numbers.
func wildVerdict(a, b, c api.Point) api.Verdict {
	left, _ := span.Mul(apart.Span(a.X, c.X), apart.Span(b.Y, c.Y))
	right, _ := span.Mul(apart.Span(a.Y, c.Y), apart.Span(b.X, c.X))
	all, _ := span.Sub(left, right)
	if sign, known, _ := span.Sign(all); known {
		return api.Verdict{Sign: sign, Stage: api.StageSpan}
	}
	sign, _ := dyadic.Sign(exact(a, b, c))
	return api.Verdict{Sign: sign, Stage: api.StageDyadic}
}
