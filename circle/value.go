package circle

import (
	"plumb/apart"
	"plumb/api"
	"plumb/dyadic"
	"plumb/span"
)

// kind is a kind of numbers, by how it reckons. Its zero value is 0.
type kind[N any] struct {
	add, sub, mul func(x, y N) (N, api.Errno)
	square        func(x N) (N, api.Errno)
}

func exactNumbers() kind[api.Num] {
	return kind[api.Num]{dyadic.Add, dyadic.Sub, dyadic.Mul, func(x api.Num) (api.Num, api.Errno) { return dyadic.Mul(x, x) }}
}

func spans() kind[api.Span] { return kind[api.Span]{span.Add, span.Sub, span.Mul, span.Square} }

// value is the determinant of three rows, of which a closure tells the first two numbers; the third one is the sum of their squares.
func (k kind[N]) value(row func(i int) (x, y N)) N {
	var x, y, lift [3]N
	for i := range 3 {
		x[i], y[i] = row(i)
		lift[i] = sure(k.add(sure(k.square(x[i])), sure(k.square(y[i]))))
	}
	var sum N
	for i := range 3 {
		j, l := (i+1)%3, (i+2)%3
		minor := sure(k.sub(sure(k.mul(x[j], y[l])), sure(k.mul(x[l], y[j]))))
		sum = sure(k.add(sum, sure(k.mul(lift[i], minor))))
	}
	return sum
}

// sure is what a step answered: none is refused here, as exact differences of coordinates have some 2,100 bits at most, and every span is an interval.
func sure[N any](x N, _ api.Errno) N { return x }

func exact(p four) api.Num {
	return exactNumbers().value(func(i int) (x, y api.Num) {
		return apart.Exact(p[i].X, p[3].X), apart.Exact(p[i].Y, p[3].Y)
	})
}

// exactVerdict is told at the last stage of tame points and of wild ones.
func exactVerdict(p four, stage int) api.Verdict {
	sign, _ := dyadic.Sign(exact(p))
	return api.Verdict{Sign: sign, Stage: stage}
}

// wildVerdict tells the sign of points whatever their coordinates: by intervals, and where those leave it open by exact numbers.
func wildVerdict(p four) api.Verdict {
	all := spans().value(func(i int) (x, y api.Span) {
		return apart.Span(p[i].X, p[3].X), apart.Span(p[i].Y, p[3].Y)
	})
	if sign, known, _ := span.Sign(all); known {
		return api.Verdict{Sign: sign, Stage: api.StageSpan}
	}
	return exactVerdict(p, api.StageDyadic)
}
