package bits

import (
	"math"
	"math/big"

	"plumb/api"
)

func of(f float64) int   { return int(math.Float64bits(f)) }
func of32(f float32) int { return int(math.Float32bits(f)) }

// next is one step of splitmix64: many patterns, the same in each run.
func next(state *uint64) int {
	*state += 0x9E3779B97F4A7C15
	z := *state
	z = (z ^ z>>30) * 0xBF58476D1CE4E5B9
	z = (z ^ z>>27) * 0x94D049BB133111EB
	return int(z ^ z>>31)
}

// samples: the edges of every class with both signs, and many patterns between.
func samples() []int {
	l := []int{
		0, 1, 2, 1<<52 - 1, 1 << 52, 1<<52 + 1, of(0.1), of(1) - 1, of(1), of(1) + 1, of(1.5), of(2), of(1 << 53),
		of(math.MaxFloat64) - 1, of(math.MaxFloat64), api.Inf, api.Inf + 1, api.NaN, math.MaxInt,
	}
	for _, b := range l {
		l = append(l, b|math.MinInt)
	}
	var state uint64
	for range 2000 {
		b := next(&state)
		l = append(l, b, b&(math.MinInt|1<<52-1), b|api.Inf)
	}
	for f := range 2048 {
		l = append(l, f<<52, f<<52|1, f<<52|(1<<52-1), f<<52|math.MinInt)
	}
	return l
}

// samples32: the same of binary32, all patterns of 32 bits.
func samples32() []int {
	l := []int{
		0, 1, 2, 1<<23 - 1, 1 << 23, 1<<23 + 1, of32(0.1), of32(1) - 1, of32(1), of32(1) + 1, of32(1.5), of32(2), of32(1 << 24),
		of32(math.MaxFloat32) - 1, of32(math.MaxFloat32), api.Inf32, api.Inf32 + 1, api.NaN32, math.MaxInt32,
	}
	for _, b := range l {
		l = append(l, b|1<<31)
	}
	var state uint64
	for range 5000 {
		l = append(l, next(&state)&math.MaxUint32)
	}
	for f := range 256 {
		l = append(l, f<<23, f<<23|1, f<<23|(1<<23-1), f<<23|1<<31)
	}
	return l
}

// strangers: ints that are no patterns of 32 bits.
func strangers() []int {
	return []int{-1, -1 << 31, 1 << 32, 1<<32 + of32(1), math.MaxInt, math.MinInt, math.MinInt + of32(1)}
}

func isNaN(b int) bool   { return math.IsNaN(math.Float64frombits(uint64(b))) }
func isNaN32(b int) bool { return math.IsNaN(float64(math.Float32frombits(uint32(b)))) }

// product is mag times 2^exp, exactly.
func product(neg bool, mag, exp int) *big.Float {
	x := new(big.Float).SetPrec(64).SetInt64(int64(mag))
	x.SetMantExp(x, exp)
	if neg {
		x.Neg(x)
	}
	return x
}
