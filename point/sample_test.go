package point

import (
	"math"
	"math/big"

	"plumb/api"
)

const least = math.MinInt // the pattern of -0

func of(f float64) int { return int(math.Float64bits(f)) }

func at(x, y float64) api.Point { return api.Point{X: of(x), Y: of(y)} }

// seeded is splitmix64: many patterns, the same in each run.
type seeded uint64

func (s *seeded) next() int {
	*s += 0x9E3779B97F4A7C15
	z := uint64(*s)
	z = (z ^ z>>30) * 0xBF58476D1CE4E5B9
	z = (z ^ z>>27) * 0x94D049BB133111EB
	return int(z ^ z>>31)
}

func (s *seeded) below(n int) int { return int(uint64(s.next()) % uint64(n)) }

// refused are patterns of infinities and of what is no number.
func refused() []int {
	l := []int{api.Inf, api.Inf + 1, api.NaN, api.NaN - 1, math.MaxInt}
	for _, b := range l {
		l = append(l, b|least)
	}
	return append(l, -1)
}

// coordinates are the edges of what is finite and of what is tame, with both signs, and many patterns between.
func coordinates() []int {
	l := []int{
		0, 1, 2, 1<<52 - 1, 1 << 52, 1<<52 + 1, of(1) - 1, of(1), of(1) + 1, of(3),
		of(0x1p-150) - 1, of(0x1p-150), of(0x1p-150) + 1, of(0x1p150) - 1, of(0x1p150), of(0x1p150) + 1,
		of(math.MaxFloat64) - 1, of(math.MaxFloat64),
	}
	for _, b := range l {
		l = append(l, b|least)
	}
	s := seeded(9)
	for len(l) < 120 {
		if b := s.next(); !strange(b) {
			l = append(l, b)
		}
	}
	return l
}

// points are all pairs of some coordinates, many of one place.
func points() []api.Point {
	var few []int
	for i, b := range coordinates() {
		if i < 36 || i%12 == 0 {
			few = append(few, b)
		}
	}
	var l []api.Point
	for _, x := range few {
		for _, y := range few {
			l = append(l, api.Point{X: x, Y: y})
		}
	}
	return l
}

// strange tells by the bits alone whether they are those of no finite float.
func strange(b int) bool { return b&api.Inf == api.Inf }

// value is what bits stand for, read digit by digit: no float is looked at.
func value(b int) *big.Int {
	mag, exp := b&(1<<52-1), b>>52&0x7FF
	if exp > 0 {
		mag |= 1 << 52
		exp--
	}
	n := new(big.Int).Lsh(big.NewInt(int64(mag)), uint(exp)) // in units of 2^-1074
	if b < 0 {
		n.Neg(n)
	}
	return n
}

// order is the order of points, by exact values.
func order(a, b api.Point) int {
	if c := value(a.X).Cmp(value(b.X)); c != 0 {
		return c
	}
	return value(a.Y).Cmp(value(b.Y))
}
