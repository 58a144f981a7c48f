package tie

import (
	"cmp"
	"math"
	"math/big"

	"plumb/api"
)

const (
	minus0 = math.MinInt
	top    = math.MaxFloat64
	tiny   = 0x1p-1074
)

func of(f float64) int    { return int(math.Float64bits(f)) }
func value(b int) float64 { return math.Float64frombits(uint64(b)) }

func at(x, y float64) api.Point { return api.Point{X: of(x), Y: of(y)} }

func side(f four) (api.Verdict, api.Errno) { return Side(f[0], f[1], f[2], f[3]) }

// coordinates are the eight of them, a's first.
func coordinates(f four) [8]int {
	return [8]int{f[0].X, f[0].Y, f[1].X, f[1].Y, f[2].X, f[2].Y, f[3].X, f[3].Y}
}

func fromCoordinates(c [8]int) four {
	return four{{X: c[0], Y: c[1]}, {X: c[2], Y: c[3]}, {X: c[4], Y: c[5]}, {X: c[6], Y: c[7]}}
}

// order is one of the 24 orders of four points, and the sign that exchanges up to it make of 1.
type order struct {
	at   [4]int
	sign int
}

func (o order) of(f four) four { return four{f[o.at[0]], f[o.at[1]], f[o.at[2]], f[o.at[3]]} }

func orders() []order {
	var l []order
	for n := range 256 {
		o := order{[4]int{n & 3, n >> 2 & 3, n >> 4 & 3, n >> 6}, 1}
		for i := range 4 {
			for k := range i {
				switch {
				case o.at[i] == o.at[k]:
					o.sign = 0
				case o.at[i] < o.at[k]:
					o.sign = -o.sign
				}
			}
		}
		if o.sign != 0 {
			l = append(l, o)
		}
	}
	return l
}

// units is the value of bits in units of 2^-1074, read from the bits: no float is looked at.
func units(b int) *big.Int {
	mag, exp := b&(1<<52-1), b>>52&0x7FF
	if exp > 0 {
		mag |= 1 << 52
		exp--
	}
	n := new(big.Int).Lsh(big.NewInt(int64(mag)), uint(exp))
	if b < 0 {
		n.Neg(n)
	}
	return n
}

func less(p, q int) *big.Int       { return new(big.Int).Sub(units(p), units(q)) }
func times(p, q *big.Int) *big.Int { return new(big.Int).Mul(p, q) }

// before is the order of points, by values.
func before(p, q api.Point) int {
	return cmp.Or(less(p.X, q.X).Sign(), less(p.Y, q.Y).Sign())
}

// turnOf is the exact orientation.
func turnOf(a, b, c api.Point) int {
	return times(less(a.X, c.X), less(b.Y, c.Y)).Cmp(times(less(a.Y, c.Y), less(b.X, c.X)))
}

// onOneLine tells whether all four lie on one line.
func onOneLine(f four) bool {
	return turnOf(f[0], f[1], f[2]) == 0 && turnOf(f[0], f[1], f[3]) == 0 && turnOf(f[0], f[2], f[3]) == 0 && turnOf(f[1], f[2], f[3]) == 0
}

// onePlace tells whether two of them are one place.
func onePlace(f four) bool {
	for i := range 4 {
		for k := range i {
			if before(f[i], f[k]) == 0 {
				return true
			}
		}
	}
	return false
}

// apartBits are more than any coefficient of the raises has.
const apartBits = 4300

// inCircle is the exact sign of in-circle with each lift raised by as many units as told, of which 2^(4 * apartBits) are one of the lifts' own.
func inCircle(f four, raises [4]*big.Int) int {
	var x, y, lift [3]*big.Int
	for i := range 3 {
		x[i], y[i] = less(f[i].X, f[3].X), less(f[i].Y, f[3].Y)
		lift[i] = new(big.Int).Add(times(x[i], x[i]), times(y[i], y[i]))
		lift[i].Lsh(lift[i], 4*apartBits)
		lift[i].Add(lift[i], raises[i]).Sub(lift[i], raises[3])
	}
	minor := func(i, k int) *big.Int { return new(big.Int).Sub(times(x[i], y[k]), times(x[k], y[i])) }
	n := times(lift[0], minor(1, 2))
	n.Add(n, times(lift[1], minor(2, 0)))
	return n.Add(n, times(lift[2], minor(0, 1))).Sign()
}

func none() [4]*big.Int { return [4]*big.Int{new(big.Int), new(big.Int), new(big.Int), new(big.Int)} }

// wanted is the sign by the rule's words: each lift is raised, and that of a point before all others by far more.
func wanted(f four) int {
	if onePlace(f) {
		return 0
	}
	raises := none()
	for i, p := range f {
		behind := 0
		for _, q := range f {
			if before(p, q) < 0 {
				behind++
			}
		}
		raises[i].Lsh(big.NewInt(1), uint(behind)*apartBits)
	}
	return inCircle(f, raises)
}
