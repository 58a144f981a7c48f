package apart

import (
	"math"
	"math/big"
	"math/rand/v2"
	"testing"

	"plumb/api"
	"plumb/expansion"
)

func of(f float64) int    { return int(math.Float64bits(f)) }
func value(b int) float64 { return math.Float64frombits(uint64(b)) }

// wide has room for all bits of a difference.
func wide() *big.Float { return new(big.Float).SetPrec(2200) }

func exactly(p, q float64) *big.Float {
	return wide().Sub(wide().SetFloat64(p), wide().SetFloat64(q))
}

// whole is the value of an exact number.
func whole(x api.Num) *big.Float {
	n := new(big.Int)
	for i := len(x.Mag) - 1; i >= 0; i-- {
		n.Add(n.Lsh(n, 30), big.NewInt(int64(x.Mag[i])))
	}
	if x.Neg {
		n.Neg(n)
	}
	return wide().SetMantExp(wide().SetInt(n), x.Exp)
}

// pairs are coordinates from 2^-reach to 2^reach: at the edges, near each other, and mixed.
func pairs(reach int) [][2]float64 {
	r := rand.New(rand.NewPCG(uint64(reach), 5))
	l := [][2]float64{{0, 0}, {math.Copysign(0, -1), 0}, {0, 1}, {1, 0x1p-100}, {-1, -1}}
	for range 3000 {
		f := func() float64 { return math.Ldexp(2*r.Float64()-1, r.IntN(2*reach)-reach) }
		x, y := f(), f()
		l = append(l, [2]float64{x, y}, [2]float64{x, value(of(x) + r.IntN(9) - 4)}, [2]float64{x, x * r.Float64()})
	}
	return l
}

func TestNearAndFloats(t *testing.T) {
	for _, x := range pairs(150) {
		if f := Near(of(x[0]), of(x[1])); f != x[0]-x[1] {
			t.Fatalf("P1203, P1302: Near(%v): %v", x, f)
		}
		head, tail := Floats(of(x[0]), of(x[1]))
		lost := wide().Sub(exactly(x[0], x[1]), wide().SetFloat64(head))
		if head != x[0]-x[1] || wide().SetFloat64(tail).Cmp(lost) != 0 {
			t.Fatalf("P1004, P1104: Floats(%v): %v and %v", x, head, tail)
		}
	}
}

func TestExpansion(t *testing.T) {
	for _, x := range pairs(150) {
		p, q := of(x[0]), of(x[1])
		e := Expansion(p, q)
		n, errno := expansion.Exact(e) // that it is one is looked at there
		if want := exactly(x[0], x[1]); errno != api.OK || whole(n).Cmp(want) != 0 {
			t.Fatalf("P1006, P1302: Expansion(%v): %x, error %d", x, e, errno)
		}
	}
}

func TestExactAndSpan(t *testing.T) {
	for _, x := range append(pairs(1023), [2]float64{math.MaxFloat64, -math.MaxFloat64}, [2]float64{0x1p-1074, math.MaxFloat64}) {
		p, q, want := of(x[0]), of(x[1]), exactly(x[0], x[1])
		if n := Exact(p, q); whole(n).Cmp(want) != 0 {
			t.Fatalf("P1001, P1101: Exact(%v): %v", x, n)
		}
		s := Span(p, q)
		low, high := wide().SetFloat64(value(s.Lo)), wide().SetFloat64(value(s.Hi))
		next := math.Nextafter(value(s.Lo), math.Inf(1))
		if low.Cmp(want) > 0 || high.Cmp(want) < 0 || s.Lo != s.Hi && (low.Cmp(want) == 0 || high.Cmp(want) == 0 || value(s.Hi) != next) {
			t.Fatalf("P1007, P1107: Span(%v): from %v to %v", x, low, high)
		}
	}
}
