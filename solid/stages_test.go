package solid

import (
	"math"
	"math/big"

	"plumb/api"
)

// asked is one of the two questions: its calls, and what they must tell by the chapter's words.
type asked struct {
	name    string
	count   int
	sign    func(l places) (api.Verdict, api.Errno)
	exact   func(l places) (api.Num, api.Errno)
	exactly func(l places) *big.Int          // P1201, P1202, in units of 2^-unit
	filter  func(l places) (D, S *big.Float) // P1203, P1204
	A       *big.Float                       // and their bound
	unit    int
	steps   int       // by which places off one direction have values about the bound
	promise [2]string // of the exact number and of the filter
}

func sideAsked() asked {
	return asked{
		name: "Side", count: 4, unit: 3 * 1074, steps: 7, promise: [2]string{"P1201", "P1203"},
		sign:    func(l places) (api.Verdict, api.Errno) { return Side(l[0], l[1], l[2], l[3]) },
		exact:   func(l places) (api.Num, api.Errno) { return SideExact(l[0], l[1], l[2], l[3]) },
		exactly: sideExactly,
		filter:  sideWords,
		A:       constant((7 + 7*0x1p-50) * 0x1p-53),
	}
}

func sphereAsked() asked {
	return asked{
		name: "Sphere", count: 5, unit: 5 * 1074, steps: 150, promise: [2]string{"P1202", "P1204"},
		sign:    func(l places) (api.Verdict, api.Errno) { return Sphere(l[0], l[1], l[2], l[3], l[4]) },
		exact:   func(l places) (api.Num, api.Errno) { return SphereExact(l[0], l[1], l[2], l[3], l[4]) },
		exactly: sphereExactly,
		filter:  sphereWords,
		A:       constant((16 + 7*0x1p-48) * 0x1p-53),
	}
}

func both() []asked { return []asked{sideAsked(), sphereAsked()} }

// single rounds to 53 bits, to the nearest, of two the even one: what a single operation of tame numbers does, by the library. (It knows no least exponent: only A ⊗ S can lie below the normal floats, where each D but 0 is far greater.)
func single() *big.Float { return new(big.Float).SetPrec(53) }

func add(x, y *big.Float) *big.Float { return single().Add(x, y) }
func sub(x, y *big.Float) *big.Float { return single().Sub(x, y) }
func mul(x, y *big.Float) *big.Float { return single().Mul(x, y) }
func abs(x *big.Float) *big.Float    { return single().Abs(x) }
func constant(f float64) *big.Float  { return single().SetFloat64(f) }

// isTame is the word of the document.
func isTame(b int) bool {
	f := math.Abs(value(b))
	return f == 0 || f >= 0x1p-150 && f < 0x1p150
}

// wanted is the verdict by the words of P1203 to P1206.
func (a asked) wanted(l places) api.Verdict {
	for _, b := range l.flat() {
		if !isTame(b) {
			return api.Verdict{Sign: a.exactly(l).Sign(), Stage: api.StageDyadic}
		}
	}
	D, S := a.filter(l)
	if abs(D).Cmp(mul(a.A, S)) > 0 {
		return api.Verdict{Sign: D.Sign(), Stage: api.StageFilter}
	}
	return api.Verdict{Sign: a.exactly(l).Sign(), Stage: api.StageExpansion}
}

// row is p1, p2, p3, p4 of the chapter, by single operations.
type row struct{ p1, p2, p3, p4 *big.Float }

func rowOf(p, d api.Space) row {
	less := func(p, q int) *big.Float { return sub(constant(value(p)), constant(value(q))) }
	x, y, z := less(p.X, d.X), less(p.Y, d.Y), less(p.Z, d.Z)
	return row{x, y, z, add(add(mul(x, x), mul(y, y)), mul(z, z))}
}

// sideWords are D and S of P1203.
func sideWords(l places) (D, S *big.Float) {
	a, b, c := rowOf(l[0], l[3]), rowOf(l[1], l[3]), rowOf(l[2], l[3])
	bc, cb, ca, ac, ab, ba := mul(b.p1, c.p2), mul(c.p1, b.p2), mul(c.p1, a.p2), mul(a.p1, c.p2), mul(a.p1, b.p2), mul(b.p1, a.p2)
	D = add(add(mul(a.p3, sub(bc, cb)), mul(b.p3, sub(ca, ac))), mul(c.p3, sub(ab, ba)))
	S = add(add(mul(add(abs(bc), abs(cb)), abs(a.p3)), mul(add(abs(ca), abs(ac)), abs(b.p3))), mul(add(abs(ab), abs(ba)), abs(c.p3)))
	return D, S
}

// sphereWords are D and S of P1204.
func sphereWords(l places) (D, S *big.Float) {
	a, b, c, d := rowOf(l[0], l[4]), rowOf(l[1], l[4]), rowOf(l[2], l[4]), rowOf(l[3], l[4])
	pair := func(p, q row) *big.Float { return sub(mul(p.p1, q.p2), mul(q.p1, p.p2)) }
	PAIR := func(p, q row) *big.Float { return add(abs(mul(p.p1, q.p2)), abs(mul(q.p1, p.p2))) }
	det := func(p, q, r row) *big.Float {
		return add(sub(mul(p.p3, pair(q, r)), mul(q.p3, pair(p, r))), mul(r.p3, pair(p, q)))
	}
	DET := func(p, q, r row) *big.Float {
		return add(add(mul(PAIR(p, q), abs(r.p3)), mul(PAIR(q, r), abs(p.p3))), mul(PAIR(p, r), abs(q.p3)))
	}
	D = add(sub(mul(d.p4, det(a, b, c)), mul(c.p4, det(d, a, b))), sub(mul(b.p4, det(c, d, a)), mul(a.p4, det(b, c, d))))
	S = add(add(add(mul(DET(b, c, d), a.p4), mul(DET(c, d, a), b.p4)), mul(DET(d, a, b), c.p4)), mul(DET(a, b, c), d.p4))
	return D, S
}

// units is the value of bits in units of 2^-1074, read from the bits: no float is looked at.
func units(b int) *big.Int {
	mag, exp := b&(1<<52-1), b>>52&0x7FF
	if exp > 0 {
		mag |= 1 << 52
		exp--
	}
	n := new(big.Int).Lsh(big.NewInt(int64(mag)), uint(exp))
	if b < 0 {
		n.Neg(n)
	}
	return n
}

func plus(x, y *big.Int) *big.Int  { return new(big.Int).Add(x, y) }
func less(x, y *big.Int) *big.Int  { return new(big.Int).Sub(x, y) }
func times(x, y *big.Int) *big.Int { return new(big.Int).Mul(x, y) }

// whole is p1, p2, p3 of the chapter, exactly.
type whole [3]*big.Int

func wholeOf(p, d api.Space) whole {
	return whole{less(units(p.X), units(d.X)), less(units(p.Y), units(d.Y)), less(units(p.Z), units(d.Z))}
}

// detOf is the sum of P1201, and det of P1202.
func detOf(p, q, r whole) *big.Int {
	term := func(z, a, b, c, d *big.Int) *big.Int { return times(z, less(times(a, b), times(c, d))) }
	return plus(plus(term(p[2], q[0], r[1], r[0], q[1]), term(q[2], r[0], p[1], p[0], r[1])), term(r[2], p[0], q[1], q[0], p[1]))
}

func sideExactly(l places) *big.Int {
	return detOf(wholeOf(l[0], l[3]), wholeOf(l[1], l[3]), wholeOf(l[2], l[3]))
}

func sphereExactly(l places) *big.Int {
	a, b, c, d := wholeOf(l[0], l[4]), wholeOf(l[1], l[4]), wholeOf(l[2], l[4]), wholeOf(l[3], l[4])
	term := func(p whole, det *big.Int) *big.Int {
		return times(plus(plus(times(p[0], p[0]), times(p[1], p[1])), times(p[2], p[2])), det)
	}
	return plus(less(term(d, detOf(a, b, c)), term(c, detOf(d, a, b))), less(term(b, detOf(c, d, a)), term(a, detOf(b, c, d))))
}

// num is the Num of a whole number of units of 2^-unit.
func num(n *big.Int, unit int) api.Num {
	if n.Sign() == 0 {
		return api.Num{}
	}
	low := n.TrailingZeroBits()
	x := api.Num{Neg: n.Sign() < 0, Exp: int(low) - unit}
	m := new(big.Int).Abs(n)
	for m.Rsh(m, low); m.Sign() > 0; m.Rsh(m, 30) {
		x.Mag = append(x.Mag, int(m.Uint64()&(1<<30-1)))
	}
	return x
}
