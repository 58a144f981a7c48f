package circle

import (
	"math"
	"math/big"

	"plumb/api"
)

// single rounds to 53 bits, to the nearest, of two the even one: what a single operation of tame numbers does, by the library.
func single() *big.Float { return new(big.Float).SetPrec(53) }

// wide has room for all bits of every value.
func wide() *big.Float { return new(big.Float).SetPrec(9000) }

func add(x, y *big.Float) *big.Float   { return single().Add(x, y) }
func sub(x, y *big.Float) *big.Float   { return single().Sub(x, y) }
func mul(x, y *big.Float) *big.Float   { return single().Mul(x, y) }
func size(x *big.Float) *big.Float     { return single().Abs(x) }
func read(b int) *big.Float            { return single().SetFloat64(value(b)) }
func constant(f float64) *big.Float    { return single().SetFloat64(f) }
func less(x, y *big.Float) *big.Float  { return wide().Sub(x, y) }
func plus(x, y *big.Float) *big.Float  { return wide().Add(x, y) }
func times(x, y *big.Float) *big.Float { return wide().Mul(x, y) }

// isTame is the word of the document.
func isTame(b int) bool {
	f := math.Abs(value(b))
	return f == 0 || f >= 0x1p-150 && f < 0x1p150
}

// verdict is a sign and a stage.
func verdict(x *big.Float, stage int) api.Verdict { return api.Verdict{Sign: x.Sign(), Stage: stage} }

// row is p1, p2, p3 of the chapter, and p1', p2'.
type row struct{ p1, p2, p3, lost1, lost2 *big.Float }

func rowOf(p, d api.Point) row {
	px, py, dx, dy := read(p.X), read(p.Y), read(d.X), read(d.Y)
	p1, p2 := sub(px, dx), sub(py, dy)
	return row{p1, p2, add(mul(p1, p1), mul(p2, p2)), less(less(px, dx), p1), less(less(py, dy), p2)}
}

// wanted is the verdict by the words of P1103 to P1107.
func wanted(f four) api.Verdict {
	for _, b := range coordinates(f) {
		if !isTame(b) {
			return wantedWild(f)
		}
	}
	a, b, c := rowOf(f[0], f[3]), rowOf(f[1], f[3]), rowOf(f[2], f[3])
	D, S := filterOf(a, b, c)
	if size(D).Cmp(mul(constant((10+3*0x1p-48)*0x1p-53), S)) > 0 {
		return verdict(D, api.StageFilter)
	}
	H := headsOf(a, b, c)
	h := single().Set(H)
	exact := true
	for _, p := range []row{a, b, c} {
		exact = exact && p.lost1.Sign() == 0 && p.lost2.Sign() == 0
	}
	if exact || size(h).Cmp(mul(constant((4+3*0x1p-49)*0x1p-53), S)) >= 0 {
		return verdict(H, api.StageHeads)
	}
	E := add(mul(constant((44+9*0x1p-47)*0x1p-106), S), mul(constant((3+0x1p-50)*0x1p-53), size(h)))
	e := add(h, add(add(tailOf(a, b, c), tailOf(b, c, a)), tailOf(c, a, b)))
	if size(e).Cmp(E) >= 0 {
		return verdict(e, api.StageTails)
	}
	return api.Verdict{Sign: exactly(f).Sign(), Stage: api.StageExpansion}
}

// filterOf are D and S of P1103.
func filterOf(a, b, c row) (D, S *big.Float) {
	bc, cb, ca, ac, ab, ba := mul(b.p1, c.p2), mul(c.p1, b.p2), mul(c.p1, a.p2), mul(a.p1, c.p2), mul(a.p1, b.p2), mul(b.p1, a.p2)
	D = add(add(mul(a.p3, sub(bc, cb)), mul(b.p3, sub(ca, ac))), mul(c.p3, sub(ab, ba)))
	S = add(add(mul(add(size(bc), size(cb)), a.p3), mul(add(size(ca), size(ac)), b.p3)), mul(add(size(ab), size(ba)), c.p3))
	return D, S
}

// headsOf is H of P1104.
func headsOf(a, b, c row) *big.Float {
	lift := func(p row) *big.Float { return plus(times(p.p1, p.p1), times(p.p2, p.p2)) }
	term := func(p, q, r row) *big.Float { return times(lift(p), less(times(q.p1, r.p2), times(r.p1, q.p2))) }
	return plus(plus(term(a, b, c), term(b, c, a)), term(c, a, b))
}

// tailOf is T(p) of P1105.
func tailOf(p, q, r row) *big.Float {
	first := sub(add(mul(q.p1, r.lost2), mul(r.p2, q.lost1)), add(mul(q.p2, r.lost1), mul(r.p1, q.lost2)))
	second := mul(constant(2), add(mul(p.p1, p.lost1), mul(p.p2, p.lost2)))
	return add(mul(p.p3, first), mul(second, sub(mul(q.p1, r.p2), mul(q.p2, r.p1))))
}

// ends are an interval.
type ends struct{ lo, hi float64 }

// around is the least interval around two numbers, rounded outward.
func around(lo, hi *big.Float) ends {
	low, lies := lo.Float64()
	if lies == big.Above {
		low = math.Nextafter(low, math.Inf(-1))
	}
	high, lies := hi.Float64()
	if lies == big.Below {
		high = math.Nextafter(high, math.Inf(1))
	}
	return ends{low, high}
}

func end(f float64) *big.Float { return wide().SetFloat64(f) }

func (s ends) plus(t ends) ends {
	return around(plus(end(s.lo), end(t.lo)), plus(end(s.hi), end(t.hi)))
}

func (s ends) minus(t ends) ends { return s.plus(ends{-t.hi, -t.lo}) }

// times is Mul of chapter 8: 0 times infinity is 0.
func (s ends) times(t ends) ends {
	var lo, hi *big.Float
	for _, x := range []float64{s.lo, s.hi} {
		for _, y := range []float64{t.lo, t.hi} {
			p := wide()
			if x != 0 && y != 0 {
				p.Mul(end(x), end(y))
			}
			if lo == nil || p.Cmp(lo) < 0 {
				lo = p
			}
			if hi == nil || p.Cmp(hi) > 0 {
				hi = p
			}
		}
	}
	return around(lo, hi)
}

// squared is Square of chapter 8.
func (s ends) squared() ends {
	square := s.times(s) // only its upper end is a square's for sure
	if s.lo <= 0 && s.hi >= 0 {
		return ends{0, square.hi}
	}
	least := min(math.Abs(s.lo), math.Abs(s.hi))
	return ends{ends{least, least}.times(ends{least, least}).lo, square.hi}
}

// wantedWild is P1107.
func wantedWild(f four) api.Verdict {
	var x, y, lift [3]ends
	for i := range 3 {
		s := func(b int) ends { return ends{value(b), value(b)} }
		x[i], y[i] = s(f[i].X).minus(s(f[3].X)), s(f[i].Y).minus(s(f[3].Y))
		lift[i] = x[i].squared().plus(y[i].squared())
	}
	term := func(p, q, r int) ends { return lift[p].times(x[q].times(y[r]).minus(x[r].times(y[q]))) }
	switch all := term(0, 1, 2).plus(term(1, 2, 0)).plus(term(2, 0, 1)); {
	case all.lo > 0:
		return api.Verdict{Sign: 1, Stage: api.StageSpan}
	case all.hi < 0:
		return api.Verdict{Sign: -1, Stage: api.StageSpan}
	case all.lo == 0 && all.hi == 0:
		return api.Verdict{Sign: 0, Stage: api.StageSpan}
	}
	return api.Verdict{Sign: exactly(f).Sign(), Stage: api.StageDyadic}
}
