package orient

import (
	"math"
	"math/big"

	"plumb/api"
)

// single rounds to 53 bits, to the nearest, of two the even one: what a single operation of tame numbers does, by the library.
func single() *big.Float { return new(big.Float).SetPrec(53) }

// wide has room for all bits of every value.
func wide() *big.Float { return new(big.Float).SetPrec(9000) }

func add(x, y *big.Float) *big.Float   { return single().Add(x, y) }
func sub(x, y *big.Float) *big.Float   { return single().Sub(x, y) }
func mul(x, y *big.Float) *big.Float   { return single().Mul(x, y) }
func size(x *big.Float) *big.Float     { return single().Abs(x) }
func number(b int) *big.Float          { return single().SetFloat64(value(b)) }
func constant(f float64) *big.Float    { return single().SetFloat64(f) }
func least(x, bound *big.Float) bool   { return size(x).Cmp(bound) >= 0 }
func less(x, y *big.Float) *big.Float  { return wide().Sub(x, y) }
func times(x, y *big.Float) *big.Float { return wide().Mul(x, y) }

// isTame is the word of the document.
func isTame(b int) bool {
	f := math.Abs(value(b))
	return f == 0 || f >= 0x1p-150 && f < 0x1p150
}

// told is a sign and a stage.
func told(x *big.Float, stage int) api.Verdict { return api.Verdict{Sign: x.Sign(), Stage: stage} }

// wanted is the verdict by the words of P1003 to P1007.
func wanted(t three) api.Verdict {
	for _, b := range t.coordinates() {
		if !isTame(b) {
			return wantedWild(t)
		}
	}
	ax, ay, bx, by, cx, cy := number(t.a.X), number(t.a.Y), number(t.b.X), number(t.b.Y), number(t.c.X), number(t.c.Y)
	u1, v1, u2, v2 := sub(ax, cx), sub(ay, cy), sub(bx, cx), sub(by, cy)
	L, R := mul(u1, v2), mul(v1, u2)
	D := sub(L, R)
	if L.Sign() == 0 || L.Sign() > 0 && R.Sign() <= 0 || L.Sign() < 0 && R.Sign() >= 0 {
		return told(D, api.StageFilter)
	}
	S := add(size(L), size(R))
	if least(D, mul(constant((3+0x1p-49)*0x1p-53), S)) {
		return told(D, api.StageFilter)
	}
	u1t, v1t, u2t, v2t := less(less(ax, cx), u1), less(less(ay, cy), v1), less(less(bx, cx), u2), less(less(by, cy), v2)
	H := less(times(u1, v2), times(v1, u2))
	h := single().Set(H)
	if least(h, mul(constant((2+3*0x1p-51)*0x1p-53), S)) || u1t.Sign() == 0 && v1t.Sign() == 0 && u2t.Sign() == 0 && v2t.Sign() == 0 {
		return told(H, api.StageHeads)
	}
	E := add(mul(constant((9+0x1p-47)*0x1p-106), S), mul(constant((3+0x1p-50)*0x1p-53), size(h)))
	T := sub(add(mul(u1, v2t), mul(v2, u1t)), add(mul(v1, u2t), mul(u2, v1t)))
	if d := add(h, T); least(d, E) {
		return told(d, api.StageTails)
	}
	return api.Verdict{Sign: exactly(t).Sign(), Stage: api.StageExpansion}
}

// ends are an interval.
type ends struct{ lo, hi float64 }

// around is the least interval around two numbers, rounded outward.
func around(lo, hi *big.Float) ends {
	low, lies := lo.Float64()
	if lies == big.Above {
		low = math.Nextafter(low, math.Inf(-1))
	}
	high, lies := hi.Float64()
	if lies == big.Below {
		high = math.Nextafter(high, math.Inf(1))
	}
	return ends{low, high}
}

func end(f float64) *big.Float { return wide().SetFloat64(f) }

func (s ends) minus(t ends) ends {
	return around(less(end(s.lo), end(t.hi)), less(end(s.hi), end(t.lo)))
}

// times is Mul of chapter 8: 0 times infinity is 0.
func (s ends) times(t ends) ends {
	var lo, hi *big.Float
	for _, x := range []float64{s.lo, s.hi} {
		for _, y := range []float64{t.lo, t.hi} {
			p := wide()
			if x != 0 && y != 0 {
				p.Mul(end(x), end(y))
			}
			if lo == nil || p.Cmp(lo) < 0 {
				lo = p
			}
			if hi == nil || p.Cmp(hi) > 0 {
				hi = p
			}
		}
	}
	return around(lo, hi)
}

// wantedWild is P1007.
func wantedWild(t three) api.Verdict {
	s := func(b int) ends { return ends{value(b), value(b)} }
	left := s(t.a.X).minus(s(t.c.X)).times(s(t.b.Y).minus(s(t.c.Y)))
	right := s(t.a.Y).minus(s(t.c.Y)).times(s(t.b.X).minus(s(t.c.X)))
	x := left.minus(right)
	switch {
	case x.lo > 0:
		return api.Verdict{Sign: 1, Stage: api.StageSpan}
	case x.hi < 0:
		return api.Verdict{Sign: -1, Stage: api.StageSpan}
	case x.lo == 0 && x.hi == 0:
		return api.Verdict{Sign: 0, Stage: api.StageSpan}
	}
	return api.Verdict{Sign: exactly(t).Sign(), Stage: api.StageDyadic}
}
