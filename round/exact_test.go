package round

import (
	"math/big"
	"testing"

	"plumb/api"
)

// answer is what a call of P402 told.
type answer struct {
	b     int
	other bool
	e     api.Errno
}

func told(b int, other bool, e api.Errno) answer { return answer{b, other, e} }

// unsigned is a pattern, but 0 for the nought that has a sign.
func unsigned(b, nought int) int {
	if b == nought {
		return 0
	}
	return b
}

// check holds a call of P402 in both widths to the library's number.
func check(t *testing.T, what string, x *big.Float, way int, got, got32 answer) {
	t.Helper()
	_, lies := x.Float64()
	want := answer{b: unsigned(rounded64(x, way), minus0), other: lies != big.Exact}
	if got != want {
		t.Errorf("P401, P402: %s, %s in way %d: %+v, want %+v", what, x.Text('x', 20), way, got, want)
	}
	_, lies = x.Float32()
	want = answer{b: unsigned(rounded32(x, way), minus032), other: lies != big.Exact}
	if got32 != want {
		t.Errorf("P401, P402: %s32, %s in way %d: %+v, want %+v", what, x.Text('x', 20), way, got32, want)
	}
}

func TestTo(t *testing.T) {
	for _, x := range samples(1) {
		exact := wide(x)
		for _, way := range allWays() {
			check(t, "To", exact, way, told(To(x, way)), told(To32(x, way)))
		}
	}
}

func TestQuot(t *testing.T) {
	l, r := samples(2), seeded(3)
	divisors := []api.Num{num(1, 0), num(-1, 1), num(3, 0), num(-3, -5), num(1<<40+1, -3), num(7, 1000), num(5, -1000), num(1, -1075), num(-1, 1075), ones(0), minus(ones(-60000)), random(r, 53, 0), random(r, 200, -50), random(r, 60000, -30000)}
	for i, a := range l {
		for j, b := range []api.Num{divisors[i%len(divisors)], divisors[(i/len(divisors))%len(divisors)], l[(i*31+7)%len(l)]} {
			if len(b.Mag) == 0 {
				continue
			}
			way := (i + j) % 4
			check(t, "Quot", wideQuotient(a, b), way, told(Quot(a, b, way)), told(Quot32(a, b, way)))
		}
	}
}

// Quotients that are floats, lie in the middle of two, or just beside that.
func TestQuotOfProducts(t *testing.T) {
	r := seeded(4)
	for range 300 {
		q, b := random(r, 1+r.IntN(56), r.IntN(2300)-1200), random(r, 1+r.IntN(300), r.IntN(100))
		p := new(big.Int).Mul(whole(q), whole(b))
		for _, beside := range []int64{0, 1, -1} {
			a := form(new(big.Int).Add(p, big.NewInt(beside)), q.Exp+b.Exp)
			for _, way := range allWays() {
				check(t, "Quot", wideQuotient(a, b), way, told(Quot(a, b, way)), told(Quot32(a, b, way)))
			}
		}
	}
}

func TestRoot(t *testing.T) {
	for _, x := range samples(5) {
		if x.Neg {
			continue
		}
		exact := wideRoot(x)
		for _, way := range allWays() {
			check(t, "Root", exact, way, told(Root(x, way)), told(Root32(x, way)))
		}
	}
}

// Roots that are floats, lie in the middle of two, or just beside that.
func TestRootOfSquares(t *testing.T) {
	r := seeded(6)
	for i := range 600 {
		s := random(r, 1+r.IntN(56), []int{r.IntN(2200) - 1100, r.IntN(300) - 170, r.IntN(40) - 20}[i%3])
		square := new(big.Int).Mul(whole(s), whole(s))
		for _, beside := range []int64{0, 1, -1} {
			x := form(new(big.Int).Add(square, big.NewInt(beside)), 2*s.Exp)
			for _, way := range allWays() {
				check(t, "Root", wideRoot(x), way, told(Root(x, way)), told(Root32(x, way)))
			}
		}
	}
	for _, way := range allWays() { // the least bit of a long number is enough
		for _, x := range between(60000, 2) {
			check(t, "Root", wideRoot(x), way, told(Root(x, way)), told(Root32(x, way)))
		}
	}
}

func TestExamplesOfExactNumbers(t *testing.T) {
	for i, x := range []struct{ got, want answer }{
		{told(To(num(1<<53+1, 0), api.Near)), answer{b: of(0x1p53), other: true}},
		{told(To(num(1<<53+1, 0), api.Up)), answer{b: of(0x1p53 + 2), other: true}},
		{told(To(num(1, 1024), api.Near)), answer{b: api.Inf, other: true}},
		{told(To(num(1, 1024), api.Zero)), answer{b: top, other: true}},
		{told(To(num(1, 1024), api.Down)), answer{b: top, other: true}},
		{told(To(num(-1, 1024), api.Down)), answer{b: minusInf, other: true}},
		{told(To(num(1, -1075), api.Near)), answer{other: true}},
		{told(To(num(1, -1075), api.Up)), answer{b: 1, other: true}},
		{told(To(num(-1, -1075), api.Near)), answer{other: true}},
		{told(To(num(-1, -1075), api.Down)), answer{b: minus0 + 1, other: true}},
		{told(Quot(num(1, 0), num(3, 0), api.Near)), answer{b: 0x3FD5555555555555, other: true}},
		{told(Quot(num(1, 0), api.Num{}, api.Near)), answer{e: api.ErrDivide}},
		{told(Root(num(2, 0), api.Near)), answer{b: 0x3FF6A09E667F3BCD, other: true}},
		{told(Root(num(-1, 0), 0)), answer{e: api.ErrNegative}},
		{told(To(num(1, 0), 4)), answer{e: api.ErrArg}},
		{told(To(numOf(top), api.Up)), answer{b: top}},
		{told(To(between(1024, 970)[1], api.Near)), answer{b: api.Inf, other: true}},
		{told(To(between(1024, 970)[1], api.Zero)), answer{b: top, other: true}},
		{told(To32(between(128, 103)[1], api.Near)), answer{b: api.Inf32, other: true}},
		{told(To32(num(-1, 128), api.Zero)), answer{b: top32 | minus032, other: true}},
		{told(To32(num(3, -151), api.Near)), answer{b: 1, other: true}},
		{told(Root(num(9, 4), api.Up)), answer{b: of(12)}},
	} {
		if x.got != x.want {
			t.Errorf("P401, P402: example %d: %+v, want %+v", i, x.got, x.want)
		}
	}
	for _, way := range allWays() {
		if told(To(num(1, 0), way)) != (answer{b: 0x3FF0000000000000}) || told(To(api.Num{}, way)) != (answer{}) || told(Quot(api.Num{}, num(-3, 0), way)) != (answer{}) || told(Root(api.Num{}, way)) != (answer{}) || told(Quot32(api.Num{}, num(-3, 0), way)) != (answer{}) {
			t.Errorf("P402: 1 and 0 in way %d", way)
		}
	}
}
