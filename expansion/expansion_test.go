package expansion

import (
	"math"
	"math/big"
	"math/rand/v2"
	"slices"
	"testing"

	"plumb/api"
)

// rises tells of finite floats other than 0, by their values, whether the first one lies below the lowest bit of the second one.
func rises(a, b int) bool {
	x, unit := math.Abs(value(b)), math.Ldexp(1, least)
	for x > unit && math.Mod(x, 2*unit) == 0 { // the greatest power of 2 that goes into it
		unit *= 2
	}
	return math.Abs(value(a)) < unit
}

func TestValid(t *testing.T) {
	for i, x := range []struct {
		e    []int
		want bool
	}{
		{nil, true}, {[]int{}, true}, {list(0x1p-60, 1), true}, {list(1, 0x1p-60), false}, {list(1, 1.5), false}, {list(1, 2), true}, {list(0), false},
		{[]int{minus0}, false}, {list(1, 0, 2), false}, {[]int{of(1), minus0}, false}, {[]int{0, of(1)}, false}, {list(1, 1), false}, {list(1, -1), false}, {list(-1, 2), true}, {list(1, -2), true}, {list(1, 3), false}, {list(3, 4), true}, {list(3, 2), false}, {list(0.75, 1, 6), true}, {list(0.75, 1, 5), false},
		{[]int{api.Inf}, false}, {[]int{minusInf}, false}, {[]int{api.NaN}, false}, {[]int{of(1), api.Inf}, false}, {[]int{api.Inf, of(1)}, false}, {[]int{-1}, false}, {[]int{of(1), math.MaxInt}, false},
		{[]int{1, 2}, true}, {[]int{1, 3}, false}, {[]int{1, 1}, false}, {[]int{1, 2 | minus0, 4}, true}, {[]int{1<<52 - 1, 1 << 52}, true}, {[]int{1 << 52, 1<<52 + 1}, false},
		{[]int{of(0x1p970), top}, true}, {[]int{of(0x1p971), top}, false}, {[]int{of(0x1p971) - 1, top | minus0}, true},
		{ones(least, highest), true}, {append(ones(least, highest), of(0x1p1023)), false}, {make([]int, api.MaxList+1), false}, {slices.Repeat(list(1), api.MaxList), false}, {slices.Repeat(ones(least, highest), 2), false},
	} {
		if Valid(x.e) != x.want {
			t.Errorf("P701: Valid of list %d, %#x, is %v", i, x.e[:min(len(x.e), 4)], !x.want)
		}
	}
}

func TestValidPairs(t *testing.T) {
	r := seeded(1)
	seen := [2]int{}
	for range 4000 {
		s := shapes()[r.IntN(len(shapes()))]
		a := s.float(r, nil)
		b := s.float(r, []int{a})
		if value(a) == 0 || value(b) == 0 {
			continue
		}
		want := rises(a, b)
		if want {
			seen[1]++
		} else {
			seen[0]++
		}
		if Valid([]int{a, b}) != want {
			t.Fatalf("P701: Valid of %#x, %#x is %v", a, b, !want)
		}
	}
	if min(seen[0], seen[1]) < 300 {
		t.Errorf("P701: %v pairs that are none and that are: too few to tell", seen)
	}
}

func TestOneFaultMakesAListInvalid(t *testing.T) {
	r := seeded(2)
	for _, x := range samples(3, 20) {
		if !Valid(x.e) {
			t.Fatalf("P701: %#x is an expansion", x.e)
		}
		if len(x.e) == 0 {
			continue
		}
		at := r.IntN(len(x.e))
		for _, bad := range []int{0, minus0, api.Inf, minusInf, api.NaN, -1, x.e[at], x.e[at] ^ minus0} {
			if l := slices.Insert(slices.Clone(x.e), at, bad); Valid(l) {
				t.Errorf("P701: %#x put at %d: still valid", bad, at)
			}
		}
	}
}

func TestSteps(t *testing.T) {
	for _, c := range calls() {
		exact, not := 0, 0
		for _, x := range samples(4, 150) {
			h, e := c.got(x)
			want := c.want(x)
			if want.bad {
				not++
				if h != nil || e != api.ErrExact {
					t.Fatalf("%s, P702: of %#x: %#x, error %d; want ErrExact", c.name, x, h, e)
				}
				continue
			}
			exact++
			if !slices.Equal(h, want.h) || e != api.OK {
				t.Fatalf("%s: of %#x: %#x, error %d; want %#x", c.name, x, h, e, want.h)
			}
		}
		if exact < 500 || not < 10 && c.name != "P708: Compress" {
			t.Errorf("%s: of the samples %d are exact, %d not: too few to tell", c.name, exact, not)
		}
	}
}

func TestAnswersAreExpansionsOfTheExactValue(t *testing.T) {
	values := map[string]func(x given) *big.Int{ // in units of 2^-2148
		"P704: Grow":     func(x given) *big.Int { return units(whole(append(slices.Clone(x.e), x.b))) },
		"P705: Sum":      func(x given) *big.Int { return units(whole(append(slices.Clone(x.e), x.f...))) },
		"P705: Diff":     func(x given) *big.Int { return units(new(big.Int).Sub(whole(x.e), whole(x.f))) },
		"P706: Scale":    func(x given) *big.Int { return new(big.Int).Mul(whole(x.e), whole([]int{x.b})) },
		"P707: Product":  func(x given) *big.Int { return new(big.Int).Mul(whole(x.e), whole(x.f)) },
		"P708: Compress": func(x given) *big.Int { return units(whole(x.e)) },
	}
	for _, c := range calls() {
		for _, x := range samples(5, 100) {
			h, e := c.got(x)
			if e != api.OK {
				continue
			}
			want := values[c.name](x)
			if !Valid(h) {
				t.Fatalf("%s, P702: of %#x: %#x is no expansion", c.name, x, h)
			}
			if units(whole(h)).Cmp(want) != 0 {
				t.Fatalf("%s, P711: of %#x: %#x is another number", c.name, x, h)
			}
			if n, e := Exact(h); !equal(n, num(want, 2*least)) || e != api.OK {
				t.Fatalf("%s, P711: Exact of %#x: %v, error %d", c.name, h, n, e)
			}
			if s, e := Sign(h); s != want.Sign() || e != api.OK {
				t.Fatalf("%s, P711: Sign of %#x: %d, error %d", c.name, h, s, e)
			}
		}
	}
}

func TestLongest(t *testing.T) {
	all := ones(least, highest)
	if h, e := Compress(all); h != nil || e != api.ErrExact { // their sum rounds to 2^1024
		t.Errorf("P708: Compress of all bits: %#x, error %d", h, e)
	}
	most := ones(least, highest-1)
	if h, e := Compress(most); e != api.OK || !slices.Equal(h, []int{minus0 | 1, of(0x1p1023)}) {
		t.Errorf("P708: Compress of all bits but one: %#x, error %d", h, e)
	}
	if h, e := Diff(most, most); e != api.OK || len(h) != 0 {
		t.Errorf("P705: Diff of all bits: %d floats, error %d", len(h), e)
	}
	if h, e := Sum(nil, most); e != api.OK || whole(h).Cmp(whole(most)) != 0 {
		t.Errorf("P705: Sum of all bits: %d floats, error %d", len(h), e)
	}
	if n, e := Exact(all); e != api.OK || !equal(n, num(whole(all), least)) {
		t.Errorf("P709: Exact of all bits: error %d", e)
	}
}

// estimate adds the values up as floats, each sum by itself.
func estimate(e []int) int {
	s := 0.0
	for _, b := range e {
		s += value(b)
	}
	return of(s)
}

func TestLooks(t *testing.T) {
	for _, x := range samples(6, 100) {
		sum := whole(x.e)
		if s, e := Sign(x.e); s != sum.Sign() || e != api.OK {
			t.Errorf("P709: Sign of %#x: %d, error %d", x.e, s, e)
		}
		if b, e := Estimate(x.e); b != estimate(x.e) || e != api.OK {
			t.Errorf("P709: Estimate of %#x: %#x, error %d", x.e, b, e)
		}
		if n, e := Exact(x.e); !equal(n, num(sum, least)) || e != api.OK {
			t.Errorf("P709: Exact of %#x: %v, error %d", x.e, n, e)
		}
	}
	for _, x := range []struct {
		e    []int
		want int
	}{
		{nil, 0}, {list(-0x1p-106+0x1p-159, -0x1p-53+0x1p-106, -1+0x1p-53, 1), 0}, // what is below the 1 rounds to -1
		{[]int{of(0x1p970), top}, api.Inf}, {[]int{minus0 | of(0x1p970), minus0 | top}, minusInf}, {[]int{of(0x1p970) - 1, top}, top},
		{list(0x1p-53, 1), of(1)}, {list(0x1p-54, 0x1p-53, 1), of(1 + 0x1p-52)}, {list(-0x1p-54, -1), of(-1)},
	} {
		if b, e := Estimate(x.e); b != x.want || e != api.OK {
			t.Errorf("P709: Estimate of %#x: %#x, error %d; want %#x", x.e, b, e, x.want)
		}
	}
}

// wantParts takes the nearest floats off a number, as math/big rounds: false, if one is infinite or 0.
func wantParts(x *big.Int, e int) ([]int, bool) {
	left := new(big.Float).SetPrec(70000).SetInt(x)
	left.SetMantExp(left, e)
	var l []int
	for left.Sign() != 0 {
		f, _ := left.Float64()
		if f == 0 || math.IsInf(f, 0) {
			return nil, false
		}
		l = append([]int{of(f)}, l...)
		left.Sub(left, big.NewFloat(f))
	}
	return l, true
}

// wholeOf is a whole number of at most n bits, with runs of zeros and ones.
func wholeOf(r *rand.Rand, n int) *big.Int {
	x := new(big.Int)
	for left := 1 + r.IntN(n); left > 0; {
		run := min(1+r.IntN(60), left)
		x.Lsh(x, uint(run))
		switch r.IntN(3) {
		case 0:
			x.Or(x, big.NewInt(int64(r.Uint64()&(1<<run-1))))
		case 1:
			x.Or(x, big.NewInt(1<<run-1))
		}
		left -= run
	}
	if r.IntN(2) == 0 {
		x.Neg(x)
	}
	return x
}

func holdsParts(t *testing.T, x *big.Int, e int) bool {
	t.Helper()
	n := num(x, e)
	l, errno := Parts(n)
	want, ok := wantParts(x, e)
	if !ok {
		if l != nil || errno != api.ErrExact {
			t.Errorf("P710: Parts of a number of %d bits times 2^%d: %#x, error %d; want ErrExact", x.BitLen(), e, l, errno)
		}
		return false
	}
	if !slices.Equal(l, want) || errno != api.OK || !Valid(l) {
		t.Errorf("P710: Parts of a number of %d bits times 2^%d: %#x, error %d; want %#x", x.BitLen(), e, l, errno, want)
	}
	if again, _ := Exact(l); !equal(again, n) {
		t.Errorf("P711: Exact of Parts of a number of %d bits times 2^%d is another number", x.BitLen(), e)
	}
	return true
}

func TestParts(t *testing.T) {
	r := seeded(7)
	exact, not := 0, 0
	for range 1500 {
		for _, s := range []struct{ bits, low, high int }{{200, -100, 100}, {2200, least - 20, 0}, {120, 880, 990}, {120, least - 3, least + 30}, {2090, least, least + 9}, {60000, least - 60000, 900}, {90, -5000, 5000}} {
			if holdsParts(t, wholeOf(r, s.bits), s.low+r.IntN(s.high-s.low)) {
				exact++
			} else {
				not++
			}
		}
	}
	if exact < 1000 || not < 1000 {
		t.Errorf("P710: of the samples %d are exact, %d not: too few to tell", exact, not)
	}
}

// powers adds powers of 2, and takes others off, in units of 2^-1080.
func powers(plus, minus []int) *big.Int {
	x := new(big.Int)
	for _, e := range plus {
		x.Add(x, new(big.Int).Lsh(big.NewInt(1), uint(e+1080)))
	}
	for _, e := range minus {
		x.Sub(x, new(big.Int).Lsh(big.NewInt(1), uint(e+1080)))
	}
	return x
}

func TestPartsAtTheEdges(t *testing.T) {
	for i, x := range []struct {
		plus, minus []int
		exact       bool
	}{
		{nil, nil, true}, {[]int{1023}, nil, true}, {[]int{1024}, nil, false}, {[]int{2000}, nil, false}, {[]int{1024}, []int{971}, true},
		{[]int{1024}, []int{970}, false}, {[]int{1024}, []int{970, 0}, true}, {[]int{1024}, []int{970, least}, true}, {[]int{1024}, []int{970, least - 1}, false}, {[]int{1024}, []int{970, 1}, true}, {[]int{1024, 1}, []int{970}, false},
		{[]int{least}, nil, true}, {[]int{least - 1}, nil, false}, {[]int{least, least - 1}, nil, false}, {[]int{least - 1, least - 2}, nil, false}, {[]int{0, least}, nil, true}, {[]int{0, least - 1}, nil, false}, {[]int{0}, []int{least - 2}, false}, {[]int{53, 0}, nil, true}, {[]int{54, 1, 0}, nil, true},
	} {
		if holdsParts(t, powers(x.plus, x.minus), -1080) != x.exact || holdsParts(t, powers(x.minus, x.plus), -1080) != x.exact {
			t.Errorf("P710: edge %d: ErrExact is wrong", i)
		}
	}
	far := []api.Num{{Mag: []int{1}, Exp: -api.MaxExp}, {Mag: []int{1}, Exp: api.MaxExp}, {Neg: true, Mag: slices.Repeat([]int{1<<30 - 1}, api.MaxDigits), Exp: api.MaxExp}, {Mag: slices.Repeat([]int{1<<30 - 1}, api.MaxDigits), Exp: -api.MaxExp}}
	for _, x := range far {
		if l, e := Parts(x); l != nil || e != api.ErrExact {
			t.Errorf("P710: Parts of %d digits times 2^%d: %#x, error %d", len(x.Mag), x.Exp, l, e)
		}
	}
}
