package measure

import (
	"math"
	"slices"
	"sync"
	"testing"

	"plumb/api"
)

func same(x, y api.Num) bool {
	return x.Neg == y.Neg && x.Exp == y.Exp && slices.Equal(x.Mag, y.Mag)
}

// row is a call of Farther (four points) or Angle (three), and what it must tell.
type row struct {
	l    points
	want api.Verdict
}

func (w row) asked() asked {
	if len(w.l) == 4 {
		return fartherAsked()
	}
	return angleAsked()
}

func holdRows(t *testing.T, rows []row) {
	for i, w := range rows {
		a := w.asked()
		if v, e := a.sign(w.l); v != w.want || e != api.OK {
			t.Errorf("%s: row %d: %v, error %d; want %v", a.promise, i, v, e, w.want)
		}
	}
}

func TestExamples(t *testing.T) {
	o, x, y := at(0, 0), at(1, 0), at(0, 1)
	if n, e := Square(o, at(3, 4)); !same(n, api.Num{Mag: []int{25}}) || e != api.OK {
		t.Errorf("P1301: Square: %v, error %d", n, e)
	}
	if n, e := Dot(x, o, y); !same(n, api.Num{}) || e != api.OK {
		t.Errorf("P1301: Dot: %v, error %d", n, e)
	}
	holdRows(t, []row{
		{points{o, at(3, 4), o, at(5, 0)}, api.Verdict{Sign: 0, Stage: api.StageExpansion}},
		{points{o, at(3, 4), o, at(4, 4)}, api.Verdict{Sign: -1, Stage: api.StageFilter}},
		{points{o, at(0x1p-600, 0), o, at(0x1p-601, 0)}, api.Verdict{Sign: 1, Stage: api.StageDyadic}},
		{points{x, o, y}, api.Verdict{Sign: 0, Stage: api.StageExpansion}},
		{points{x, o, at(-1, 1)}, api.Verdict{Sign: -1, Stage: api.StageFilter}},
	})
	for i, w := range []struct {
		b    api.Point
		want bool
	}{{at(1, 1), true}, {o, true}, {at(3, 3), false}} {
		if got, e := Between(o, w.b, at(2, 2)); got != w.want || e != api.OK {
			t.Errorf("P1304: example %d: %v, error %d", i, got, e)
		}
	}
}

func by(stage int) func(sign int) api.Verdict {
	return func(sign int) api.Verdict { return api.Verdict{Sign: sign, Stage: stage} }
}

func TestStagesOfFarther(t *testing.T) { // worked out by hand
	o, tiny, far := at(0, 0), at(0x1p-1074, 0), at(0x1p1023, 0)
	filter, sum, span, exact := by(api.StageFilter), by(api.StageExpansion), by(api.StageSpan), by(api.StageDyadic)
	holdRows(t, []row{
		{points{o, at(2, 0), o, at(1, 0)}, filter(1)},
		{points{o, at(0x1p-150, 0), o, o}, filter(1)},
		{points{at(minusZero(), 0), at(0, minusZero()), o, at(0, 0x1p-150)}, filter(-1)}, // -0 is 0, and tame
		{points{o, o, o, o}, sum(0)},                                                     // 0 is not greater than 0
		{points{o, at(1+0x1p-52, 0), o, at(1, 0)}, sum(1)},                               // too near for the filter
		{points{o, at(1, 0x1p-149), o, at(1, 0)}, sum(1)},                                // both squares are one float
		{points{at(0x1p-149, 0), at(1, 0), o, at(1, 0)}, sum(-1)},                        // both differences are
		{points{o, at(0x1p150, 0), o, at(1, 0)}, span(1)},                                // the least that is wild
		{points{o, far, o, at(1, 0)}, span(1)},                                           // the first square is beyond all floats
		{points{o, at(0x1p200, 0), o, at(0x1p200, 0)}, span(0)},                          // the squares are floats
		{points{tiny, tiny, far, far}, span(0)},                                          // both are 0
		{points{o, far, o, far}, exact(0)},                                               // both are beyond all floats
		{points{o, far, far, at(0, 1)}, exact(-1)},                                       // likewise
		{points{tiny, at(1, 0), o, at(1, 0)}, exact(-1)},                                 // the interval around 1 - 2^-1074 has 1 in it
	})
}

func TestStagesOfAngle(t *testing.T) { // worked out by hand
	o, tiny, far := at(0, 0), at(0x1p-1074, 0), at(0x1p1023, 0)
	filter, sum, span, exact := by(api.StageFilter), by(api.StageExpansion), by(api.StageSpan), by(api.StageDyadic)
	holdRows(t, []row{
		{points{at(3, 0), o, at(1, 7)}, filter(1)},
		{points{at(1, 1), o, at(-1, 0x1p-150)}, filter(-1)},
		{points{at(1, 1), o, at(1, -1)}, sum(0)},                // a right one
		{points{at(1, 1), o, at(1, -1+0x1p-53)}, sum(1)},        // a little less
		{points{at(1, 1), o, at(1, -1-0x1p-52)}, sum(-1)},       // a little more
		{points{at(1, 1), at(0x1p-100, 0), at(1, -1)}, sum(-1)}, // the rounded differences make it a right one
		{points{o, o, at(1, 2)}, sum(0)},                        // a is b's place
		{points{at(1, 2), at(3, 4), at(3, 4)}, sum(0)},          // c is
		{points{at(1, 0), o, at(0x1p150, 1)}, span(1)},          // the least that is wild
		{points{at(1, 0), o, at(-0x1p1000, 1)}, span(-1)},
		{points{far, o, at(-0x1p1023, 1)}, span(-1)},                           // below all floats
		{points{far, o, at(0, 0x1p1023)}, span(0)},                             // both products are 0
		{points{far, at(0x1p1023, 1), at(5, 1)}, span(0)},                      // likewise
		{points{tiny, tiny, far}, span(0)},                                     // a is b's place
		{points{tiny, o, tiny}, exact(1)},                                      // the product is too small for a float
		{points{at(0x1p1023, 0x1p1023), o, at(0x1p1023, -0x1p1023)}, exact(0)}, // the products are beyond all floats, and below them
		{points{at(0x1p1023, 0x1p1023), o, at(0x1p1023, -top)}, exact(-1)},     // likewise
		{points{at(1, 1), tiny, at(1, -1)}, exact(-1)},                         // as with 2^-100
	})
}

func minusZero() float64 { return math.Copysign(0, -1) }

func TestOfTheBound(t *testing.T) { // D and 2^-49 ⊗ S, worked out by hand
	farther := func(q, r float64) points { // Q is 2^50 + q, R 2^50 + r: the second squares, rounded, fill up the first ones
		return points{at(0, 0), at(0x1p25, math.Sqrt(q)), at(0, 0), at(0x1p25-1, math.Sqrt(r+0x1p26-1))}
	}
	angle := func(p, q float64) points { return points{at(0x1p50+p, -0x1p50-q), at(0, 0), at(1, 1)} }
	for i, x := range []struct {
		p, q  float64
		stage int
	}{
		{2, -2, api.StageExpansion},       // both are 4: that is not enough
		{1.75, -2.25, api.StageFilter},    // D is 4, the bound 4 - 2^-50
		{2.25, -2, api.StageFilter},       // D is 4.25, the bound 4
		{1.75, -2, api.StageExpansion},    // D is 3.75, the bound 4
		{2.25, -1.75, api.StageExpansion}, // D is 4, the bound 4 + 2^-49
		{1, -1, api.StageExpansion},
		{3, -3, api.StageFilter},
	} {
		want := api.Verdict{Sign: 1, Stage: x.stage}
		back := api.Verdict{Sign: -1, Stage: x.stage}
		f, a := farther(x.p, x.q), angle(x.p, x.q)
		if v, e := Farther(f[0], f[1], f[2], f[3]); v != want || e != api.OK {
			t.Errorf("P1302: row %d: %v, error %d; want %v", i, v, e, want)
		}
		if v, e := Farther(f[2], f[3], f[0], f[1]); v != back || e != api.OK {
			t.Errorf("P1302: row %d, exchanged: %v, error %d; want %v", i, v, e, back)
		}
		if v, e := Angle(a[0], a[1], a[2]); v != want || e != api.OK {
			t.Errorf("P1303: row %d: %v, error %d; want %v", i, v, e, want)
		}
		if v, e := Angle(at(-1, -1), a[1], a[0]); v != back || e != api.OK {
			t.Errorf("P1303: row %d, turned: %v, error %d; want %v", i, v, e, back)
		}
	}
}

func TestWhatIsNoPointIsRefused(t *testing.T) {
	bad := []int{api.Inf, api.Inf | minus0, api.NaN, api.Inf + 1, -1, math.MaxInt, api.NaN | minus0}
	r := seeded(6)
	for _, l := range []points{make(points, 4), drawn(r, 4, 0, 3), drawn(r, 4, -1074, 1023), equalWays(r, 0, 0), once(r, 4, 0, 0)} {
		for i := range 8 {
			for k, b := range bad {
				c := l.flat()
				c[i] = b
				if also := (i + k) % 8; also > i {
					c[also] = b
				}
				refused(t, fromFlat(c), i/2)
			}
		}
	}
}

// refused holds all calls to it that take the point of that number, which is none.
func refused(t *testing.T, l points, bad int) {
	if v, e := Farther(l[0], l[1], l[2], l[3]); v != (api.Verdict{}) || e != api.ErrFinite {
		t.Errorf("P1302: Farther(%x): %v, error %d", l, v, e)
	}
	if bad > 2 {
		return
	}
	if v, e := Angle(l[0], l[1], l[2]); v != (api.Verdict{}) || e != api.ErrFinite {
		t.Errorf("P1303: Angle(%x): %v, error %d", l[:3], v, e)
	}
	if n, e := Dot(l[0], l[1], l[2]); !same(n, api.Num{}) || e != api.ErrFinite {
		t.Errorf("P1301: Dot(%x): %v, error %d", l[:3], n, e)
	}
	if got, e := Between(l[0], l[1], l[2]); got || e != api.ErrFinite {
		t.Errorf("P1304: Between(%x): %v, error %d", l[:3], got, e)
	}
	if bad > 1 {
		return
	}
	if n, e := Square(l[0], l[1]); !same(n, api.Num{}) || e != api.ErrFinite {
		t.Errorf("P1301: Square(%x): %v, error %d", l[:2], n, e)
	}
}

func TestAnswersHangOnArgumentsAlone(t *testing.T) {
	for _, a := range both() {
		l := samples(8, a)
		first := make([]api.Verdict, len(l))
		for i, p := range l {
			first[i], _ = a.sign(p)
		}
		var all sync.WaitGroup
		for range 4 {
			all.Go(func() {
				for i := range l {
					k := len(l) - 1 - i
					if v, e := a.sign(l[k]); v != first[k] || e != api.OK {
						t.Errorf("%s: %s(%x): %v, then %v", a.promise, a.name, l[k], first[k], v)
					}
				}
			})
		}
		all.Wait()
	}
}
