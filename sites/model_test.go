package sites

import (
	"math"
	"math/rand/v2"
	"slices"
	"testing"

	"plumb/api"
)

// model is a set by the document's words: a list that is gone through from its beginning each time.
type model []modelSite

type modelSite struct {
	p    api.Point
	gone bool
}

func finite(p api.Point) bool { return p.X&api.Inf != api.Inf && p.Y&api.Inf != api.Inf }

func (m model) find(p api.Point) (int, bool) {
	for id, x := range m {
		if !x.gone && finite(p) && before(x.p, p) == 0 {
			return id, true
		}
	}
	return 0, false
}

func (m *model) add(p api.Point) (int, api.Errno) {
	if !finite(p) {
		return 0, api.ErrFinite
	}
	if id, ok := m.find(p); ok {
		return id, api.ErrSame
	}
	if p.X == minus0 {
		p.X = 0
	}
	if p.Y == minus0 {
		p.Y = 0
	}
	*m = append(*m, modelSite{p: p})
	return len(*m) - 1, api.OK
}

func (m model) drop(id int) api.Errno {
	if id < 0 || id >= len(m) || m[id].gone {
		return api.ErrSite
	}
	m[id].gone = true
	return api.OK
}

func (m model) alive() []int {
	l := []int{}
	for id, x := range m {
		if !x.gone {
			l = append(l, id)
		}
	}
	return l
}

func (m model) order() []int {
	l := []int{}
	for _, id := range m.alive() {
		k := 0
		for k < len(l) && before(m[l[k]].p, m[id].p) < 0 {
			k++
		}
		l = slices.Insert(l, k, id)
	}
	return l
}

// line looks at all threes.
func (m model) line() bool {
	l := m.alive()
	for i, a := range l {
		for k, b := range l[:i] {
			for _, c := range l[:k] {
				if turn(m[a].p, m[b].p, m[c].p) != 0 {
					return false
				}
			}
		}
	}
	return true
}

// edge is the least coordinate, or, with the sign -1, the greatest one.
func edge(l []int, sign int) int {
	return slices.MinFunc(l, func(p, q int) int { return sign * less(p, q).Sign() })
}

func (m model) box() (api.Point, api.Point, api.Errno) {
	var x, y []int
	for _, id := range m.alive() {
		x, y = append(x, m[id].p.X), append(y, m[id].p.Y)
	}
	if len(x) == 0 {
		return api.Point{}, api.Point{}, api.ErrNone
	}
	return api.Point{X: edge(x, 1), Y: edge(y, 1)}, api.Point{X: edge(x, -1), Y: edge(y, -1)}, api.OK
}

func (m model) near(p api.Point) (int, api.Errno) {
	l := m.alive()
	switch {
	case !finite(p):
		return 0, api.ErrFinite
	case len(l) == 0:
		return 0, api.ErrNone
	}
	best := l[0]
	for _, id := range l {
		if far(p, m[id].p).Cmp(far(p, m[best].p)) < 0 {
			best = id
		}
	}
	return best, api.OK
}

func (m model) tell() told {
	r := told{Given: len(m), Alive: m.alive(), Gone: []int{}, Order: m.order(), Points: []api.Point{}, Line: m.line()}
	r.Len = len(r.Alive)
	r.Low, r.High, r.BoxError = m.box()
	r.At, r.AtErrors, r.Found, r.IsFound = []api.Point{}, []api.Errno{}, []int{}, []bool{}
	for id, x := range m {
		r.Points = append(r.Points, x.p)
		if x.gone {
			r.Gone = append(r.Gone, id)
			r.At, r.AtErrors = append(r.At, api.Point{}), append(r.AtErrors, api.ErrSite)
		} else {
			r.At, r.AtErrors = append(r.At, x.p), append(r.AtErrors, api.OK)
		}
		n, ok := m.find(x.p)
		r.Found, r.IsFound = append(r.Found, n), append(r.IsFound, ok)
	}
	r.BelowError, r.AboveError, r.Second = api.ErrSite, api.ErrSite, api.ErrSite
	return r
}

// places are few coordinates, so that many points are one place, lie on one line, are as near as each other.
func places() [][]float64 {
	minus := math.Copysign(0, -1)
	return [][]float64{
		{0, minus, 1, -1},
		{0, 3, 4, -3, -4, 5, -5, minus},
		{0.1, 0.2, 0.3, 0.1 + 0.2, 0.7, 0.8},
		{1, 1 + 0x1p-52, 1 + 0x1p-51, 1 - 0x1p-53, 2},
		{0, minus, tiny, -tiny, 2 * tiny, 3 * tiny},
		{top, -top, math.Nextafter(top, 0), 0, 0x1p1000},
		{0, minus, tiny, 0x1p-600, 0x1p-150, 1, 0x1p150, 0x1p600, top, -top, -1},
		{0, 1, 2, math.NaN(), math.Inf(1), math.Inf(-1)},
	}
}

func drawn(r *rand.Rand, from []float64) api.Point {
	p := at(from[r.IntN(len(from))], from[r.IntN(len(from))])
	if r.IntN(3) == 0 { // on a line
		p.Y = p.X
	}
	return p
}

// pair is a set, and what the document's words make of it.
type pair struct {
	s *Set
	m model
}

// step does one thing to both.
func (x *pair) step(t *testing.T, r *rand.Rand, from []float64) {
	t.Helper()
	if r.IntN(5) < 3 {
		p := drawn(r, from)
		id, e := x.s.Add(p)
		if want, wantError := x.m.add(p); id != want || e != wantError {
			t.Fatalf("P1501, P1502: Add(%#x): %d, error %d; want %d, %d", p, id, e, want, wantError)
		}
		return
	}
	id := r.IntN(len(x.m)+3) - 1
	if e, want := x.s.Drop(id), x.m.drop(id); e != want {
		t.Fatalf("P1504: Drop(%d): error %d; want %d", id, e, want)
	}
}

// look holds both against each other.
func (x *pair) look(t *testing.T, r *rand.Rand, from []float64) {
	t.Helper()
	if got, want := tell(x.s), x.m.tell(); !alike(got, want) {
		t.Fatalf("P1501 to P1509: told %#v; want %#v", got, want)
	}
	p := drawn(r, from)
	id, ok := x.s.Find(p)
	if want, wantOK := x.m.find(p); id != want || ok != wantOK {
		t.Fatalf("P1505: Find(%#x): %d, %v; want %d, %v", p, id, ok, want, wantOK)
	}
	id, e := x.s.Near(p)
	if want, wantError := x.m.near(p); id != want || e != wantError {
		t.Fatalf("P1508: Near(%#x): %d, error %d; want %d, %d", p, id, e, want, wantError)
	}
}

func TestManySteps(t *testing.T) {
	for n, from := range places() {
		r := seeded(uint64(n))
		for range 60 {
			x := pair{s: New()}
			for range 25 {
				x.step(t, r, from)
				x.look(t, r, from)
			}
		}
	}
}

func TestTwoSetsInTurns(t *testing.T) {
	for n, from := range places() {
		r := seeded(uint64(100 + n))
		for range 20 {
			l := []api.Point{at(1, 0), at(0, 1), at(0, 0)} // two come from one list
			first, _, _ := From(l)
			second, _, _ := From(l)
			all := []pair{{s: first}, {s: second}, {s: New()}, {s: New()}}
			for _, p := range l {
				all[0].m.add(p)
				all[1].m.add(p)
			}
			for range 40 {
				all[r.IntN(4)].step(t, r, from)
				for i := range all {
					all[i].look(t, r, from)
				}
			}
		}
	}
}
