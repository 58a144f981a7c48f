package point

import (
	"slices"
	"sync"
	"testing"

	"plumb/api"
)

func TestExamples(t *testing.T) {
	for _, x := range []struct {
		p    api.Point
		want api.Errno
	}{{api.Point{Y: 0x7FF0000000000000}, api.ErrFinite}, {api.Point{X: api.NaN}, api.ErrFinite}, {api.Point{X: 1, Y: -1 << 63}, api.OK}} {
		if e := Check(x.p); e != x.want {
			t.Errorf("P901: Check(%#x): error %d", x.p, e)
		}
	}
	if p, e := Normal(api.Point{X: -1 << 63, Y: 5}); p != (api.Point{Y: 5}) || e != api.OK {
		t.Errorf("P902: Normal: %#x, error %d", p, e)
	}
	if same, e := Same(api.Point{}, api.Point{X: -1 << 63}); !same || e != api.OK {
		t.Errorf("P903: Same: %v, error %d", same, e)
	}
	for _, x := range []struct {
		a, b api.Point
		want int
	}{{api.Point{}, api.Point{X: -1 << 63}, 0}, {api.Point{X: 1}, api.Point{X: 2}, -1}, {api.Point{X: -1<<63 + 1}, api.Point{}, -1}} {
		if c, e := Cmp(x.a, x.b); c != x.want || e != api.OK {
			t.Errorf("P903: Cmp(%#x, %#x): %d, error %d", x.a, x.b, c, e)
		}
	}
	for b, want := range map[int]bool{0: true, 1: false, 0x3690000000000000: true, 0x368FFFFFFFFFFFFF: false, 0x4950000000000000: false} {
		if Tame(b) != want {
			t.Errorf("P904: Tame(%#x): not %v", b, want)
		}
	}
	if l, e := Order([]api.Point{{X: 2}, {}, {X: 2}, {X: -1 << 63}}); !slices.Equal(l, []int{1, 3, 0, 2}) || e != api.OK {
		t.Errorf("P905: Order: %v, error %d", l, e)
	}
}

func TestOrderChangesNothingThatItWasGiven(t *testing.T) {
	s := seeded(3)
	for range 50 {
		whole := someOf(&s, points(), 40)
		before := slices.Clone(whole)
		first, e := Order(whole[:30])
		if e != api.OK || !slices.Equal(whole, before) {
			t.Fatalf("P906: Order changed what it was given, or its spare room: error %d", e)
		}
		kept := slices.Clone(first)
		for i := range whole { // were the list kept, a later answer would show it
			whole[i] = api.Point{}
		}
		Order(whole)
		again, _ := Order(before[:30])
		if !slices.Equal(first, kept) || !slices.Equal(again, kept) {
			t.Fatalf("P906: Order: told %v, then %v", kept, again)
		}
		clear(again)
		if !slices.Equal(first, kept) {
			t.Fatal("P906: Order: two answers share their memory")
		}
	}
}

func TestAnswersHangOnArgumentsAlone(t *testing.T) {
	l := append(points(), api.Point{X: api.NaN}, api.Point{Y: api.Inf})
	type told struct {
		normal   api.Point
		same     bool
		cmp      int
		tame     bool
		checked  api.Errno
		errorsOf [3]api.Errno
	}
	ask := func(i int) (r told) {
		a, b := l[i], l[(i*31+7)%len(l)]
		r.checked = Check(a)
		r.normal, r.errorsOf[0] = Normal(a)
		r.same, r.errorsOf[1] = Same(a, b)
		r.cmp, r.errorsOf[2] = Cmp(a, b)
		r.tame = Tame(a.X)
		return r
	}
	first := make([]told, len(l))
	for i := range l {
		first[i] = ask(i)
	}
	var all sync.WaitGroup
	for range 4 {
		all.Go(func() {
			for i := range l {
				if j := len(l) - 1 - i; ask(j) != first[j] {
					t.Errorf("P906: of %#x: not what was told before", l[j])
				}
			}
		})
	}
	all.Wait()
}
