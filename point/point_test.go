package point

import (
	"math/big"
	"testing"

	"plumb/api"
)

func TestCheckRefusesWhatIsNotFinite(t *testing.T) {
	for _, bad := range refused() {
		for _, other := range append(coordinates(), refused()...) {
			for _, p := range []api.Point{{X: bad, Y: other}, {X: other, Y: bad}} {
				if e := Check(p); e != api.ErrFinite {
					t.Errorf("P901: Check(%#x): error %d", p, e)
				}
			}
			for _, p := range []api.Space{{X: bad, Y: other, Z: other}, {X: other, Y: bad, Z: other}, {X: other, Y: other, Z: bad}} {
				if e := CheckSpace(p); e != api.ErrFinite {
					t.Errorf("P901: CheckSpace(%#x): error %d", p, e)
				}
			}
		}
	}
}

func TestCheckTakesWhatIsFinite(t *testing.T) {
	l := coordinates()
	for i, x := range l {
		for j, y := range l {
			if e := Check(api.Point{X: x, Y: y}); e != api.OK {
				t.Errorf("P901: Check({%#x, %#x}): error %d", x, y, e)
			}
			z := l[(i+j)%len(l)]
			if e := CheckSpace(api.Space{X: x, Y: y, Z: z}); e != api.OK {
				t.Errorf("P901: CheckSpace({%#x, %#x, %#x}): error %d", x, y, z, e)
			}
		}
	}
}

func TestCheckByBits(t *testing.T) {
	s := seeded(1)
	for range 20000 {
		p := api.Space{X: s.next() | s.next(), Y: s.next() | s.next(), Z: s.next() | s.next()}
		want, wantSpace := api.OK, api.OK
		if strange(p.X) || strange(p.Y) {
			want = api.ErrFinite
		}
		if want != api.OK || strange(p.Z) {
			wantSpace = api.ErrFinite
		}
		if e := Check(api.Point{X: p.X, Y: p.Y}); e != want {
			t.Errorf("P901: Check of the first two of %#x: error %d", p, e)
		}
		if e := CheckSpace(p); e != wantSpace {
			t.Errorf("P901: CheckSpace(%#x): error %d", p, e)
		}
	}
}

// plain is 0 for the pattern of -0.
func plain(b int) int {
	if b == least {
		return 0
	}
	return b
}

func TestNormal(t *testing.T) {
	for _, p := range points() {
		want := api.Point{X: plain(p.X), Y: plain(p.Y)}
		if got, e := Normal(p); got != want || e != api.OK {
			t.Errorf("P902: Normal(%#x): %#x, error %d", p, got, e)
		}
	}
	for _, bad := range refused() {
		for _, p := range []api.Point{{X: bad, Y: 5}, {X: 5, Y: bad}, {X: bad, Y: least}, {X: bad, Y: bad}} {
			if got, e := Normal(p); got != (api.Point{}) || e != api.ErrFinite {
				t.Errorf("P902: Normal(%#x): %#x, error %d", p, got, e)
			}
		}
	}
}

func TestOrderOfTwo(t *testing.T) {
	l := points()
	for i, a := range l {
		for j := i % 13; j < len(l); j += 13 {
			b := l[j]
			want := order(a, b)
			if got, e := Cmp(a, b); got != want || e != api.OK {
				t.Fatalf("P903: Cmp(%#x, %#x): %d, error %d, want %d", a, b, got, e, want)
			}
			if got, e := Same(a, b); got != (want == 0) || e != api.OK {
				t.Fatalf("P903: Same(%#x, %#x): %v, error %d", a, b, got, e)
			}
		}
	}
}

func TestOrderOfTwoRefuses(t *testing.T) {
	good := api.Point{X: of(1), Y: least}
	for _, bad := range refused() {
		for _, p := range []api.Point{{X: bad}, {Y: bad}, {X: bad, Y: bad}} {
			for _, two := range [][2]api.Point{{p, good}, {good, p}, {p, p}} {
				if got, e := Cmp(two[0], two[1]); got != 0 || e != api.ErrFinite {
					t.Errorf("P903: Cmp(%#x): %d, error %d", two, got, e)
				}
				if got, e := Same(two[0], two[1]); got || e != api.ErrFinite {
					t.Errorf("P903: Same(%#x): %v, error %d", two, got, e)
				}
			}
		}
	}
}

// tame says it by exact values.
func tame(b int) bool {
	if strange(b) {
		return false
	}
	size := value(b &^ least)
	from, to := new(big.Int).Lsh(big.NewInt(1), 1074-150), new(big.Int).Lsh(big.NewInt(1), 1074+150)
	return size.Sign() == 0 || size.Cmp(from) >= 0 && size.Cmp(to) < 0
}

func TestTame(t *testing.T) {
	l := append(coordinates(), refused()...)
	for e := range 2048 {
		l = append(l, e<<52, e<<52|1, e<<52|(1<<52-1), e<<52|least, e<<52|(1<<52-1)|least)
	}
	for _, b := range l {
		if got := Tame(b); got != tame(b) {
			t.Errorf("P904: Tame(%#x): %v", b, got)
		}
	}
}
