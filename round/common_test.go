package round

import (
	"slices"
	"testing"

	"plumb/api"
)

// onNums are the calls that take Nums, by a list of two.
func onNums() map[string]func(l []api.Num, way int) answer {
	of := func(f func(x api.Num, way int) (int, bool, api.Errno)) func(l []api.Num, way int) answer {
		return func(l []api.Num, way int) answer { return told(f(l[0], way)) }
	}
	by := func(f func(a, b api.Num, way int) (int, bool, api.Errno)) func(l []api.Num, way int) answer {
		return func(l []api.Num, way int) answer { return told(f(l[0], l[1], way)) }
	}
	return map[string]func(l []api.Num, way int) answer{"To": of(To), "To32": of(To32), "Root": of(Root), "Root32": of(Root32), "Quot": by(Quot), "Quot32": by(Quot32)}
}

// onPatterns are the calls that take patterns, by three of them.
func onPatterns() map[string]func(a, b, c, way int) answer {
	of := func(f one) func(a, b, c, way int) answer {
		return func(a, b, c, way int) answer { x, e := f(a, way); return answer{b: x, e: e} }
	}
	by := func(f two) func(a, b, c, way int) answer {
		return func(a, b, c, way int) answer { x, e := f(a, b, way); return answer{b: x, e: e} }
	}
	return map[string]func(a, b, c, way int) answer{
		"Add": by(Add), "Sub": by(Sub), "Mul": by(Mul), "Div": by(Div), "Add32": by(Add32), "Mul32": by(Mul32), "Div32": by(Div32),
		"Sqrt": of(Sqrt), "Sqrt32": of(Sqrt32), "Narrow": of(Narrow), "FromInt": of(FromInt),
		"ToInt": func(a, b, c, way int) answer { return told(ToInt(a, way)) },
		"Fma":   func(a, b, c, way int) answer { x, e := Fma(a, b, c, way); return answer{b: x, e: e} },
	}
}

func TestWaysThatAreNone(t *testing.T) {
	l := append(invalid(), num(1, 0), num(-1, 0), api.Num{})
	for _, way := range noWays() {
		for name, call := range onNums() {
			for _, x := range l {
				for _, y := range l {
					if got := call([]api.Num{x, y}, way); got != (answer{e: api.ErrArg}) {
						t.Errorf("P401: %s in way %d: %+v", name, way, got)
					}
				}
			}
		}
		for name, call := range onPatterns() {
			for _, b := range []int{0, minus0, 1, of(1), of(-1), api.Inf, api.NaN, -1, of32(1), 1 << 32} {
				if got := call(b, b, b, way); got != (answer{e: api.ErrArg}) {
					t.Errorf("P401: %s of %#x in way %d: %+v", name, b, way, got)
				}
			}
		}
	}
}

func TestErrorsInTheirOrder(t *testing.T) {
	for _, way := range allWays() {
		for name, call := range onNums() {
			takesTwo := name == "Quot" || name == "Quot32"
			for _, bad := range invalid() {
				for _, good := range []api.Num{{}, num(1, 0), num(-1, 0), ones(0)} {
					if got := call([]api.Num{bad, good}, way); got != (answer{e: api.ErrNat}) {
						t.Errorf("P402: %s of no valid Num: %+v", name, got)
					}
					if got := call([]api.Num{good, bad}, way); takesTwo && got != (answer{e: api.ErrNat}) {
						t.Errorf("P402: %s by no valid Num: %+v", name, got)
					}
				}
			}
			for _, x := range []api.Num{{}, num(1, 0), num(-5, -2000), ones(7)} {
				want := answer{e: api.ErrDivide}
				if got := call([]api.Num{x, {}}, way); takesTwo && got != want {
					t.Errorf("P402: %s by 0: %+v", name, got)
				}
			}
			for _, x := range []api.Num{num(-1, 0), num(-1, -api.MaxExp), minus(ones(0))} {
				want := answer{e: api.ErrNegative}
				if got := call([]api.Num{x, {}}, way); (name == "Root" || name == "Root32") && got != want {
					t.Errorf("P402: %s below 0: %+v", name, got)
				}
			}
		}
	}
}

// spare is a copy of a number with room behind its digits that holds 77s.
func spare(x api.Num) api.Num {
	x.Mag = append(slices.Clone(x.Mag), 77, 77, 77)[:len(x.Mag)]
	return x
}

// kept tells whether a copy is as it was made, its spare room too.
func kept(copied, x api.Num) bool {
	return copied.Neg == x.Neg && copied.Exp == x.Exp && slices.Equal(copied.Mag[:len(x.Mag)+3], append(slices.Clone(x.Mag), 77, 77, 77))
}

func TestAnswersHangOnArgumentsAlone(t *testing.T) {
	r := seeded(12)
	l := []api.Num{{}, num(1, 0), num(-3, -1), num(1, -1075), num(1, 1024), ones(-60000), random(r, 70, -20), random(r, 700, -20), random(r, 5000, 9)}
	for name, call := range onNums() {
		for _, a := range l {
			for _, b := range l {
				for _, way := range allWays() {
					given := []api.Num{spare(a), spare(b)}
					first := call(given, way)
					if !kept(given[0], a) || !kept(given[1], b) {
						t.Fatalf("P406: %s changed what it was given", name)
					}
					call([]api.Num{b, a}, (way+1)%4)
					if again := call(given, way); again != first {
						t.Fatalf("P406: %s told %+v, then %+v", name, first, again)
					}
				}
			}
		}
	}
	p := patterns(12)
	for name, call := range onPatterns() {
		first := make([]answer, 0, len(p))
		for i, b := range p {
			first = append(first, call(b, p[(i*7+3)%len(p)], p[(i*5+1)%len(p)], i%4))
		}
		for i := len(p) - 1; i >= 0; i-- {
			if again := call(p[i], p[(i*7+3)%len(p)], p[(i*5+1)%len(p)], i%4); again != first[i] {
				t.Errorf("P406: %s of %#x told %+v, then %+v", name, p[i], first[i], again)
			}
		}
	}
}
