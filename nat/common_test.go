package nat

import (
	"slices"
	"testing"

	"plumb/api"
)

// answer is what a call of two lists told: up to two lists, and its error.
type answer struct {
	lists [2][]int
	e     api.Errno
}

// calls are all calls that take lists and tell an error, by two lists and an int.
func calls() map[string]func(a, b []int, k int) answer {
	two := func(f func(a, b []int) ([]int, api.Errno)) func(a, b []int, k int) answer {
		return func(a, b []int, k int) answer { n, e := f(a, b); return answer{[2][]int{n}, e} }
	}
	shift := func(f func(a []int, k int) ([]int, api.Errno)) func(a, b []int, k int) answer {
		return func(a, b []int, k int) answer { n, e := f(a, k); return answer{[2][]int{n}, e} }
	}
	return map[string]func(a, b []int, k int) answer{
		"Add": two(Add), "Sub": two(Sub), "Mul": two(Mul), "Gcd": two(Gcd), "Shl": shift(Shl), "Shr": shift(Shr), "Pow": shift(Pow),
		"Div":  func(a, b []int, k int) answer { q, r, e := Div(a, b); return answer{[2][]int{q, r}, e} },
		"Root": func(a, b []int, k int) answer { s, r, e := Root(a); return answer{[2][]int{s, r}, e} },
		"Cmp":  func(a, b []int, k int) answer { c, e := Cmp(a, b); return answer{[2][]int{{c}}, e} },
	}
}

func (x answer) equal(y answer) bool {
	return x.e == y.e && slices.Equal(x.lists[0], y.lists[0]) && slices.Equal(x.lists[1], y.lists[1])
}

func TestInvalidListsComeFirst(t *testing.T) {
	two := map[string]bool{"Add": true, "Sub": true, "Mul": true, "Gcd": true, "Div": true, "Cmp": true}
	for name, call := range calls() {
		nothing := answer{e: api.ErrNat}
		if name == "Cmp" {
			nothing.lists[0] = []int{0}
		}
		for _, bad := range invalid() {
			for _, good := range [][]int{nil, {5}, greatest()} {
				for _, k := range []int{3, -1, 1 << 62} {
					if got := call(bad, good, k); !got.equal(nothing) {
						t.Errorf("P202: %s of %v: %v", name, head(bad), got)
					}
					if got := call(good, bad, k); two[name] && !got.equal(nothing) {
						t.Errorf("P202: %s with %v: %v", name, head(bad), got)
					}
				}
			}
		}
	}
}

func TestInvalidListsWithoutAnError(t *testing.T) {
	for _, bad := range invalid() {
		if Bits(bad) != -1 || Low(bad) != -1 {
			t.Errorf("P202: Bits, Low of %v: %d, %d", head(bad), Bits(bad), Low(bad))
		}
		for _, i := range []int{-1, 0, 1, 29, 30, 31, 60030} {
			if Bit(bad, i) {
				t.Errorf("P202: Bit(%v, %d)", head(bad), i)
			}
		}
		if v, ok := Int(bad); v != 0 || ok {
			t.Errorf("P202: Int(%v) = %d, %v", head(bad), v, ok)
		}
		if text, e := Text(bad); text != "" || e != api.ErrNat {
			t.Errorf("P202: Text(%v) = %q, %d", head(bad), text, e)
		}
	}
}

// spare is a copy of a list with room behind it that holds 77s.
func spare(n []int) []int {
	room := append(slices.Clone(n), 77, 77, 77)
	return room[:len(n)]
}

func TestArgumentsStay(t *testing.T) {
	lists := [][]int{nil, {1}, {6}, {mask}, {0, 1}, {mask, mask}, {1, 2, 3, 4}, {4, 3, 2, 1, 9}, greatest()[:40]}
	for name, call := range calls() {
		for _, a := range lists {
			for _, b := range lists {
				for _, k := range []int{0, 1, 2, 30, 45} {
					x, y := spare(a), spare(b)
					first := call(x, y, k)
					told := answer{[2][]int{slices.Clone(first.lists[0]), slices.Clone(first.lists[1])}, first.e}
					if !slices.Equal(x[:len(a)+3], append(slices.Clone(a), 77, 77, 77)) || !slices.Equal(y[:len(b)+3], append(slices.Clone(b), 77, 77, 77)) {
						t.Fatalf("P213: %s(%v, %v, %d) changed what it was given", name, a, b, k)
					}
					fill(x[:cap(x)])
					fill(y[:cap(y)])
					if !first.equal(told) {
						t.Fatalf("P213: %s(%v, %v, %d) answered what it was given", name, a, b, k)
					}
					fill(first.lists[0][:cap(first.lists[0])])
					if !slices.Equal(first.lists[1], told.lists[1]) {
						t.Fatalf("P213: the two answers of %s(%v, %v, %d) share memory", name, a, b, k)
					}
					if again := call(spare(a), spare(b), k); !again.equal(told) {
						t.Fatalf("P213: %s(%v, %v, %d) told %v, then %v", name, a, b, k, told, again)
					}
				}
			}
		}
	}
}

func fill(n []int) {
	for i := range n {
		n[i] = -5
	}
}
