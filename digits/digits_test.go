package digits

import (
	"math/big"
	"math/rand/v2"
	"slices"
	"testing"
)

// wide is the number of a list by the library, its digits of any size and sign.
func wide(n []int) *big.Int {
	x := new(big.Int)
	for _, digit := range slices.Backward(n) {
		x.Lsh(x, Size).Add(x, big.NewInt(int64(digit)))
	}
	return x
}

// check holds a list to the library's number, and to having digits alone and no zeros on top.
func check(t *testing.T, what string, n []int, want *big.Int) {
	t.Helper()
	if wide(n).Cmp(want) != 0 || len(n) != (want.BitLen()+Size-1)/Size || slices.ContainsFunc(n, func(digit int) bool { return digit < 0 || digit > Mask }) {
		t.Errorf("%s: %d digits for a number of %d bits, or not that number", what, len(n), want.BitLen())
	}
}

// random is a list of so many digits, with runs of zeros and ones.
func random(r *rand.Rand, length int) []int {
	n := make([]int, length)
	for i := range n {
		n[i] = []int{r.IntN(1 << Size), 0, Mask}[r.IntN(40)/4%3]
	}
	if length > 0 {
		n[length-1] = 1 + r.IntN(Mask)
	}
	return n
}

// Longer lists than a natural number of chapter 2 may have: none is too long here.
func TestLongLists(t *testing.T) {
	r := rand.New(rand.NewPCG(1, 2))
	for _, lengths := range [][2]int{{0, 0}, {0, 3}, {1, 1}, {7, 2}, {2001, 2000}, {2000, 2000}, {5000, 40}, {4100, 2100}, {4001, 1}} {
		a, b := random(r, lengths[0]), random(r, lengths[1])
		x, y := wide(a), wide(b)
		check(t, "Sum", Sum(a, b), new(big.Int).Add(x, y))
		check(t, "Product", Product(a, b), new(big.Int).Mul(x, y))
		if x.Cmp(y) >= 0 {
			check(t, "Difference", Difference(a, b), new(big.Int).Sub(x, y))
		}
		if y.Sign() > 0 {
			q, left := Divide(a, b)
			check(t, "Divide", q, new(big.Int).Quo(x, y))
			check(t, "what Divide leaves", left, new(big.Int).Rem(x, y))
		}
		if Compare(a, b) != x.Cmp(y) || Compare(b, a) != y.Cmp(x) || Compare(a, a) != 0 || Bits(a) != x.BitLen() {
			t.Errorf("Compare or Bits of %d and %d digits", len(a), len(b))
		}
		for _, k := range []int{0, 1, 29, 30, 31, 1000, 70001} {
			check(t, "Raise", Raise(a, k), new(big.Int).Lsh(x, uint(k)))
			check(t, "Lower", Lower(a, k), new(big.Int).Rsh(x, uint(k)))
			if len(a) > 0 && Lowest(Raise(a, k)) != int(x.TrailingZeroBits())+k {
				t.Errorf("Lowest of %d digits raised by %d", len(a), k)
			}
		}
	}
	if Lowest(nil) != -1 || Lowest([]int{0, 0}) != -1 {
		t.Error("Lowest of 0")
	}
}

func TestColumns(t *testing.T) {
	r := rand.New(rand.NewPCG(3, 4))
	for range 300 {
		columns, want := make([]int, 40), new(big.Int)
		for range r.IntN(30) {
			a, k, sign := random(r, r.IntN(20)), r.IntN(500), 1-2*r.IntN(2)
			Pile(columns, a, k, sign)
			term := new(big.Int).Lsh(wide(a), uint(k))
			want.Add(want, term.Mul(term, big.NewInt(int64(sign))))
		}
		neg := Carry(columns)
		if neg != (want.Sign() < 0) {
			t.Errorf("Carry: below 0 is %v", neg)
		}
		check(t, "Carry", Trim(columns), want.Abs(want))
	}
	for _, sign := range []int{1, -1} { // each carry goes through all columns
		columns := make([]int, 9)
		for i := range 8 {
			Pile(columns, []int{Mask}, Size*i, sign)
		}
		Pile(columns, []int{1}, 0, sign)
		if neg := Carry(columns); neg != (sign < 0) || !slices.Equal(columns, []int{0, 0, 0, 0, 0, 0, 0, 0, 1}) {
			t.Errorf("Carry through all columns: %v, %v", neg, columns)
		}
	}
}
