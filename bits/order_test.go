package bits

import (
	"cmp"
	"math"
	"slices"
	"testing"

	"plumb/api"
)

func TestOrderOfTheEdges(t *testing.T) {
	l := []int{
		api.Inf | neg0, of(-math.MaxFloat64), of(-1) + 1, of(-1), neg0 | 1<<52, neg0 + 2, neg0 + 1, neg0,
		0, 1, 2, 1 << 52, of(1), of(1) + 1, api.Inf - 1, api.Inf, api.NaN,
	}
	last := len(l) - 1
	for i, x := range l {
		for j, y := range l {
			noughts := Canon(x) == 0 && Canon(y) == 0
			numbers := i < last && j < last
			less, same := numbers && i < j && !noughts, numbers && (i == j || noughts)
			if Order(x, y) != cmp.Compare(i, j) || Less(x, y) != less || Same(x, y) != same {
				t.Errorf("P109: %#x, %#x: Order %d, Less %v, Same %v", x, y, Order(x, y), Less(x, y), Same(x, y))
			}
		}
	}
}

func TestWhatIsNoNumberIsAlike(t *testing.T) {
	l := []int{api.NaN, -1, math.MaxInt, api.Inf + 1, neg0 | api.Inf + 1}
	for _, x := range l {
		for _, y := range l {
			if Order(x, y) != 0 || Less(x, y) || Same(x, y) {
				t.Errorf("P109: %#x, %#x: Order %d, Less %v, Same %v", x, y, Order(x, y), Less(x, y), Same(x, y))
			}
		}
		for _, y := range []int{0, of(1), api.Inf, api.Inf | neg0} {
			if Order(x, y) != 1 || Order(y, x) != -1 || Less(x, y) || Less(y, x) || Same(x, y) {
				t.Errorf("P109: %#x, %#x: Order %d, %d", x, y, Order(x, y), Order(y, x))
			}
		}
	}
}

func TestOrderGoesByValues(t *testing.T) {
	l := samples()
	for i, x := range l {
		y := l[(i*7919+13)%len(l)]
		f, g := math.Float64frombits(uint64(x)), math.Float64frombits(uint64(y))
		if Less(x, y) != (f < g) || Same(x, y) != (f == g) {
			t.Errorf("P109: %#x, %#x: Less %v, Same %v", x, y, Less(x, y), Same(x, y))
		}
		if f < g && Order(x, y) != -1 || f > g && Order(x, y) != 1 || Order(x, y) != -Order(y, x) {
			t.Errorf("P109: %#x, %#x: Order %d, %d", x, y, Order(x, y), Order(y, x))
		}
	}
	slices.SortFunc(l, Order)
	for i := range len(l) - 1 {
		if Less(l[i+1], l[i]) || isNaN(l[i]) && !isNaN(l[i+1]) {
			t.Errorf("P109: sorted by Order: %#x ahead of %#x", l[i], l[i+1])
		}
	}
}
