package solid

import "math"

// pair is the minor of two legs, seen from above, and the size of its products.
type pair struct{ minor, size float64 }

// frame has the rounded legs, and all pairs of them.
type frame struct {
	legs  legs[float64]
	pairs [4][4]pair
}

// frameOf makes each pair once: exchanging its legs turns the minor, and rounding keeps to that. (Here and below a conversion bars that a product is fused with a sum.)
func frameOf(l legs[float64]) frame {
	f := frame{legs: l}
	for q := range 4 {
		for p := range q {
			left, right := float64(l[p][0]*l[q][1]), float64(l[q][0]*l[p][1])
			size := math.Abs(left) + math.Abs(right)
			f.pairs[p][q] = pair{left - right, size}
			f.pairs[q][p] = pair{right - left, size}
		}
	}
	return f
}

// det is the determinant of three legs. (Of Side the document adds the second term, with the legs of its minor exchanged: that comes to the same float.)
func (f *frame) det(p, q, r int) float64 {
	first := float64(f.legs[p][2] * f.pairs[q][r].minor)
	second := float64(f.legs[q][2] * f.pairs[p][r].minor)
	third := float64(f.legs[r][2] * f.pairs[p][q].minor)
	return (first - second) + third
}

// size is that of a determinant's terms, added up from the first leg's on.
func (f *frame) size(p, q, r int) float64 {
	first := float64(f.pairs[q][r].size * math.Abs(f.legs[p][2]))
	second := float64(f.pairs[r][p].size * math.Abs(f.legs[q][2]))
	third := float64(f.pairs[p][q].size * math.Abs(f.legs[r][2]))
	return (first + second) + third
}

// lift is the square of a leg's length.
func (f *frame) lift(p int) float64 {
	var sum float64
	for _, x := range f.legs[p] {
		sum += float64(x * x)
	}
	return sum
}

func sideFilter(l legs[float64]) (value, size float64) {
	f := frameOf(l)
	return f.det(0, 1, 2), f.size(0, 1, 2)
}

// sphereFilter adds up the sizes of determinants from the last leg's term on: so the document orders them.
func sphereFilter(l legs[float64]) (value, size float64) {
	f := frameOf(l)
	var terms [4]float64
	for i := range 4 {
		p, q, r := others(i)
		lift := f.lift(i)
		terms[i] = float64(lift * f.det(p, q, r))
		size += float64(f.size(r, p, q) * lift)
	}
	return (terms[3] - terms[2]) + (terms[1] - terms[0]), size
}
