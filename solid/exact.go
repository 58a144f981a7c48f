package solid

import (
	"plumb/api"
	"plumb/dyadic"
)

func sideExact(l legs[api.Num]) api.Num { return det(l[0], l[1], l[2]) }

func sphereExact(l legs[api.Num]) api.Num {
	var lifts, dets [4]api.Num
	for i := range 4 {
		p, q, r := others(i)
		lifts[i] = dot(l[i][:], l[i][:])
		dets[i] = det(l[p], l[q], l[r])
		if i%2 == 0 {
			dets[i] = turned(dets[i])
		}
	}
	return dot(lifts[:], dets[:])
}

// det is the determinant of three legs.
func det(p, q, r [3]api.Num) api.Num {
	return dot([]api.Num{p[2], q[2], r[2]}, []api.Num{minor(q, r), minor(r, p), minor(p, q)})
}

// minor is that of two legs, seen from above.
func minor(p, q [3]api.Num) api.Num {
	return dot([]api.Num{p[0], turned(q[0])}, []api.Num{q[1], p[1]})
}

// dot is the sum of the products of two lists. None is refused here: differences of coordinates have some 2,100 bits at most, and no number on the way is made of more than five of them.
func dot(x, y []api.Num) api.Num {
	n, _ := dyadic.Dot(x, y)
	return n
}

// turned is the number with the other sign.
func turned(x api.Num) api.Num {
	n, _ := dyadic.Neg(x)
	return n
}
