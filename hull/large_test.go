package hull

import (
	"math"
	"slices"
	"testing"

	"plumb/api"
	"plumb/sites"
)

// bowl are as many sites as a set takes, all of them corners.
func bowl(t *testing.T) *sites.Set {
	l := make([]api.Point, api.MaxSites)
	for i := range l {
		x := float64(i*40503%api.MaxSites - api.MaxSites/2)
		l[i] = at(x, x*x)
	}
	return set(t, l...)
}

func TestAllCorners(t *testing.T) {
	s := bowl(t)
	order := s.Order()
	list(t, "P1601: Boundary", Boundary(s), order...)
	list(t, "P1602: Corners", Corners(s), order...)
	apart(t, s, order[0], order[len(order)/2], api.OK) // from a rim to the ground
	lists(t, "P1606: Layers", Layers(s), [][]int{order})
	sided(t, s, at(0.5, 0.5), 0)
	sided(t, s, at(0.5, 0.25), -1)
	sided(t, s, at(0.5, 0.75), 1)
	touched(t, s, at(0.5, 0.25), order[len(order)/2+1], order[len(order)/2], api.OK)
}

// farOfWhole is Far of whole numbers, pair by pair.
func farOfWhole(l [][2]int) (int, int) {
	first, second, most := 0, 1, -1
	for i, p := range l {
		for k, q := range l[i+1:] {
			x, y := p[0]-q[0], p[1]-q[1]
			if far := x*x + y*y; far > most {
				first, second, most = i, i+1+k, far
			}
		}
	}
	return first, second
}

func TestFarOfRoundHulls(t *testing.T) {
	r := seeded(600)
	for _, wide := range []float64{3, 20, 300, 1 << 14, 1 << 28} {
		for _, high := range []float64{3, 20, 1000, 1 << 28} {
			for range 10 {
				var l [][2]int
				s := sites.New()
				for range 300 {
					sin, cos := math.Sincos(r.Float64() * 2 * math.Pi)
					p := [2]int{int(math.Round(cos * wide)), int(math.Round(sin * high))}
					if _, e := s.Add(at(float64(p[0]), float64(p[1]))); e == api.OK {
						l = append(l, p)
					}
				}
				first, second := farOfWhole(l)
				apart(t, s, first, second, api.OK)
			}
		}
	}
}

func TestManyOnALine(t *testing.T) {
	s := sites.New()
	for i := range 20000 {
		x := float64(i * 7919 % 20000)
		s.Add(at(x, 3*x))
	}
	order := s.Order()
	list(t, "P1601: Boundary", Boundary(s), order...)
	list(t, "P1602: Corners", Corners(s), order[0], order[len(order)-1])
	lists(t, "P1606: Layers", Layers(s), [][]int{order})
}

func TestLayersOfAGrid(t *testing.T) { // n squares within each other, cut at their corners
	const side = 40
	s := sites.New()
	for i := range side * side {
		s.Add(at(float64(i%side), float64(i/side)))
	}
	layers := Layers(s)
	seen := slices.Concat(layers...)
	slices.Sort(seen)
	list(t, "P1606: all layers together", seen, s.Alive()...)
	list(t, "P1606: the first layer", layers[0], Boundary(s)...)
	if len(layers[0]) != 4*(side-1) || len(layers) != side/2 {
		t.Errorf("P1606: %d layers of a grid, the first one of %d", len(layers), len(layers[0]))
	}
}

func TestLayersByTakingAway(t *testing.T) {
	r := seeded(700)
	for n, from := range append(places(), nil, nil) {
		for _, wide := range []int{8, 30} {
			s := sites.New()
			for range 500 {
				switch p := drawn(r, []float64{float64(r.IntN(wide)), float64(r.IntN(wide))}); {
				case n%2 == 0 && len(from) > 0: // on many lines beside each other
					s.Add(api.Point{X: of(from[r.IntN(len(from))]), Y: p.Y})
				case n%2 == 1 && len(from) > 0:
					s.Add(api.Point{X: p.X, Y: of(from[r.IntN(len(from))])})
				default:
					s.Add(p)
				}
			}
			for k, layer := range Layers(s) {
				list(t, "P1606: a layer", layer, Boundary(s)...)
				for _, id := range layer {
					if e := s.Drop(id); e != api.OK {
						t.Fatalf("P1606: layer %d has %d: error %d", k, id, e)
					}
				}
			}
			if s.Len() > 0 {
				t.Errorf("P1606: %d sites are in no layer", s.Len())
			}
		}
	}
}
