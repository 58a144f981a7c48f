package mesh

import (
	"slices"

	"plumb/point"
)

// firsts are the sites from which one goes counterclockwise about a site, until there is no triangle more: those with the outside on the right of the way to them, on a line all, in order. Of a site inside, the least.
func (m *Mesh) firsts(id int) []int {
	l := m.net.leads[id]
	var firsts []int
	for _, to := range l {
		if m.net.third[side{to, id}] == outside {
			firsts = append(firsts, to)
		}
	}
	if len(firsts) == 0 {
		return l[:min(1, len(l))]
	}
	slices.SortFunc(firsts, m.placeOrder)
	return firsts
}

// placeOrder is the order of sites' points.
func (m *Mesh) placeOrder(a, b int) int {
	p, _ := m.set.At(a)
	q, _ := m.set.At(b)
	order, _ := point.Cmp(p, q)
	return order
}
