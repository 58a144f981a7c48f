package mesh

import (
	"slices"

	"plumb/point"
)

// firsts are the sites from which one goes counterclockwise about a site, until there is no triangle more: those that are rightmost, on a line all, in order. Of a site inside, the least.
func (m *Mesh) firsts(id int) []int {
	firsts := m.net.rightmost(id)
	if len(firsts) == 0 {
		l := m.net.leads[id]
		return l[:min(1, len(l))]
	}
	slices.SortFunc(firsts, m.placeOrder)
	return firsts
}

// placeOrder is the order of sites' points.
func (m *Mesh) placeOrder(a, b int) int {
	p, _ := m.set.At(a)
	q, _ := m.set.At(b)
	order, _ := point.Cmp(p, q)
	return order
}
