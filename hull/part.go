package hull

import "slices"

// part is a stretch of sites, in the order of points, from which layers are peeled. It keeps its own way there and back, and what is outermost of all is so in its part: so a layer costs no more than the parts from which it takes something.
type part struct {
	halves      []part // two, or none
	left        []site // without halves: those that were not peeled
	there, back []site
}

// few sites are not worth halving.
const few = 8

func partOf(l []site) part {
	p := part{left: l}
	if mid := len(l) / 2; mid > few/2 {
		p = part{halves: []part{partOf(l[:mid]), partOf(l[mid:])}}
	}
	p.wrap()
	return p
}

// wrap goes along what its halves go along, or all that it has.
func (p *part) wrap() {
	there, back := p.left, backwards(p.left)
	if len(p.halves) > 0 {
		low, high := p.halves[0], p.halves[1]
		there, back = slices.Concat(low.there, high.there), slices.Concat(high.back, low.back)
	}
	p.there, p.back = path(there, ahead(goesOn)), path(back, ahead(goesOn))
}

// peel takes away those that were outermost of all.
func (p *part) peel(peeled func(site) bool) {
	if !slices.ContainsFunc(p.there, peeled) && !slices.ContainsFunc(p.back, peeled) {
		return
	}
	for i := range len(p.halves) {
		p.halves[i].peel(peeled)
	}
	p.left = slices.DeleteFunc(p.left, peeled)
	p.wrap()
}
