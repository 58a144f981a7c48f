package legal

import (
	"container/heap"

	"plumb/api"
	"plumb/mesh"
)

// queue is a mesh's illegal edges, each once, as a heap with the least on top. None leaves it but to be flipped: a flip beside an illegal edge gives one of its triangles a third corner from within the circle, so that the circle behind it reaches farther on the edge's other side.
type queue struct {
	edges []api.Edge
	in    map[api.Edge]struct{}
}

// queueOf is that of illegal edges that rise: these are a heap as they stand.
func queueOf(edges []api.Edge) *queue {
	q := &queue{edges, make(map[api.Edge]struct{}, len(edges))}
	for _, e := range edges {
		q.in[e] = struct{}{}
	}
	return q
}

// flipLeast flips the least edge: Flip takes every illegal one. The edge that comes in its place is legal; the sides about it may be legal no more.
func (q *queue) flipLeast(m *mesh.Mesh) {
	e := heap.Pop(q).(api.Edge)
	around, _ := quadOf(m, e[0], e[1])
	m.Flip(e[0], e[1])
	for _, s := range around.rim() {
		if _, in := q.in[s]; in {
			continue
		}
		if legal, _ := Legal(m, s[0], s[1]); !legal {
			heap.Push(q, s)
		}
	}
}

// Len is a call of heap.Interface, as those below are.
func (q *queue) Len() int { return len(q.edges) }

func (q *queue) Less(i, k int) bool { return edgeOrder(q.edges[i], q.edges[k]) < 0 }

func (q *queue) Swap(i, k int) { q.edges[i], q.edges[k] = q.edges[k], q.edges[i] }

func (q *queue) Push(x any) {
	e := x.(api.Edge)
	q.in[e] = struct{}{}
	q.edges = append(q.edges, e)
}

func (q *queue) Pop() any {
	last := len(q.edges) - 1
	e := q.edges[last]
	q.edges = q.edges[:last]
	delete(q.in, e)
	return e
}
