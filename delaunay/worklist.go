package delaunay

import "iter"

// worklist is what is still to be looked at.
type worklist[T any] struct{ items []T }

func (l *worklist[T]) push(item T) { l.items = append(l.items, item) }

// all goes over the items, the last one first, each of which it takes out, until there is none; what comes on the way is gone over too.
func (l *worklist[T]) all() iter.Seq[T] {
	return func(yield func(T) bool) {
		for last := len(l.items) - 1; last >= 0; last = len(l.items) - 1 {
			item := l.items[last]
			l.items = l.items[:last]
			if !yield(item) {
				return
			}
		}
	}
}
