package parts

import "slices"

// queue has things, the oldest first. It forgets the oldest where there would be more than most.
type queue[T comparable] struct {
	most   int
	things []T
}

func (q *queue[T]) put(x T) {
	if len(q.things) == q.most {
		q.things = slices.Delete(q.things, 0, 1)
	}
	q.things = append(q.things, x)
}

func (q *queue[T]) drop(x T) {
	q.things = slices.DeleteFunc(q.things, func(y T) bool { return x == y })
}

func (q *queue[T]) has(x T) bool { return slices.Contains(q.things, x) }
