package agenda

import (
	"cmp"

	"sublet/api"
)

// queue of items, as container/heap asks for it: the first in order stands
// ahead of all others.
type queue struct {
	// They stand in an array, so that an agenda that is copied goes on apart.
	list [api.MaxItems]api.Item
	size int // of the list, those that are in
}

// Len: how many are in.
func (q *queue) Len() int { return q.size }

// Less: is the item at i ahead of the one at j, in order?
func (q *queue) Less(i, j int) bool { return compare(q.list[i], q.list[j]) < 0 }

// Swap: each of the two where the other one was.
func (q *queue) Swap(i, j int) { q.list[i], q.list[j] = q.list[j], q.list[i] }

// Push: an item behind all others; only where there is room for one more.
func (q *queue) Push(x any) {
	q.list[q.size] = x.(api.Item)
	q.size++
}

// Pop: the last one comes out; only where there is one.
func (q *queue) Pop() any {
	q.size--
	x := q.list[q.size]
	// What is out would be kept for nothing.
	q.list[q.size] = api.Item{}
	return x
}

// compare: the order of items. Their numbers may be of any size, so they
// aren't subtracted.
func compare(x, y api.Item) int {
	return cmp.Or(cmp.Compare(x.Due, y.Due), cmp.Compare(x.Kind, y.Kind), cmp.Compare(x.Key, y.Key))
}
