package wheel

import "roster/api"

// item is a timer that knows its place in the queue: by its name alone it could not be found there.
type item struct {
	api.Timer
	place int
}

// queue is what the library's heap works on: the first item is the one that no other stands ahead of.
type queue []*item

// Len tells the heap how many items there are.
func (q queue) Len() int { return len(q) }

// Less tells the heap whether one item stands ahead of another; no two share a name, so that one of them does.
func (q queue) Less(i, j int) bool {
	if q[i].At != q[j].At {
		return q[i].At < q[j].At
	}
	return q[i].ID < q[j].ID
}

// Swap keeps the places true while the heap moves items.
func (q queue) Swap(i, j int) {
	q[i], q[j] = q[j], q[i]
	q[i].place, q[j].place = i, j
}

// Push puts an item behind the others, where the heap asks for it.
func (q *queue) Push(x any) {
	it := x.(*item)
	it.place = len(*q)
	*q = append(*q, it)
}

// Pop takes the last item off; its slot is emptied, as the spare room would keep it.
func (q *queue) Pop() any {
	last := len(*q) - 1
	it := (*q)[last]
	(*q)[last] = nil
	*q = (*q)[:last]
	return it
}
