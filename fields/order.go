package fields

import (
	"cmp"
	"container/heap"

	"quipu/api"
)

// A ranked span has its number among those that were put, because a heap by itself does not keep the order of spans that have the same place.
type ranked struct {
	span api.Span
	rank int
}

// A queue is a heap of spans, the first one in order on top.
type queue []ranked

func (q queue) Len() int { return len(q) }

func (q queue) Less(i, j int) bool {
	return cmp.Or(compare(q[i].span, q[j].span), cmp.Compare(q[i].rank, q[j].rank)) < 0
}

func (q queue) Swap(i, j int) { q[i], q[j] = q[j], q[i] }

// Push is heap.Push's, which alone calls it.
func (q *queue) Push(x any) { *q = append(*q, x.(ranked)) }

// Pop is heap.Pop's, which alone calls it.
func (q *queue) Pop() any {
	last := (*q)[len(*q)-1]
	*q = (*q)[:len(*q)-1]
	return last
}

// ordered answers a new list; spans that have the same place stay as they stood.
func ordered(l []api.Span) []api.Span {
	var q queue
	for i, s := range l {
		heap.Push(&q, ranked{s, i})
	}
	spans := make([]api.Span, 0, len(l))
	for q.Len() > 0 {
		spans = append(spans, heap.Pop(&q).(ranked).span)
	}
	return spans
}
