package term

import (
	"container/heap"

	"viaticum/api"
)

// terms is a heap: the least one is on top.
type terms []api.Term

func (h terms) Len() int           { return len(h) }
func (h terms) Less(i, j int) bool { return Compare(h[i], h[j]) < 0 }
func (h terms) Swap(i, j int)      { h[i], h[j] = h[j], h[i] }

func (h *terms) Push(x any) { *h = append(*h, x.(api.Term)) }

func (h *terms) Pop() any {
	end := len(*h) - 1
	t := (*h)[end]
	*h = (*h)[:end]
	return t
}

// sortedOnce tells the terms of l, none of which is a set, rising, each once.
func sortedOnce(l []api.Term) []api.Term {
	h := &terms{}
	for _, t := range l {
		// Its list is empty, but may have room, and that room is the caller's.
		t.L = nil
		heap.Push(h, t)
	}
	var sorted []api.Term
	for h.Len() > 0 {
		t := heap.Pop(h).(api.Term)
		if end := len(sorted); end > 0 && Same(sorted[end-1], t) {
			continue
		}
		sorted = append(sorted, t)
	}
	return sorted
}
