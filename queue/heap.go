package queue

// heap is items of which none is ahead of the one that it hangs on; those at 2i + 1 and 2i + 2 hang on the one at i.
type heap[T any] struct {
	items []T
	ahead func(x, y T) bool
}

// heapOf is a heap of items, which it moves and keeps.
func heapOf[T any](items []T, ahead func(x, y T) bool) heap[T] {
	h := heap[T]{items, ahead}
	for i := len(items)/2 - 1; i >= 0; i-- {
		h.sink(i)
	}
	return h
}

// first is the one that none is ahead of; the heap is not empty.
func (h heap[T]) first() T { return h.items[0] }

// sink moves an item down until nothing that hangs on it is ahead of it.
func (h heap[T]) sink(i int) {
	for 2*i+1 < len(h.items) {
		child := h.foremostUnder(i)
		if !h.ahead(h.items[child], h.items[i]) {
			return
		}
		h.items[i], h.items[child] = h.items[child], h.items[i]
		i = child
	}
}

// foremostUnder is the place of the foremost of those that hang on the one at i; there is one at least.
func (h heap[T]) foremostUnder(i int) int {
	left, right := 2*i+1, 2*i+2
	if right < len(h.items) && h.ahead(h.items[right], h.items[left]) {
		return right
	}
	return left
}
