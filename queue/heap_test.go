package queue

import (
	"slices"
	"testing"
)

// heaped tells whether no item is ahead of the one that it hangs on.
func heaped[T any](h heap[T]) bool {
	for i := 1; i < len(h.items); i++ {
		if h.ahead(h.items[i], h.items[(i-1)/2]) {
			return false
		}
	}
	return true
}

// A heap has just the items that it was made of, by any order that it is given.
func TestHeap(t *testing.T) {
	for long := range 8 {
		rowsOf(long, 4, func(row []int) {
			for _, ahead := range []func(x, y int) bool{
				func(x, y int) bool { return x < y },
				func(x, y int) bool { return x > y },
				func(x, y int) bool { return x%2 == 0 && y%2 != 0 },
			} {
				h := heapOf(slices.Clone(row), ahead)
				if !heaped(h) || !slices.Equal(slices.Sorted(slices.Values(h.items)), slices.Sorted(slices.Values(row))) {
					t.Fatal(row, h.items)
				}
				for _, n := range row {
					if ahead(n, h.first()) {
						t.Fatal(row, h.first(), n)
					}
				}
			}
		})
	}
	if h := heapOf([]string{"c", "b", "a", "d"}, func(x, y string) bool { return x < y }); h.first() != "a" || !heaped(h) {
		t.Error(h.items)
	}
}
