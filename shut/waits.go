package shut

import (
	"container/heap"
	"sort"
)

// waits is who waits for whom among things that are not closed yet.
type waits struct {
	ahead  []int   // of each thing: how many it waits for
	behind [][]int // of each thing: who waits for it
	free   numbers // who waits for nobody
}

func waitsOf(after [][]int) *waits {
	w := &waits{ahead: make([]int, len(after)), behind: make([][]int, len(after))}
	for i, l := range after {
		for _, k := range l {
			if k == i || k < 0 || k >= len(after) {
				continue
			}
			// One that stands in a list twice is counted twice, and taken off twice when it is closed.
			w.ahead[i]++
			w.behind[k] = append(w.behind[k], i)
		}
	}
	// Rising as they are, they are a heap already.
	for i, n := range w.ahead {
		if n == 0 {
			w.free.IntSlice = append(w.free.IntSlice, i)
		}
	}
	return w
}

// some tells whether there is one that waits for nobody.
func (w *waits) some() bool { return w.free.Len() > 0 }

// close closes the least one of those that wait for nobody, and tells which one it is; there is one.
func (w *waits) close() int {
	i := heap.Pop(&w.free).(int)
	for _, k := range w.behind[i] {
		w.ahead[k]--
		if w.ahead[k] == 0 {
			heap.Push(&w.free, k)
		}
	}
	return i
}

// left is those that wait for others, rising.
func (w *waits) left() []int {
	var l []int
	for i, n := range w.ahead {
		if n > 0 {
			l = append(l, i)
		}
	}
	return l
}

// numbers is a heap of numbers, of which the least one comes first.
type numbers struct{ sort.IntSlice }

func (l *numbers) Push(x any) { l.IntSlice = append(l.IntSlice, x.(int)) }

func (l *numbers) Pop() any {
	last := len(l.IntSlice) - 1
	x := l.IntSlice[last]
	l.IntSlice = l.IntSlice[:last]
	return x
}
