package shut

import (
	"math"
	"slices"
	"testing"

	"conduit/api"
)

// P22.1: the least one of those that can be closed, again and again.
func TestOrderTurns(t *testing.T) {
	for i, c := range []struct {
		after        [][]int
		order, cycle []int
	}{
		{nil, nil, nil},
		{[][]int{nil}, []int{0}, nil},
		{[][]int{{1}, nil}, []int{1, 0}, nil},
		{[][]int{nil, {0}}, []int{0, 1}, nil},
		{[][]int{{1}, {2}, {3}, nil}, []int{3, 2, 1, 0}, nil},
		{[][]int{nil, {0}, {1}, {2}}, []int{0, 1, 2, 3}, nil},
		// Whoever has become free goes ahead of greater ones that were so all along.
		{[][]int{{1}, nil, nil}, []int{1, 0, 2}, nil},
		{[][]int{{2}, nil, nil}, []int{1, 2, 0}, nil},
		{[][]int{{3}, {3}, nil, nil, nil}, []int{2, 3, 0, 1, 4}, nil},
		{[][]int{{4}, nil, {0}, nil, {1}}, []int{1, 3, 4, 0, 2}, nil},
		{[][]int{{1, 2, 3}, nil, nil, nil}, []int{1, 2, 3, 0}, nil},
		{[][]int{{3, 1, 2}, {2, 3}, {3}, nil}, []int{3, 2, 1, 0}, nil},
		// What is left waits for one another, or for such as do.
		{[][]int{{1}, {0}}, nil, []int{0, 1}},
		{[][]int{{2}, {0}, {1}}, nil, []int{0, 1, 2}},
		{[][]int{{2}, nil, {0}}, []int{1}, []int{0, 2}},
		{[][]int{{1}, {2}, {3}, {2}}, nil, []int{0, 1, 2, 3}},
		{[][]int{{1, 4}, {0}, {1}, {2}, nil, {4}}, []int{4, 5}, []int{0, 1, 2, 3}},
		{[][]int{{1}, {0}, {3}, {2}, {0, 2}, nil}, []int{5}, []int{0, 1, 2, 3, 4}},
		// Whom they wait for is not left, if it waits for nobody.
		{[][]int{{1, 2}, {0}, nil}, []int{2}, []int{0, 1}},
	} {
		if got := orderAsSaid(t, c.after); !slices.Equal(got.Order, c.order) || !slices.Equal(got.Cycle, c.cycle) {
			t.Errorf("%d: %v", i, got)
		}
	}
}

// P22.1: numbers that are no things, and a thing itself, play no part; one that stands there twice counts once.
func TestOrderOtherNumbers(t *testing.T) {
	for i, c := range []struct {
		after        [][]int
		order, cycle []int
	}{
		{[][]int{{0}}, []int{0}, nil},
		{[][]int{{0, 0, 0}, {1}}, []int{0, 1}, nil},
		{[][]int{{-1}, {2}}, []int{0, 1}, nil},
		{[][]int{{math.MinInt, math.MaxInt}, {math.MaxInt}}, []int{0, 1}, nil},
		{[][]int{{1 << 32, 1<<32 + 1, -1 << 32}, {1 << 31}}, []int{0, 1}, nil},
		{[][]int{{2, 3, 1}, {2}}, []int{1, 0}, nil},
		{[][]int{{1, 1}, nil}, []int{1, 0}, nil},
		{[][]int{{1, 1, 2}, nil, nil}, []int{1, 2, 0}, nil},
		{[][]int{{2, 1, 2, 1}, {2, 2}, nil}, []int{2, 1, 0}, nil},
		{[][]int{{1, 1}, {0, 0}, nil}, []int{2}, []int{0, 1}},
		{[][]int{{0, 1}, {1, 0}}, nil, []int{0, 1}},
	} {
		if got := orderAsSaid(t, c.after); !slices.Equal(got.Order, c.order) || !slices.Equal(got.Cycle, c.cycle) {
			t.Errorf("%d: %v", i, got)
		}
	}
}

// eachAfter calls do with all lists of n things of which each has some of these numbers; do may not keep them.
func eachAfter(n int, numbers []int, do func([][]int)) {
	sets := make([][]int, 1<<len(numbers))
	for bits := range sets {
		for i, k := range numbers {
			if bits>>i&1 == 1 {
				sets[bits] = append(sets[bits], k)
			}
		}
	}
	after := make([][]int, n)
	var fill func(at int)
	fill = func(at int) {
		if at == n {
			do(after)
			return
		}
		for _, l := range sets {
			after[at] = l
			fill(at + 1)
		}
	}
	fill(0)
}

// P22.1: all lists of up to four things.
func TestOrderSmall(t *testing.T) {
	for n := range 4 {
		numbers := []int{-1}
		for i := range n + 1 {
			numbers = append(numbers, i)
		}
		eachAfter(n, numbers, func(after [][]int) { orderAsSaid(t, after) })
	}
	eachAfter(4, []int{3, 1, 0, 2}, func(after [][]int) { orderAsSaid(t, after) })
}

// P22.1: any lists.
func TestOrderRandom(t *testing.T) {
	r := newRandom(1)
	ordered, both, round := 0, 0, 0
	for range 30000 {
		switch c := orderAsSaid(t, randomAfter(r, 14)); {
		case len(c.Cycle) == 0:
			ordered++
		case len(c.Order) == 0:
			round++
		default:
			both++
		}
	}
	if min(ordered, both) < 1000 || round < 50 {
		t.Errorf("%d without a cycle, %d with both, %d cycles alone", ordered, both, round)
	}
}

const many = 300000

// numbersTo is 0 to n - 1, or falling.
func numbersTo(n int, falling bool) []int {
	l := make([]int, n)
	for i := range l {
		l[i] = i
	}
	if falling {
		slices.Reverse(l)
	}
	return l
}

// manyAfter is many lists, as do makes each of them.
func manyAfter(of func(i int) []int) [][]int {
	after := make([][]int, many)
	for i := range after {
		after[i] = of(i)
	}
	return after
}

// P22.1: many things, in rows, rounds, stars and layers.
func TestOrderMany(t *testing.T) {
	rising := numbersTo(many, false)
	for _, c := range []struct {
		name  string
		after [][]int
		want  api.Closing
	}{
		{"no lists", make([][]int, many), api.Closing{Order: rising}},
		{"each behind the next one", manyAfter(func(i int) []int { return []int{i + 1} }), api.Closing{Order: numbersTo(many, true)}},
		{"each behind the one ahead", manyAfter(func(i int) []int { return []int{i - 1} }), api.Closing{Order: rising}},
		{"a round", manyAfter(func(i int) []int { return []int{(i + 1) % many} }), api.Closing{Cycle: rising}},
		{"all behind the last one", manyAfter(func(int) []int { return []int{many - 1} }), api.Closing{Order: slices.Concat([]int{many - 1}, rising[:many-1])}},
		{"the first one behind all", manyAfter(func(i int) []int { return rising[:many*(1-min(i, 1))] }), api.Closing{Order: slices.Concat(rising[1:], []int{0})}},
		{"all behind two that wait for one another", manyAfter(func(i int) []int { return []int{many - 2, many - 1} }), api.Closing{Cycle: rising}},
		{"one list of one number", append([][]int{slices.Repeat([]int{1}, many)}, make([][]int, many-1)...), api.Closing{Order: slices.Concat([]int{1, 0}, rising[2:])}},
	} {
		if got := Order(c.after); !sameOrder(got, c.want) {
			t.Errorf("%s: %d and %d things", c.name, len(got.Order), len(got.Cycle))
		}
		l, good := Close(c.after, nil)
		if want, _ := chapterClose(c.want, nil); !good || !sameAll(l, want) {
			t.Errorf("%s: %d closed, %t", c.name, len(l), good)
		}
	}
}

// P22.1: each of a thousand things behind all greater ones.
func TestOrderDense(t *testing.T) {
	rising := numbersTo(1000, false)
	after := make([][]int, len(rising))
	for i := range after {
		after[i] = rising[i:]
	}
	if got := Order(after); !sameOrder(got, api.Closing{Order: numbersTo(len(rising), true)}) {
		t.Error(got)
	}
	after[len(after)-1] = rising
	if got := Order(after); !sameOrder(got, api.Closing{Cycle: rising}) {
		t.Error(got)
	}
}
