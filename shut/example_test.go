package shut

import (
	"slices"
	"testing"

	"conduit/api"
)

// chapterAfter is the first lists of the chapter's examples.
func chapterAfter() [][]int { return [][]int{{1}, {}, {0, 2, 9}} }

// The chapter's example 1.
func TestExampleOrder(t *testing.T) {
	for i, c := range []struct {
		after        [][]int
		order, cycle []int
	}{
		{chapterAfter(), []int{1, 0, 2}, nil},
		{[][]int{{1}, {0}, {1}, {}}, []int{3}, []int{0, 1, 2}},
	} {
		if got := orderAsSaid(t, c.after); !slices.Equal(got.Order, c.order) || !slices.Equal(got.Cycle, c.cycle) {
			t.Errorf("%d: %v", i, got)
		}
	}
}

// The chapter's example 2.
func TestExampleClose(t *testing.T) {
	l, good := closeAsSaid(t, chapterAfter(), []api.Result{{}, failed(7), {}})
	if want := []api.Done{{Id: 1, Result: failed(7)}, {Id: 0}, {Id: 2}}; good || !sameAll(l, want) {
		t.Errorf("%s, %t", show(l), good)
	}
	if bad, none := joinAsSaid(t, l); none || !sameAll(bad, []api.Done{{Id: 1, Result: failed(7)}}) {
		t.Errorf("%s, %t", show(bad), none)
	}
}

// The eighth of the ten examples of the whole: b, the first one, is closed behind a; after each other they are closed as they stand.
func TestExampleOfTheWhole(t *testing.T) {
	const b, a = 0, 1
	if got := orderAsSaid(t, [][]int{b: {a}, a: nil}); !slices.Equal(got.Order, []int{a, b}) || len(got.Cycle) > 0 {
		t.Error(got)
	}
	after := [][]int{b: {a}, a: {b}}
	if got := orderAsSaid(t, after); len(got.Order) > 0 || !slices.Equal(got.Cycle, []int{0, 1}) {
		t.Error(got)
	}
	if l, good := closeAsSaid(t, after, nil); !good || !slices.Equal(ids(l), []int64{0, 1}) {
		t.Errorf("%s, %t", show(l), good)
	}
}
